/- The law's own knows: it is true. -/
import Derived.Test.YtgbgbkfbiebjgaaUnframe
import Derived.Test.YtgbgbkfbiebjgaaBack
import Derived.Lib.SlBytesConst
namespace Go.Proofs.Ytgbgbkfbiebjgaa
open Go.RowKit
theorem cells_ab : (#[.int .u8 97, .int .u8 98] : Array Value) = (bv [97, 98]).toArray := rfl
theorem cells_nine : (#[.int .u8 49, .int .u8 50, .int .u8 51, .int .u8 52, .int .u8 53, .int .u8 54, .int .u8 55, .int .u8 56, .int .u8 57] : Array Value) = (bv [49, 50, 51, 52, 53, 54, 55, 56, 57]).toArray := rfl
theorem sum_nine : Crc.sum [49, 50, 51, 52, 53, 54, 55, 56, 57] = 3421780262 := by decide +kernel
theorem rd_mark {w : World} {cs : Array Value} (fr : Nat × Nat) (l : List UInt8) (h : cs = (bv l).toArray) : Rd (w.alloc (.cells cs 5 fr)) (w.alloc (.cells cs 5 fr)).heap.size (some ⟨w.heap.size, 0, none⟩) l := by
  refine .inr ⟨w.heap.size, 0, rfl, by simp, fun i hi => ?_⟩
  subst h
  rw [World.cell?_alloc_mark]
  simp [bv, hi]
theorem frame_ab (A : Option Addr) (c : Nat) (w : World) (hr : Rd w w.heap.size A [97, 98]) : Calls Try.prog 21 #[.int .i64 7, .slice A 2 c] w (SliceNumPost w.heap.size (frameB 7 [97, 98]) 0 w) :=
  frame_good 7 A 2 c [97, 98] w (by omega) hr rfl (by omega)
theorem unframe_ab (A : Option Addr) (n c base : Nat) (w : World) (h : Has w base A n c (frameB 7 [97, 98])) : Calls Try.prog 23 #[.slice A n c] w (UnPost 7 [97, 98] 0 w) := by
  have hl := h.len
  rw [frameB_length] at hl
  have := unframe_any A n c _ w h.rd h.len h.cap (by simp at hl; omega)
  rw [unE_frame 7 _ (by simp), unK_frame 7 _ (by simp) (by omega), unC_frame 7 _ (by simp)] at this
  exact this
theorem sum_nine_any (A : Option Addr) (c : Nat) (w : World) (h : Rd w w.heap.size A [49, 50, 51, 52, 53, 54, 55, 56, 57]) :
    Calls Try.prog 13 #[.slice A 9 c] w fun e w' => e = .returned (.int .i64 3421780262) ∧ Below w.heap.size w w' := by
  have := sum_at A 9 c _ w h rfl (by omega)
  rw [sum_nine] at this
  exact this
set_option maxRecDepth 100000 in
set_option maxHeartbeats 800000 in
theorem knows_any (w : World) : Calls Try.prog 11 #[] w fun e w' => e = .returned (.bool true) ∧ Below w.heap.size w w' := by
  have kc := fun (w : World) (C : Array Value) (n c : Nat) => Lib.run_convert_bytes_const (P := Try.prog) w 22 5 C n c Try.underlying22 Try.underlying5
  go_enter Try.func11, Try.ntmps11
  go_wp2_with fail
  refine (frame_ab _ _ _ (rd_mark _ _ cells_ab)).mono ?_
  rintro e w1 ⟨A1, n1, c1, rfl, h1, hb1⟩
  have hbw1 : Below w.heap.size w w1 := ((Below.refl w.heap.size w).alloc (Nat.le_refl _) _).trans (hb1.mono (by simp))
  have hn1 : n1 = 11 := by have := h1.len; rw [frameB_length] at this; simp at this; omega
  subst hn1
  clear hb1
  have hs1 := hbw1.size
  go_wp2_with fail
  refine (unframe_ab A1 _ c1 _ _ h1).mono ?_
  rintro e w2 ⟨A2, n2, c2, rfl, h2, hb2⟩
  have hbw2 : Below w.heap.size w w2 := hbw1.trans (hb2.mono hs1)
  have hs2 := hbw2.size
  have hn2 : n2 = 2 := h2.len.symm
  subst hn2
  have h1' := h1.below hb2
  clear h1 hb2
  go_wp2_with fail
  refine (sum_nine_any _ _ _ (rd_mark _ _ cells_nine)).mono ?_
  rintro e w3 ⟨rfl, hb3⟩
  have hbw3 : Below w.heap.size w w3 := (hbw2.alloc hs2 _).trans (hb3.mono (by simp; omega))
  have ht := text_of w3 2 c2 ((h2.rd.keep (w' := w3) (fun p hp => (hb3.cell (by simp; omega)).trans (World.cell?_alloc_lt w2 _ p hp)))) h2.len
  clear hb3 h1' h2 hbw1 hbw2
  go_wp2_with (go_at_call 19; (with_reducible refine (law_num_any _ _).mono ?_); rintro e w' ⟨rfl, rfl⟩)
  go_ret
  exact ⟨rfl, hbw3⟩
end Go.Proofs.Ytgbgbkfbiebjgaa
