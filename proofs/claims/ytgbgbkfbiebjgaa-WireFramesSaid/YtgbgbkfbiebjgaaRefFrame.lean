/- gleberef01.Frame. -/
import Derived.Test.YtgbgbkfbiebjgaaFrame
namespace Go.Proofs.Ytgbgbkfbiebjgaa
open Go.RowKit
theorem cells_two (x y z u v : UInt8) (b c d e : Int) (hb : b = (y.toNat : Int)) (hc : c = (z.toNat : Int)) (hd : d = (u.toNat : Int)) (he : e = (v.toNat : Int)) (hx : x = 3) :
    (#[.int .u8 3, .int .u8 b, .int .u8 c, .int .u8 d, .int .u8 e] : Array Value) = (bv [x, y, z, u, v]).toArray := by
  subst hb; subst hc; subst hd; subst he; subst hx; rfl
theorem cells_four (y z u v : UInt8) (b c d e : Int) (hb : b = (y.toNat : Int)) (hc : c = (z.toNat : Int)) (hd : d = (u.toNat : Int)) (he : e = (v.toNat : Int)) :
    (#[.int .u8 b, .int .u8 c, .int .u8 d, .int .u8 e] : Array Value) = (bv [y, z, u, v]).toArray := by
  subst hb; subst hc; subst hd; subst he; rfl
set_option maxRecDepth 100000 in
set_option maxHeartbeats 800000 in
theorem refFrame_any (k : Nat) (A : Option Addr) (n c : Nat) (l : List UInt8) (w : World) (hk : k ≤ 255) (hr : Rd w w.heap.size A l) (hn : l.length = n) (hl : n ≤ 131072) :
    Calls Try.prog 22 #[.int .i64 (k : Int), .slice A n c] w (SlicePost w.heap.size (frameB k l) w) := by
  have HN := Lib.hid hn
  have hc5 := Lib.hid (cells_two 3 (UInt8.ofNat (k % 256)) (UInt8.ofNat (n % 256)) (UInt8.ofNat (n / 256 % 256)) (UInt8.ofNat (n / 256 / 256 % 256)) (k : Int) ((n : Int) % 256) ((n : Int) / 256 % 256) ((n : Int) / 65536)
    (by rw [ofNat_toNat (by omega)]; omega) (by rw [ofNat_toNat (by omega)]; omega) (by rw [ofNat_toNat (by omega)]; omega) (by rw [ofNat_toNat (by omega)]; omega) rfl)
  clear hn
  go_enter Try.func22, Try.ntmps22
  go_wp2_with (at_builtin; refine wpList_grow _ rfl (.tmp 22) (.tmp 23) _ rfl w.heap.size _ [3, UInt8.ofNat (k % 256), UInt8.ofNat (n % 256), UInt8.ofNat (n / 256 % 256), UInt8.ofNat (n / 256 / 256 % 256)] rfl (own_lit w w.heap.size _ _ hc5.out (by simp) (Nat.le_refl _)) _ l rfl (src_at n c (hr.below ((Below.refl _ _).alloc (Nat.le_refl _) _) (Nat.le_refl _)) HN.out) (by rw [HN.out]; simp only [List.length_cons, List.length_nil]; omega) (by simp) ?_; intro A1 n1 c1 w1 h1 hb1)
  have hbw1 : Below w.heap.size w w1 := ((Below.refl _ _).alloc (Nat.le_refl _) _).trans hb1
  have hs1 := hbw1.size
  have hl1 := h1.len
  simp only [List.length_append, List.length_cons, List.length_nil, HN.out] at hl1
  have hn1 : n1 ≤ 131077 := by omega
  refine (refsum_at A1 n1 c1 _ w1 h1.rd h1.len (by omega)).mono ?_
  rintro e w1 ⟨rfl, rfl⟩
  have h2 : Has w1 w.heap.size A1 n1 c1 (headB k l) := by
    have hN := HN.out
    simp only [headB, fixB, hN, List.cons_append, List.nil_append] at h1 ⊢
    exact h1
  have hsum : Crc.sum ([3, UInt8.ofNat (k % 256), UInt8.ofNat (n % 256), UInt8.ofNat (n / 256 % 256), UInt8.ofNat (n / 256 / 256 % 256)] ++ l) = Crc.sum (headB k l) := by
    have hN := HN.out
    simp only [headB, fixB, hN, List.cons_append, List.nil_append]
  rw [hsum]
  have hcl := Crc.sum_lt (headB k l)
  obtain ⟨s, hs⟩ : ∃ s, s = Crc.sum (headB k l) := ⟨_, rfl⟩
  rw [← hs] at hcl ⊢
  have hc4 := Lib.hid (cells_four (UInt8.ofNat (s % 256)) (UInt8.ofNat (s / 256 % 256)) (UInt8.ofNat (s / 256 / 256 % 256)) (UInt8.ofNat (s / 256 / 256 / 256 % 256)) ((s : Int) % 256) ((s : Int) / 256 % 256) ((s : Int) / 65536 % 256) ((s : Int) / 16777216)
    (by rw [ofNat_toNat (by omega)]; omega) (by rw [ofNat_toNat (by omega)]; omega) (by rw [ofNat_toNat (by omega)]; omega) (by rw [ofNat_toNat (by omega)]; omega))
  have HS := Lib.hid hs
  clear hs hsum h1 hb1 hl1 hr hc5
  go_wp2_with (at_builtin; refine wpList_grow _ rfl (.tmp 27) (.tmp 42) _ rfl w.heap.size _ _ rfl (h2.own.alloc _) _ [UInt8.ofNat (s % 256), UInt8.ofNat (s / 256 % 256), UInt8.ofNat (s / 256 / 256 % 256), UInt8.ofNat (s / 256 / 256 / 256 % 256)] rfl (src_of_rd 4 (rd_block _ hc4.out)) (by rw [h2.len]; simp only [List.length_cons, List.length_nil]; omega) (by simp; omega) ?_; intro A3 n3 c3 w3 h3 hb3)
  go_ret
  refine ⟨A3, n3, c3, rfl, ?_, (hbw1.alloc hs1 _).trans hb3⟩
  have hS := HS.out
  simp only [frameB, fixB, ← hS]
  exact h3
end Go.Proofs.Ytgbgbkfbiebjgaa
