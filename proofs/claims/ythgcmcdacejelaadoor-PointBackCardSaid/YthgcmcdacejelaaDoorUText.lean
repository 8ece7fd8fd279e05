/- wire.Text and gleberef01.Text. -/
import Derived.Test.YthgcmcdacejelaaDoorUMem
namespace Go.Proofs.YthgcmcdacejelaaDoor
open Go.RowKit
def textB (l : List UInt8) : List UInt8 := numB l.length ++ l
theorem text_long (s : ByteArray) (w : World) (h : (131072 : Int) < s.size) :
    Calls Tryd.prog 72 #[.string s] w (SliceNumPost w.heap.size [] 6 w) := by
  go_enter Tryd.func72, Tryd.ntmps72
  go_wp2
  go_ret2
  exact ⟨none, 0, 0, rfl, Has.nil _ _, Below.refl _ _⟩
set_option maxRecDepth 100000 in
theorem text_good (s : ByteArray) (w : World) (h : (s.size : Int) ≤ 131072) :
    Calls Tryd.prog 72 #[.string s] w (SliceNumPost w.heap.size (textB s.data.toList) 0 w) := by
  have hsz := Lib.hid (show s.data.toList.length = s.size by simp)
  go_enter Tryd.func72, Tryd.ntmps72
  go_wp2_with fail
  refine (appendNum_at w.heap.size none 0 0 [] _ w (Has.nil _ _) (Nat.le_refl _) (by omega) (by omega) (by omega)).mono ?_
  rintro e w1 ⟨A1, n1, c1, rfl, h1, hb1⟩
  have hs1 := hb1.size
  have hl1 : (([] ++ numB ((s.size : Int)).toNat) : List UInt8).length ≤ 9 := by
    rw [List.nil_append]
    exact numB_le (by omega)
  go_wp2_with (at_builtin; refine wpList_grow _ rfl (.tmp 9) (.tmp 10) _ rfl w.heap.size _ _ rfl h1.own _ s.data.toList rfl (src_of_text _ s) (by rw [hsz.out]; omega) hs1 ?_; intro A2 n2 c2 w2 h2 hb2)
  go_ret2
  refine ⟨A2, n2, c2, rfl, ?_, hb1.trans hb2⟩
  have e : ((s.size : Int)).toNat = s.data.toList.length := by rw [hsz.out]; simp
  rw [e] at h2
  exact h2
theorem textLaw_any (s : ByteArray) (w : World) (h : (s.size : Int) ≤ 131072) :
    Calls Tryd.prog 72 #[.string s] w (SliceNumPost w.heap.size (textB s.data.toList) 0 w) := text_good s w h
set_option maxRecDepth 100000 in
theorem refText_any (s : ByteArray) (w : World) (h : (s.size : Int) ≤ 131072) :
    Calls Tryd.prog 59 #[.string s] w (SlicePost w.heap.size (textB s.data.toList) w) := by
  have hsz := Lib.hid (show s.data.toList.length = s.size by simp)
  go_enter Tryd.func59, Tryd.ntmps59
  go_wp2_with fail
  refine (refNum_any _ w).mono ?_
  rintro e w1 ⟨v1, rfl, h1, hb1⟩
  have hs1 := hb1.size
  have e1 : numL (s.size : Int) = numB s.data.toList.length := by
    unfold numL
    rw [if_pos (by omega), hsz.out]
    rfl
  rw [e1] at h1
  have hl1 : (numB s.data.toList.length).length ≤ 9 := numB_le (by rw [hsz.out]; omega)
  clear e1
  go_wp2_with (at_builtin; refine wpList_grow _ rfl (.tmp 5) (.tmp 6) _ rfl w.heap.size _ _ rfl h1 _ s.data.toList rfl (src_of_text _ s) (by have := hsz.out; omega) hs1 ?_; intro A2 n2 c2 w2 h2 hb2)
  go_ret
  exact ⟨A2, n2, c2, rfl, h2, hb1.trans hb2⟩
end Go.Proofs.YthgcmcdacejelaaDoor
