/- torus.Move: a cell, moved; or none. -/
import Derived.Test.YtgnligeiojdmhaaTHas
namespace Go.Proofs.Ytgnligeiojdmhaa
open Go.RowKit
/-- May a step be so far? -/
def may (d : Int) : Bool := decide (-1073741824 ≤ d ∧ d ≤ 1073741824)
theorem may_iff (d : Int) : may d = true ↔ -1073741824 ≤ d ∧ d ≤ 1073741824 := by unfold may; exact decide_eq_true_iff
theorem may_at {d : Int} {b : Bool} (h : may d = b) (w : World) : Calls Try.prog 30 #[.int .i64 d] w fun e w' => e = .returned (.bool b) ∧ w = w' := h ▸ mayStep_any d w
theorem has_at {k x y : Int} {b : Bool} (h : hasB k x y = b) (w : World) : Calls Try.prog 19 #[.agg #[.int .i64 k], .agg #[.int .i64 x, .int .i64 y]] w fun e w' => e = .returned (.bool b) ∧ Below w.heap.size w w' := h ▸ has_any k x y w
/-- The moved cell may be. -/
def mvB (k x y dx dy : Int) : Bool := hasB k x y && (may dx && may dy)
section
variable (k x y dx dy : Int) (w : World)
set_option maxHeartbeats 400000 in
theorem move_yes (h : mvB k x y dx dy = true) : Calls Try.prog 10 #[.agg #[.int .i64 k], .agg #[.int .i64 x, .int .i64 y], .int .i64 dx, .int .i64 dy] w fun e w' => e = .returned (.tuple #[.agg #[.int .i64 ((x + dx) % sd k), .int .i64 ((y + dy) % sd k)], .int .i64 0]) ∧ Below w.heap.size w w' := by
  unfold mvB at h
  rw [Bool.and_eq_true, Bool.and_eq_true] at h
  obtain ⟨ha, hd1, hd2⟩ := h
  have hb := (hasB_iff k x y).1 ha
  have hs := side_bd k
  have hm1 := (may_iff dx).1 hd1
  have hm2 := (may_iff dy).1 hd2
  obtain ⟨w0, hw0⟩ : ∃ w0, w0 = ((w.alloc (.cells #[.int .i64 k] 25)).alloc (.cells #[.int .i64 x, .int .i64 y] 23)).alloc (.cells #[.int .i64 0, .int .i64 0] 23) := ⟨_, rfl⟩
  have hs0 : Since w w0 := by rw [hw0]; exact (((Since.refl w).alloc _).alloc _).alloc _
  have wh0 : Whole w0 (w.heap.size) 25 #[.int .i64 k] := by rw [hw0]; exact ((Whole.new w _ _).alloc _).alloc _
  have wh1 : Whole w0 (w.heap.size + 1) 23 #[.int .i64 x, .int .i64 y] := by rw [hw0]; exact ((Whole.new (w.alloc _) _ _).alloc _).at_ (by simp)
  have wh2 : Whole w0 (w.heap.size + 1 + 1) 23 #[.int .i64 0, .int .i64 0] := by rw [hw0]; exact (Whole.new ((w.alloc _).alloc _) _ _).at_ (by simp)
  have HW := Lib.hid hw0
  have c0_0 := box_cell wh0 0 (.int .i64 k) rfl
  have c1_0 := box_cell wh1 0 (.int .i64 x) rfl
  have c1_1 := box_cell wh1 1 (.int .i64 y) rfl
  have c2_0 := box_cell wh2 0 (.int .i64 0) rfl
  have f2_0 := box_free wh2 0
  have c2_1 := box_cell wh2 1 (.int .i64 0) rfl
  have f2_1 := box_free wh2 1
  have hsr := Since.refl w0
  have hsd := hsr.drew
  clear hw0 wh0 wh1 wh2
  replace ha := Lib.hid ha
  replace hd1 := Lib.hid hd1
  replace hd2 := Lib.hid hd2
  go_enter Try.func10, Try.ntmps10
  go_wp2_with fail
  rw [← HW.out]
  go_wp2_with (first
    | (go_at_call 19; (with_reducible refine (Calls.since (by assumption) (has_at ha.out _)).mono ?_); rintro e w' ⟨rfl, hb1⟩)
    | (go_at_call 30; (with_reducible refine (may_at (by first | exact hd1.out | exact hd2.out) _).mono ?_); rintro e w' ⟨rfl, rfl⟩)
    | (go_at_call 21; (with_reducible refine (Calls.since (by assumption) (wrap_any _ _ _ _)).mono ?_); rintro e w2 ⟨rfl, hb2⟩))
  have g1 := c2_0 w2 hb2
  have g2 := c2_1 w2 hb2
  exact bodyPost_ret (v := .tuple #[.agg #[.int .i64 ((x + dx) % sd k), .int .i64 ((y + dy) % sd k)], .int .i64 0]) (by simp [results, Try.results10, go_sem, g1, g2]) rfl ⟨rfl, Below.setCell (Below.setCell (hs0.trans hb2) (by simp; omega) _) (by simp; omega) _⟩
set_option maxHeartbeats 400000 in
theorem move_no (h : mvB k x y dx dy = false) : Calls Try.prog 10 #[.agg #[.int .i64 k], .agg #[.int .i64 x, .int .i64 y], .int .i64 dx, .int .i64 dy] w fun e w' => e = .returned (.tuple #[.agg #[.int .i64 0, .int .i64 0], .int .i64 1]) ∧ Below w.heap.size w w' := by
  have hc : hasB k x y = false ∨ (hasB k x y = true ∧ may dx = false) ∨ (hasB k x y = true ∧ may dx = true ∧ may dy = false) := by
    unfold mvB at h
    cases h1 : hasB k x y <;> cases h2 : may dx <;> cases h3 : may dy <;> rw [h1, h2, h3] at h <;> simp at h ⊢
  obtain ⟨w0, hw0⟩ : ∃ w0, w0 = ((w.alloc (.cells #[.int .i64 k] 25)).alloc (.cells #[.int .i64 x, .int .i64 y] 23)).alloc (.cells #[.int .i64 0, .int .i64 0] 23) := ⟨_, rfl⟩
  have hs0 : Since w w0 := by rw [hw0]; exact (((Since.refl w).alloc _).alloc _).alloc _
  have wh0 : Whole w0 (w.heap.size) 25 #[.int .i64 k] := by rw [hw0]; exact ((Whole.new w _ _).alloc _).alloc _
  have wh1 : Whole w0 (w.heap.size + 1) 23 #[.int .i64 x, .int .i64 y] := by rw [hw0]; exact ((Whole.new (w.alloc _) _ _).alloc _).at_ (by simp)
  have wh2 : Whole w0 (w.heap.size + 1 + 1) 23 #[.int .i64 0, .int .i64 0] := by rw [hw0]; exact (Whole.new ((w.alloc _).alloc _) _ _).at_ (by simp)
  have HW := Lib.hid hw0
  have c0_0 := box_cell wh0 0 (.int .i64 k) rfl
  have c1_0 := box_cell wh1 0 (.int .i64 x) rfl
  have c1_1 := box_cell wh1 1 (.int .i64 y) rfl
  have c2_0 := box_cell wh2 0 (.int .i64 0) rfl
  have f2_0 := box_free wh2 0
  have c2_1 := box_cell wh2 1 (.int .i64 0) rfl
  have f2_1 := box_free wh2 1
  have hsr := Since.refl w0
  have hsd := hsr.drew
  clear hw0 wh0 wh1 wh2
  clear h
  rcases hc with h | ⟨h, h2⟩ | ⟨h, h2, h3⟩
  · replace h := Lib.hid h
    go_enter Try.func10, Try.ntmps10
    go_wp2_with fail
    rw [← HW.out]
    go_wp2_with (first
      | (go_at_call 19; (with_reducible refine (Calls.since (by assumption) (has_at h.out _)).mono ?_); rintro e w2 ⟨rfl, hb2⟩)
      | (go_at_call 30; (with_reducible refine (may_at (by fail) _).mono ?_); rintro e w' ⟨rfl, rfl⟩))
    have g1 := c2_0 w2 hb2
    have g2 := c2_1 w2 hb2
    exact bodyPost_ret (v := .tuple #[.agg #[.int .i64 0, .int .i64 0], .int .i64 1]) (by simp [results, Try.results10, go_sem, g1, g2]) rfl ⟨rfl, Below.setCell (Below.setCell (hs0.trans hb2) (by simp; omega) _) (by simp; omega) _⟩
  · replace h := Lib.hid h; replace h2 := Lib.hid h2
    go_enter Try.func10, Try.ntmps10
    go_wp2_with fail
    rw [← HW.out]
    go_wp2_with (first
      | (go_at_call 19; (with_reducible refine (Calls.since (by assumption) (has_at h.out _)).mono ?_); rintro e w2 ⟨rfl, hb2⟩)
      | (go_at_call 30; (with_reducible refine (may_at (by exact h2.out) _).mono ?_); rintro e w' ⟨rfl, rfl⟩))
    have g1 := c2_0 w2 hb2
    have g2 := c2_1 w2 hb2
    exact bodyPost_ret (v := .tuple #[.agg #[.int .i64 0, .int .i64 0], .int .i64 1]) (by simp [results, Try.results10, go_sem, g1, g2]) rfl ⟨rfl, Below.setCell (Below.setCell (hs0.trans hb2) (by simp; omega) _) (by simp; omega) _⟩
  · replace h := Lib.hid h; replace h2 := Lib.hid h2; replace h3 := Lib.hid h3
    go_enter Try.func10, Try.ntmps10
    go_wp2_with fail
    rw [← HW.out]
    go_wp2_with (first
      | (go_at_call 19; (with_reducible refine (Calls.since (by assumption) (has_at h.out _)).mono ?_); rintro e w2 ⟨rfl, hb2⟩)
      | (go_at_call 30; (with_reducible refine (may_at (by first | exact h2.out | exact h3.out) _).mono ?_); rintro e w' ⟨rfl, rfl⟩))
    have g1 := c2_0 w2 hb2
    have g2 := c2_1 w2 hb2
    exact bodyPost_ret (v := .tuple #[.agg #[.int .i64 0, .int .i64 0], .int .i64 1]) (by simp [results, Try.results10, go_sem, g1, g2]) rfl ⟨rfl, Below.setCell (Below.setCell (hs0.trans hb2) (by simp; omega) _) (by simp; omega) _⟩
end
end Go.Proofs.Ytgnligeiojdmhaa
