/- gleberef04: which rectangles may be, areas, what two have together, windows. -/
import Derived.Test.YtgnhamhkpbadbaaWHalf
import Derived.Test.YtgnhamhkpbadbaaTRef
namespace Go.Proofs.Ytgnhamhkpbadbaa
open Go.RowKit
/-- May a rectangle have the number? -/
def nmB (n : Int) : Bool := decide (0 ≤ n ∧ n ≤ 1073741824)
theorem nmB_iff (n : Int) : nmB n = true ↔ 0 ≤ n ∧ n ≤ 1073741824 := by unfold nmB; exact decide_eq_true_iff
theorem fineR_nm (a b c d : Int) : fineR ⟨a, b, c, d⟩ = (nmB a && (nmB b && (nmB c && nmB d))) := by
  rw [Bool.eq_iff_iff, fineR_iff]
  simp only [Bool.and_eq_true, nmB_iff]
theorem wrNum_any (n : Int) (w : World) : Calls Try.prog 136 #[.int .i64 n] w fun e w' => e = .returned (.bool (nmB n)) ∧ w = w' := by
  by_cases h1 : 0 ≤ n
  · by_cases h2 : n ≤ 1073741824
    · rw [show nmB n = true from (nmB_iff n).2 ⟨h1, h2⟩]
      go_enter Try.func136, Try.ntmps136
      go_wp2
      go_ret
      exact ⟨rfl, rfl⟩
    · rw [show nmB n = false from Bool.eq_false_iff.2 fun e => h2 ((nmB_iff n).1 e).2]
      go_enter Try.func136, Try.ntmps136
      go_wp2
      go_ret
      exact ⟨rfl, rfl⟩
  · rw [show nmB n = false from Bool.eq_false_iff.2 fun e => h1 ((nmB_iff n).1 e).1]
    go_enter Try.func136, Try.ntmps136
    go_wp2
    go_ret
    exact ⟨rfl, rfl⟩
theorem wrNum_at {n : Int} {b : Bool} (h : nmB n = b) (w : World) : Calls Try.prog 136 #[.int .i64 n] w fun e w' => e = .returned (.bool b) ∧ w = w' := h ▸ wrNum_any n w
set_option maxHeartbeats 800000 in
theorem wrFine_any (a b c d : Int) (w : World) : Calls Try.prog 133 #[.agg #[.int .i64 a, .int .i64 b, .int .i64 c, .int .i64 d]] w fun e w' => e = .returned (.bool (fineR ⟨a, b, c, d⟩)) ∧ Below w.heap.size w w' := by
  rw [fineR_nm]
  obtain ⟨w0, hw0⟩ : ∃ w0, w0 = w.alloc (.cells #[.int .i64 a, .int .i64 b, .int .i64 c, .int .i64 d] 121) := ⟨_, rfl⟩
  have hs0 : Since w w0 := by rw [hw0]; exact (Since.refl w).alloc _
  have wh0 : Whole w0 (w.heap.size) 121 #[.int .i64 a, .int .i64 b, .int .i64 c, .int .i64 d] := by rw [hw0]; exact Whole.new w _ _
  have HW := Lib.hid hw0
  have c0_0 := box_cell wh0 0 (.int .i64 a) rfl
  have c0_1 := box_cell wh0 1 (.int .i64 b) rfl
  have c0_2 := box_cell wh0 2 (.int .i64 c) rfl
  have c0_3 := box_cell wh0 3 (.int .i64 d) rfl
  have hsr := Since.refl w0
  have hsd := hsr.drew
  clear hw0 wh0
  cases ha : nmB a
  · replace ha := Lib.hid ha
    go_enter Try.func133, Try.ntmps133
    go_wp2_with fail
    rw [← HW.out]
    go_wp2_with (go_at_call 136; (with_reducible refine (Calls.since_same (by assumption) (wrNum_at (by first | exact ha.out) _)).mono ?_); rintro e w' ⟨rfl, hb⟩)
    go_ret
    exact ⟨rfl, hs0.trans (by assumption)⟩
  · replace ha := Lib.hid ha
    cases hb : nmB b
    · replace hb := Lib.hid hb
      go_enter Try.func133, Try.ntmps133
      go_wp2_with fail
      rw [← HW.out]
      go_wp2_with (go_at_call 136; (with_reducible refine (Calls.since_same (by assumption) (wrNum_at (by first | exact ha.out | exact hb.out) _)).mono ?_); rintro e w' ⟨rfl, hb1⟩)
      go_ret
      exact ⟨rfl, hs0.trans (by assumption)⟩
    · replace hb := Lib.hid hb
      cases hc : nmB c
      · replace hc := Lib.hid hc
        go_enter Try.func133, Try.ntmps133
        go_wp2_with fail
        rw [← HW.out]
        go_wp2_with (go_at_call 136; (with_reducible refine (Calls.since_same (by assumption) (wrNum_at (by first | exact ha.out | exact hb.out | exact hc.out) _)).mono ?_); rintro e w' ⟨rfl, hb1⟩)
        go_ret
        exact ⟨rfl, hs0.trans (by assumption)⟩
      · replace hc := Lib.hid hc
        obtain ⟨z, hd⟩ : ∃ z, nmB d = z := ⟨_, rfl⟩
        rw [hd]
        replace hd := Lib.hid hd
        go_enter Try.func133, Try.ntmps133
        go_wp2_with fail
        rw [← HW.out]
        go_wp2_with (go_at_call 136; (with_reducible refine (Calls.since_same (by assumption) (wrNum_at (by first | exact ha.out | exact hb.out | exact hc.out | exact hd.out) _)).mono ?_); rintro e w' ⟨rfl, hb1⟩)
        go_ret
        exact ⟨rfl, hs0.trans (by assumption)⟩
theorem wrFine_at {a b c d : Int} {z : Bool} (h : fineR ⟨a, b, c, d⟩ = z) (w : World) : Calls Try.prog 133 #[.agg #[.int .i64 a, .int .i64 b, .int .i64 c, .int .i64 d]] w fun e w' => e = .returned (.bool z) ∧ Below w.heap.size w w' := h ▸ wrFine_any a b c d w
set_option maxHeartbeats 800000 in
theorem wrArea_any (a b c d : Int) (w : World) : Calls Try.prog 123 #[.agg #[.int .i64 a, .int .i64 b, .int .i64 c, .int .i64 d]] w fun e w' => e = .returned (.int .i64 (areaR ⟨a, b, c, d⟩)) ∧ Below w.heap.size w w' := by
  obtain ⟨w0, hw0⟩ : ∃ w0, w0 = w.alloc (.cells #[.int .i64 a, .int .i64 b, .int .i64 c, .int .i64 d] 121) := ⟨_, rfl⟩
  have hs0 : Since w w0 := by rw [hw0]; exact (Since.refl w).alloc _
  have wh0 : Whole w0 (w.heap.size) 121 #[.int .i64 a, .int .i64 b, .int .i64 c, .int .i64 d] := by rw [hw0]; exact Whole.new w _ _
  have HW := Lib.hid hw0
  have c0_0 := box_cell wh0 0 (.int .i64 a) rfl
  have c0_1 := box_cell wh0 1 (.int .i64 b) rfl
  have c0_2 := box_cell wh0 2 (.int .i64 c) rfl
  have c0_3 := box_cell wh0 3 (.int .i64 d) rfl
  have hsr := Since.refl w0
  have hsd := hsr.drew
  clear hw0 wh0
  cases h : fineR ⟨a, b, c, d⟩
  · rw [show areaR ⟨a, b, c, d⟩ = 0 from if_neg (by rw [h]; exact Bool.false_ne_true)]
    replace h := Lib.hid h
    go_enter Try.func123, Try.ntmps123
    go_wp2_with fail
    rw [← HW.out]
    go_wp2_with (go_at_call 133; (with_reducible refine (Calls.since (by assumption) (wrFine_at h.out _)).mono ?_); rintro e w' ⟨rfl, hb⟩)
    go_ret
    exact ⟨rfl, hs0.trans hb⟩
  · have h1 := (fineR_iff _).1 h
    dsimp only at h1
    have h2 : 0 ≤ c * d := Int.mul_nonneg (by omega) (by omega)
    have h3 : c * d ≤ 1073741824 * 1073741824 := Int.mul_le_mul (by omega) (by omega) (by omega) (by omega)
    have h4 : wrap64 (c * d) = c * d := IntWalk.wrap64_in _ ⟨by omega, by omega⟩
    rw [show areaR ⟨a, b, c, d⟩ = c * d from if_pos h]
    replace h := Lib.hid h
    clear h1 h2 h3
    go_enter Try.func123, Try.ntmps123
    go_wp2_with fail
    rw [← HW.out]
    go_wp2_with (go_at_call 133; (with_reducible refine (Calls.since (by assumption) (wrFine_at h.out _)).mono ?_); rintro e w' ⟨rfl, hb⟩)
    go_ret
    exact ⟨ret_int h4, hs0.trans hb⟩
theorem wrArea_at {a b c d v : Int} (h : areaR ⟨a, b, c, d⟩ = v) (w : World) : Calls Try.prog 123 #[.agg #[.int .i64 a, .int .i64 b, .int .i64 c, .int .i64 d]] w fun e w' => e = .returned (.int .i64 v) ∧ Below w.heap.size w w' := h ▸ wrArea_any a b c d w
end Go.Proofs.Ytgnhamhkpbadbaa
