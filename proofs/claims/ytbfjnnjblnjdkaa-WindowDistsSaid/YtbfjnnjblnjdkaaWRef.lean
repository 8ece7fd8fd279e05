/- gleberef04: which rectangles may be, areas, what two have together, windows. -/
import Derived.Test.YtbfjnnjblnjdkaaWHalf
import Derived.Test.YtbfjnnjblnjdkaaTRef
namespace Go.Proofs.Ytbfjnnjblnjdkaa
open Go.RowKit
/-- May a rectangle have the number? -/
def nmB (n : Int) : Bool := decide (0 ≤ n ∧ n ≤ 1073741824)
theorem nmB_iff (n : Int) : nmB n = true ↔ 0 ≤ n ∧ n ≤ 1073741824 := by unfold nmB; exact decide_eq_true_iff
theorem fineR_nm (a b c d : Int) : fineR ⟨a, b, c, d⟩ = (nmB a && (nmB b && (nmB c && nmB d))) := by
  rw [Bool.eq_iff_iff, fineR_iff]
  simp only [Bool.and_eq_true, nmB_iff]
theorem wrNum_any (n : Int) (w : World) : Calls Try.prog 67 #[.int .i64 n] w fun e w' => e = .returned (.bool (nmB n)) ∧ w = w' := by
  by_cases h1 : 0 ≤ n
  · by_cases h2 : n ≤ 1073741824
    · rw [show nmB n = true from (nmB_iff n).2 ⟨h1, h2⟩]
      go_enter Try.func67, Try.ntmps67
      go_wp2
      go_ret
      exact ⟨rfl, rfl⟩
    · rw [show nmB n = false from Bool.eq_false_iff.2 fun e => h2 ((nmB_iff n).1 e).2]
      go_enter Try.func67, Try.ntmps67
      go_wp2
      go_ret
      exact ⟨rfl, rfl⟩
  · rw [show nmB n = false from Bool.eq_false_iff.2 fun e => h1 ((nmB_iff n).1 e).1]
    go_enter Try.func67, Try.ntmps67
    go_wp2
    go_ret
    exact ⟨rfl, rfl⟩
theorem wrNum_at {n : Int} {b : Bool} (h : nmB n = b) (w : World) : Calls Try.prog 67 #[.int .i64 n] w fun e w' => e = .returned (.bool b) ∧ w = w' := h ▸ wrNum_any n w
set_option maxHeartbeats 800000 in
theorem wrFine_any (a b c d : Int) (w : World) : Calls Try.prog 59 #[.agg #[.int .i64 a, .int .i64 b, .int .i64 c, .int .i64 d]] w fun e w' => e = .returned (.bool (fineR ⟨a, b, c, d⟩)) ∧ Below w.heap.size w w' := by
  rw [fineR_nm]
  obtain ⟨w0, hw0⟩ : ∃ w0, w0 = w.alloc (.cells #[.int .i64 a, .int .i64 b, .int .i64 c, .int .i64 d] 23) := ⟨_, rfl⟩
  have hs0 : Since w w0 := by rw [hw0]; exact (Since.refl w).alloc _
  have wh0 : Whole w0 (w.heap.size) 23 #[.int .i64 a, .int .i64 b, .int .i64 c, .int .i64 d] := by rw [hw0]; exact Whole.new w _ _
  have HW := Lib.hid hw0
  have c0_0 := box_cell wh0 0 (.int .i64 a) rfl
  have c0_1 := box_cell wh0 1 (.int .i64 b) rfl
  have c0_2 := box_cell wh0 2 (.int .i64 c) rfl
  have c0_3 := box_cell wh0 3 (.int .i64 d) rfl
  have hsr := Since.refl w0
  have hsd := hsr.drew
  clear hw0 wh0
  cases ha : nmB a
  · replace ha := Lib.hid ha
    go_enter Try.func59, Try.ntmps59
    go_wp2_with fail
    rw [← HW.out]
    go_wp2_with (go_at_call 67; (with_reducible refine (Calls.since_same (by assumption) (wrNum_at (by first | exact ha.out) _)).mono ?_); rintro e w' ⟨rfl, hb⟩)
    go_ret
    exact ⟨rfl, hs0.trans (by assumption)⟩
  · replace ha := Lib.hid ha
    cases hb : nmB b
    · replace hb := Lib.hid hb
      go_enter Try.func59, Try.ntmps59
      go_wp2_with fail
      rw [← HW.out]
      go_wp2_with (go_at_call 67; (with_reducible refine (Calls.since_same (by assumption) (wrNum_at (by first | exact ha.out | exact hb.out) _)).mono ?_); rintro e w' ⟨rfl, hb1⟩)
      go_ret
      exact ⟨rfl, hs0.trans (by assumption)⟩
    · replace hb := Lib.hid hb
      cases hc : nmB c
      · replace hc := Lib.hid hc
        go_enter Try.func59, Try.ntmps59
        go_wp2_with fail
        rw [← HW.out]
        go_wp2_with (go_at_call 67; (with_reducible refine (Calls.since_same (by assumption) (wrNum_at (by first | exact ha.out | exact hb.out | exact hc.out) _)).mono ?_); rintro e w' ⟨rfl, hb1⟩)
        go_ret
        exact ⟨rfl, hs0.trans (by assumption)⟩
      · replace hc := Lib.hid hc
        obtain ⟨z, hd⟩ : ∃ z, nmB d = z := ⟨_, rfl⟩
        rw [hd]
        replace hd := Lib.hid hd
        go_enter Try.func59, Try.ntmps59
        go_wp2_with fail
        rw [← HW.out]
        go_wp2_with (go_at_call 67; (with_reducible refine (Calls.since_same (by assumption) (wrNum_at (by first | exact ha.out | exact hb.out | exact hc.out | exact hd.out) _)).mono ?_); rintro e w' ⟨rfl, hb1⟩)
        go_ret
        exact ⟨rfl, hs0.trans (by assumption)⟩
theorem wrFine_at {a b c d : Int} {z : Bool} (h : fineR ⟨a, b, c, d⟩ = z) (w : World) : Calls Try.prog 59 #[.agg #[.int .i64 a, .int .i64 b, .int .i64 c, .int .i64 d]] w fun e w' => e = .returned (.bool z) ∧ Below w.heap.size w w' := h ▸ wrFine_any a b c d w
set_option maxHeartbeats 800000 in
theorem wrArea_any (a b c d : Int) (w : World) : Calls Try.prog 39 #[.agg #[.int .i64 a, .int .i64 b, .int .i64 c, .int .i64 d]] w fun e w' => e = .returned (.int .i64 (areaR ⟨a, b, c, d⟩)) ∧ Below w.heap.size w w' := by
  obtain ⟨w0, hw0⟩ : ∃ w0, w0 = w.alloc (.cells #[.int .i64 a, .int .i64 b, .int .i64 c, .int .i64 d] 23) := ⟨_, rfl⟩
  have hs0 : Since w w0 := by rw [hw0]; exact (Since.refl w).alloc _
  have wh0 : Whole w0 (w.heap.size) 23 #[.int .i64 a, .int .i64 b, .int .i64 c, .int .i64 d] := by rw [hw0]; exact Whole.new w _ _
  have HW := Lib.hid hw0
  have c0_0 := box_cell wh0 0 (.int .i64 a) rfl
  have c0_1 := box_cell wh0 1 (.int .i64 b) rfl
  have c0_2 := box_cell wh0 2 (.int .i64 c) rfl
  have c0_3 := box_cell wh0 3 (.int .i64 d) rfl
  have hsr := Since.refl w0
  have hsd := hsr.drew
  clear hw0 wh0
  cases h : fineR ⟨a, b, c, d⟩
  · rw [show areaR ⟨a, b, c, d⟩ = 0 from if_neg (by rw [h]; exact Bool.false_ne_true)]
    replace h := Lib.hid h
    go_enter Try.func39, Try.ntmps39
    go_wp2_with fail
    rw [← HW.out]
    go_wp2_with (go_at_call 59; (with_reducible refine (Calls.since (by assumption) (wrFine_at h.out _)).mono ?_); rintro e w' ⟨rfl, hb⟩)
    go_ret
    exact ⟨rfl, hs0.trans hb⟩
  · have h1 := (fineR_iff _).1 h
    dsimp only at h1
    have h2 : 0 ≤ c * d := Int.mul_nonneg (by omega) (by omega)
    have h3 : c * d ≤ 1073741824 * 1073741824 := Int.mul_le_mul (by omega) (by omega) (by omega) (by omega)
    have h4 : wrap64 (c * d) = c * d := IntWalk.wrap64_in _ ⟨by omega, by omega⟩
    rw [show areaR ⟨a, b, c, d⟩ = c * d from if_pos h]
    replace h := Lib.hid h
    clear h1 h2 h3
    go_enter Try.func39, Try.ntmps39
    go_wp2_with fail
    rw [← HW.out]
    go_wp2_with (go_at_call 59; (with_reducible refine (Calls.since (by assumption) (wrFine_at h.out _)).mono ?_); rintro e w' ⟨rfl, hb⟩)
    go_ret
    exact ⟨ret_int h4, hs0.trans hb⟩
theorem wrArea_at {a b c d v : Int} (h : areaR ⟨a, b, c, d⟩ = v) (w : World) : Calls Try.prog 39 #[.agg #[.int .i64 a, .int .i64 b, .int .i64 c, .int .i64 d]] w fun e w' => e = .returned (.int .i64 v) ∧ Below w.heap.size w w' := h ▸ wrArea_any a b c d w
set_option maxHeartbeats 1600000 in
theorem wrWin_any (k a b c d : Int) (w : World) : Calls Try.prog 33 #[.int .i64 k, .agg #[.int .i64 a, .int .i64 b, .int .i64 c, .int .i64 d]] w fun e w' => e = .returned (.bool (winR k ⟨a, b, c, d⟩)) ∧ Below w.heap.size w w' := by
  have hi := winR_iff k ⟨a, b, c, d⟩
  obtain ⟨S, hS⟩ : ∃ S, side k = S := ⟨_, rfl⟩
  rw [hS] at hi
  have HS := Lib.hid hS
  clear hS
  obtain ⟨w0, hw0⟩ : ∃ w0, w0 = w.alloc (.cells #[.int .i64 a, .int .i64 b, .int .i64 c, .int .i64 d] 23) := ⟨_, rfl⟩
  have hs0 : Since w w0 := by rw [hw0]; exact (Since.refl w).alloc _
  have wh0 : Whole w0 (w.heap.size) 23 #[.int .i64 a, .int .i64 b, .int .i64 c, .int .i64 d] := by rw [hw0]; exact Whole.new w _ _
  have HW := Lib.hid hw0
  have c0_0 := box_cell wh0 0 (.int .i64 a) rfl
  have c0_1 := box_cell wh0 1 (.int .i64 b) rfl
  have c0_2 := box_cell wh0 2 (.int .i64 c) rfl
  have c0_3 := box_cell wh0 3 (.int .i64 d) rfl
  have hsr := Since.refl w0
  have hsd := hsr.drew
  clear hw0 wh0
  by_cases h0 : 0 ≤ a
  rotate_left
  · rw [show winR k ⟨a, b, c, d⟩ = false from Bool.eq_false_iff.2 fun e => h0 (hi.1 e).1]
    clear hi
    go_enter Try.func33, Try.ntmps33
    go_wp2_with fail
    rw [← HW.out]
    go_wp2_with (go_at_call 34; (with_reducible refine (Calls.since_same (by assumption) (refSide_at HS.out _)).mono ?_); rintro e w' ⟨rfl, hb⟩)
    go_ret
    first | exact ⟨rfl, hs0.trans hb⟩ | exact ⟨ret_bool (decide_eq_false (by omega)), hs0.trans hb⟩
  by_cases h1 : a < S
  rotate_left
  · rw [show winR k ⟨a, b, c, d⟩ = false from Bool.eq_false_iff.2 fun e => h1 (hi.1 e).2.1]
    clear hi
    go_enter Try.func33, Try.ntmps33
    go_wp2_with fail
    rw [← HW.out]
    go_wp2_with (go_at_call 34; (with_reducible refine (Calls.since_same (by assumption) (refSide_at HS.out _)).mono ?_); rintro e w' ⟨rfl, hb⟩)
    go_ret
    first | exact ⟨rfl, hs0.trans hb⟩ | exact ⟨ret_bool (decide_eq_false (by omega)), hs0.trans hb⟩
  by_cases h2 : 0 ≤ b
  rotate_left
  · rw [show winR k ⟨a, b, c, d⟩ = false from Bool.eq_false_iff.2 fun e => h2 (hi.1 e).2.2.1]
    clear hi
    go_enter Try.func33, Try.ntmps33
    go_wp2_with fail
    rw [← HW.out]
    go_wp2_with (go_at_call 34; (with_reducible refine (Calls.since_same (by assumption) (refSide_at HS.out _)).mono ?_); rintro e w' ⟨rfl, hb⟩)
    go_ret
    first | exact ⟨rfl, hs0.trans hb⟩ | exact ⟨ret_bool (decide_eq_false (by omega)), hs0.trans hb⟩
  by_cases h3 : b < S
  rotate_left
  · rw [show winR k ⟨a, b, c, d⟩ = false from Bool.eq_false_iff.2 fun e => h3 (hi.1 e).2.2.2.1]
    clear hi
    go_enter Try.func33, Try.ntmps33
    go_wp2_with fail
    rw [← HW.out]
    go_wp2_with (go_at_call 34; (with_reducible refine (Calls.since_same (by assumption) (refSide_at HS.out _)).mono ?_); rintro e w' ⟨rfl, hb⟩)
    go_ret
    first | exact ⟨rfl, hs0.trans hb⟩ | exact ⟨ret_bool (decide_eq_false (by omega)), hs0.trans hb⟩
  by_cases h4 : 0 ≤ c
  rotate_left
  · rw [show winR k ⟨a, b, c, d⟩ = false from Bool.eq_false_iff.2 fun e => h4 (hi.1 e).2.2.2.2.1]
    clear hi
    go_enter Try.func33, Try.ntmps33
    go_wp2_with fail
    rw [← HW.out]
    go_wp2_with (go_at_call 34; (with_reducible refine (Calls.since_same (by assumption) (refSide_at HS.out _)).mono ?_); rintro e w' ⟨rfl, hb⟩)
    go_ret
    first | exact ⟨rfl, hs0.trans hb⟩ | exact ⟨ret_bool (decide_eq_false (by omega)), hs0.trans hb⟩
  by_cases h5 : c ≤ S
  rotate_left
  · rw [show winR k ⟨a, b, c, d⟩ = false from Bool.eq_false_iff.2 fun e => h5 (hi.1 e).2.2.2.2.2.1]
    clear hi
    go_enter Try.func33, Try.ntmps33
    go_wp2_with fail
    rw [← HW.out]
    go_wp2_with (go_at_call 34; (with_reducible refine (Calls.since_same (by assumption) (refSide_at HS.out _)).mono ?_); rintro e w' ⟨rfl, hb⟩)
    go_ret
    first | exact ⟨rfl, hs0.trans hb⟩ | exact ⟨ret_bool (decide_eq_false (by omega)), hs0.trans hb⟩
  by_cases h6 : 0 ≤ d
  rotate_left
  · rw [show winR k ⟨a, b, c, d⟩ = false from Bool.eq_false_iff.2 fun e => h6 (hi.1 e).2.2.2.2.2.2.1]
    clear hi
    go_enter Try.func33, Try.ntmps33
    go_wp2_with fail
    rw [← HW.out]
    go_wp2_with (go_at_call 34; (with_reducible refine (Calls.since_same (by assumption) (refSide_at HS.out _)).mono ?_); rintro e w' ⟨rfl, hb⟩)
    go_ret
    first | exact ⟨rfl, hs0.trans hb⟩ | exact ⟨ret_bool (decide_eq_false (by omega)), hs0.trans hb⟩
  by_cases h7 : d ≤ S
  rotate_left
  · rw [show winR k ⟨a, b, c, d⟩ = false from Bool.eq_false_iff.2 fun e => h7 (hi.1 e).2.2.2.2.2.2.2]
    clear hi
    go_enter Try.func33, Try.ntmps33
    go_wp2_with fail
    rw [← HW.out]
    go_wp2_with (go_at_call 34; (with_reducible refine (Calls.since_same (by assumption) (refSide_at HS.out _)).mono ?_); rintro e w' ⟨rfl, hb⟩)
    go_ret
    first | exact ⟨rfl, hs0.trans hb⟩ | exact ⟨ret_bool (decide_eq_false (by omega)), hs0.trans hb⟩
  rw [show winR k ⟨a, b, c, d⟩ = true from hi.2 ⟨h0, h1, h2, h3, h4, h5, h6, h7⟩]
  clear hi
  go_enter Try.func33, Try.ntmps33
  go_wp2_with fail
  rw [← HW.out]
  go_wp2_with (go_at_call 34; (with_reducible refine (Calls.since_same (by assumption) (refSide_at HS.out _)).mono ?_); rintro e w' ⟨rfl, hb⟩)
  go_ret
  first | exact ⟨rfl, hs0.trans hb⟩ | exact ⟨ret_bool (decide_eq_false (by omega)), hs0.trans hb⟩
theorem wrWin_at {k a b c d : Int} {z : Bool} (h : winR k ⟨a, b, c, d⟩ = z) (w : World) : Calls Try.prog 33 #[.int .i64 k, .agg #[.int .i64 a, .int .i64 b, .int .i64 c, .int .i64 d]] w fun e w' => e = .returned (.bool z) ∧ Below w.heap.size w w' := h ▸ wrWin_any k a b c d w
end Go.Proofs.Ytbfjnnjblnjdkaa
