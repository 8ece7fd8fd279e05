/- gleberef03: which paths may be; the halves as a text; a text's path. -/
import Derived.Test.YtilkifjdonafnaaTRef
import Derived.Test.YtilkifjdonafnaaPBackM
import Derived.Maps.AppendAt
namespace Go.Proofs.Ytilkifjdonafnaa
open Go.RowKit
set_option maxHeartbeats 800000 in
theorem refRightP_any (k d b : Int) (w : World) : Calls Try.prog 47 #[.int .i64 k, .agg #[.int .i64 d, .int .i64 b]] w fun e w' => e = .returned (.bool (okP k d b)) ∧ Below w.heap.size w w' := by
  obtain ⟨w0, hw0⟩ : ∃ w0, w0 = w.alloc (.cells #[.int .i64 d, .int .i64 b] 23) := ⟨_, rfl⟩
  have hs0 : Since w w0 := by rw [hw0]; exact (Since.refl w).alloc _
  have wh0 : Whole w0 (w.heap.size) 23 #[.int .i64 d, .int .i64 b] := by rw [hw0]; exact Whole.new w _ _
  have HW := Lib.hid hw0
  have c0_0 := box_cell wh0 0 (.int .i64 d) rfl
  have c0_1 := box_cell wh0 1 (.int .i64 b) rfl
  have hsr := Since.refl w0
  have hsd := hsr.drew
  clear hw0 wh0
  cases hr : rgt k with
  | false =>
    have hno : okP k d b = false := okP_no fun e => by rw [(rgt_iff k).2 ⟨e.1, e.2.1⟩] at hr; cases hr
    rw [hno]
    clear hno
    replace hr := Lib.hid hr
    go_enter Try.func47, Try.ntmps47
    go_wp2_with fail
    rw [← HW.out]
    go_wp2_with (go_at_call 52; (with_reducible refine (refRight_at hr.out _).mono ?_); rintro e w' ⟨rfl, rfl⟩)
    go_ret
    exact ⟨rfl, hs0⟩
  | true =>
    obtain ⟨hk1, hk2⟩ := (rgt_iff k).1 hr
    have e2 : wrap64 (2 * k) = 2 * k := IntWalk.wrap64_in _ ⟨by omega, by omega⟩
    replace hr := Lib.hid hr
    by_cases h1 : 0 ≤ d
    rotate_left 1
    · rw [okP_no fun e => h1 e.2.2.1]
      have q1 : decide (0 ≤ d) = false := decide_eq_false h1
      go_enter Try.func47, Try.ntmps47
      go_wp2_with fail
      rw [← HW.out]
      go_wp2_with (go_at_call 52; (with_reducible refine (refRight_at hr.out _).mono ?_); rintro e w' ⟨rfl, rfl⟩)
      go_ret
      exact ⟨rfl, hs0⟩
    have q1 : decide (0 ≤ d) = true := decide_eq_true h1
    by_cases h2 : d ≤ 2 * k
    rotate_left 1
    · rw [okP_no fun e => h2 e.2.2.2.1]
      have q2 : decide (d ≤ 2 * k) = false := decide_eq_false h2
      go_enter Try.func47, Try.ntmps47
      go_wp2_with fail
      rw [← HW.out]
      go_wp2_with (go_at_call 52; (with_reducible refine (refRight_at hr.out _).mono ?_); rintro e w' ⟨rfl, rfl⟩)
      go_ret
      exact ⟨rfl, hs0⟩
    have q2 : decide (d ≤ 2 * k) = true := decide_eq_true h2
    by_cases h3 : 0 ≤ b
    rotate_left 1
    · rw [okP_no fun e => h3 e.2.2.2.2.1]
      have q3 : decide (0 ≤ b) = false := decide_eq_false h3
      go_enter Try.func47, Try.ntmps47
      go_wp2_with fail
      rw [← HW.out]
      go_wp2_with (go_at_call 52; (with_reducible refine (refRight_at hr.out _).mono ?_); rintro e w' ⟨rfl, rfl⟩)
      go_ret
      exact ⟨rfl, hs0⟩
    have q3 : decide (0 ≤ b) = true := decide_eq_true h3
    obtain ⟨N, hN⟩ : ∃ N : Int, N = 2 ^ d.toNat := ⟨_, rfl⟩
    have e3 : wrap64 (2 ^ d.toNat) = N := by rw [p2_wrap (by omega), hN]
    have hb : okP k d b = decide (b < N) := by
      unfold okP
      rw [Bool.eq_iff_iff, decide_eq_true_iff, decide_eq_true_iff, hN]
      exact ⟨fun e => e.2.2.2.2.2, fun e => ⟨hk1, hk2, h1, h2, h3, e⟩⟩
    rw [hb]
    clear hb hN
    go_enter Try.func47, Try.ntmps47
    go_wp2_with fail
    rw [← HW.out]
    go_wp2_with (go_at_call 52; (with_reducible refine (refRight_at hr.out _).mono ?_); rintro e w' ⟨rfl, rfl⟩)
    go_ret
    exact ⟨rfl, hs0⟩
theorem refRightP_at {k d b : Int} {r : Bool} (h : okP k d b = r) (w : World) : Calls Try.prog 47 #[.int .i64 k, .agg #[.int .i64 d, .int .i64 b]] w fun e w' => e = .returned (.bool r) ∧ Below w.heap.size w w' := h ▸ refRightP_any k d b w
theorem refFine_any (d b : Int) (w : World) : Calls Try.prog 35 #[.agg #[.int .i64 d, .int .i64 b]] w fun e w' => e = .returned (.bool (fine d b)) ∧ Below w.heap.size w w' := by
  obtain ⟨w0, hw0⟩ : ∃ w0, w0 = w.alloc (.cells #[.int .i64 d, .int .i64 b] 23) := ⟨_, rfl⟩
  have hs0 : Since w w0 := by rw [hw0]; exact (Since.refl w).alloc _
  have wh0 : Whole w0 (w.heap.size) 23 #[.int .i64 d, .int .i64 b] := by rw [hw0]; exact Whole.new w _ _
  have HW := Lib.hid hw0
  have c0_0 := box_cell wh0 0 (.int .i64 d) rfl
  have c0_1 := box_cell wh0 1 (.int .i64 b) rfl
  have hsr := Since.refl w0
  have hsd := hsr.drew
  clear hw0 wh0
  go_enter Try.func35, Try.ntmps35
  go_wp2_with fail
  rw [← HW.out]
  go_wp2_with (go_at_call 47; (with_reducible refine (Calls.since (by assumption) (refRightP_any _ _ _ _)).mono ?_); rintro e w1 ⟨rfl, hb1⟩)
  go_ret
  exact ⟨rfl, hs0.trans hb1⟩
theorem refFine_at {d b : Int} {r : Bool} (h : fine d b = r) (w : World) : Calls Try.prog 35 #[.agg #[.int .i64 d, .int .i64 b]] w fun e w' => e = .returned (.bool r) ∧ Below w.heap.size w w' := h ▸ refFine_any d b w
end Go.Proofs.Ytilkifjdonafnaa
