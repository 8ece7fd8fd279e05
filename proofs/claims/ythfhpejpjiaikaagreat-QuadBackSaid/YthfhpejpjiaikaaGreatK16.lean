/- window: which rectangles may be, areas, cells. -/
import Derived.Test.YthfhpejpjiaikaaGreatK15
namespace Go.Proofs.YthfhpejpjiaikaaGreat
open Go.RowKit
theorem wCounts_any (n : Int) (w : World) : Calls Tryz.prog 113 #[.int .i64 n] w fun e w' => e = .returned (.bool (nmB n)) ∧ w = w' := by
  by_cases h1 : 0 ≤ n
  · by_cases h2 : n ≤ 1073741824
    · rw [show nmB n = true from (nmB_iff n).2 ⟨h1, h2⟩]
      go_enter Tryz.func113, Tryz.ntmps113
      go_wp2
      go_ret
      exact ⟨rfl, rfl⟩
    · rw [show nmB n = false from Bool.eq_false_iff.2 fun e => h2 ((nmB_iff n).1 e).2]
      go_enter Tryz.func113, Tryz.ntmps113
      go_wp2
      go_ret
      exact ⟨rfl, rfl⟩
  · rw [show nmB n = false from Bool.eq_false_iff.2 fun e => h1 ((nmB_iff n).1 e).1]
    go_enter Tryz.func113, Tryz.ntmps113
    go_wp2
    go_ret
    exact ⟨rfl, rfl⟩
theorem wCounts_at {n : Int} {b : Bool} (h : nmB n = b) (w : World) : Calls Tryz.prog 113 #[.int .i64 n] w fun e w' => e = .returned (.bool b) ∧ w = w' := h ▸ wCounts_any n w
set_option maxHeartbeats 1600000 in
theorem wMayCount_any (a b c d : Int) (w : World) : Calls Tryz.prog 99 #[.agg #[.int .i64 a, .int .i64 b, .int .i64 c, .int .i64 d]] w fun e w' => e = .returned (.bool (fineR ⟨a, b, c, d⟩)) ∧ Below w.heap.size w w' := by
  rw [fineR_nm]
  obtain ⟨w0, hw0⟩ : ∃ w0, w0 = w.alloc (.cells #[.int .i64 a, .int .i64 b, .int .i64 c, .int .i64 d] 63) := ⟨_, rfl⟩
  have hs0 : Since w w0 := by rw [hw0]; exact (Since.refl w).alloc _
  have wh0 : Whole w0 (w.heap.size) 63 #[.int .i64 a, .int .i64 b, .int .i64 c, .int .i64 d] := by rw [hw0]; exact Whole.new w _ _
  have HW := Lib.hid hw0
  have c0_0 := box_cell wh0 0 (.int .i64 a) rfl
  have c0_1 := box_cell wh0 1 (.int .i64 b) rfl
  have c0_2 := box_cell wh0 2 (.int .i64 c) rfl
  have c0_3 := box_cell wh0 3 (.int .i64 d) rfl
  have hsr := Since.refl w0
  have hsd := hsr.drew
  clear hw0 wh0
  cases ha : nmB a
  · replace ha := Lib.hid ha
    go_enter Tryz.func99, Tryz.ntmps99
    go_wp2_with fail
    rw [← HW.out]
    go_wp2_with (go_at_call 113; (with_reducible refine (Calls.since_same (by assumption) (wCounts_at (by first | exact ha.out | exact hb.out | exact hc.out | exact hd.out) _)).mono ?_); rintro e w' ⟨rfl, hb1⟩)
    go_ret
    exact ⟨rfl, hs0.trans (by assumption)⟩
  · replace ha := Lib.hid ha
    cases hb : nmB b
    · replace hb := Lib.hid hb
      go_enter Tryz.func99, Tryz.ntmps99
      go_wp2_with fail
      rw [← HW.out]
      go_wp2_with (go_at_call 113; (with_reducible refine (Calls.since_same (by assumption) (wCounts_at (by first | exact ha.out | exact hb.out | exact hc.out | exact hd.out) _)).mono ?_); rintro e w' ⟨rfl, hb1⟩)
      go_ret
      exact ⟨rfl, hs0.trans (by assumption)⟩
    · replace hb := Lib.hid hb
      cases hc : nmB c
      · replace hc := Lib.hid hc
        go_enter Tryz.func99, Tryz.ntmps99
        go_wp2_with fail
        rw [← HW.out]
        go_wp2_with (go_at_call 113; (with_reducible refine (Calls.since_same (by assumption) (wCounts_at (by first | exact ha.out | exact hb.out | exact hc.out | exact hd.out) _)).mono ?_); rintro e w' ⟨rfl, hb1⟩)
        go_ret
        exact ⟨rfl, hs0.trans (by assumption)⟩
      · replace hc := Lib.hid hc
        cases hd : nmB d
        · replace hd := Lib.hid hd
          go_enter Tryz.func99, Tryz.ntmps99
          go_wp2_with fail
          rw [← HW.out]
          go_wp2_with (go_at_call 113; (with_reducible refine (Calls.since_same (by assumption) (wCounts_at (by first | exact ha.out | exact hb.out | exact hc.out | exact hd.out) _)).mono ?_); rintro e w' ⟨rfl, hb1⟩)
          go_ret
          exact ⟨rfl, hs0.trans (by assumption)⟩
        · replace hd := Lib.hid hd
          go_enter Tryz.func99, Tryz.ntmps99
          go_wp2_with fail
          rw [← HW.out]
          go_wp2_with (go_at_call 113; (with_reducible refine (Calls.since_same (by assumption) (wCounts_at (by first | exact ha.out | exact hb.out | exact hc.out | exact hd.out) _)).mono ?_); rintro e w' ⟨rfl, hb1⟩)
          go_ret
          exact ⟨rfl, hs0.trans (by assumption)⟩
theorem wMayCount_at {a b c d : Int} {z : Bool} (h : fineR ⟨a, b, c, d⟩ = z) (w : World) : Calls Tryz.prog 99 #[.agg #[.int .i64 a, .int .i64 b, .int .i64 c, .int .i64 d]] w fun e w' => e = .returned (.bool z) ∧ Below w.heap.size w w' := h ▸ wMayCount_any a b c d w
set_option maxHeartbeats 800000 in
theorem wArea_any (a b c d : Int) (w : World) : Calls Tryz.prog 86 #[.agg #[.int .i64 a, .int .i64 b, .int .i64 c, .int .i64 d]] w fun e w' => e = .returned (.int .i64 (areaR ⟨a, b, c, d⟩)) ∧ Below w.heap.size w w' := by
  obtain ⟨w0, hw0⟩ : ∃ w0, w0 = w.alloc (.cells #[.int .i64 a, .int .i64 b, .int .i64 c, .int .i64 d] 63) := ⟨_, rfl⟩
  have hs0 : Since w w0 := by rw [hw0]; exact (Since.refl w).alloc _
  have wh0 : Whole w0 (w.heap.size) 63 #[.int .i64 a, .int .i64 b, .int .i64 c, .int .i64 d] := by rw [hw0]; exact Whole.new w _ _
  have HW := Lib.hid hw0
  have c0_0 := box_cell wh0 0 (.int .i64 a) rfl
  have c0_1 := box_cell wh0 1 (.int .i64 b) rfl
  have c0_2 := box_cell wh0 2 (.int .i64 c) rfl
  have c0_3 := box_cell wh0 3 (.int .i64 d) rfl
  have hsr := Since.refl w0
  have hsd := hsr.drew
  clear hw0 wh0
  cases h : fineR ⟨a, b, c, d⟩
  · rw [show areaR ⟨a, b, c, d⟩ = 0 from if_neg (by rw [h]; exact Bool.false_ne_true)]
    replace h := Lib.hid h
    go_enter Tryz.func86, Tryz.ntmps86
    go_wp2_with fail
    rw [← HW.out]
    go_wp2_with (go_at_call 99; (with_reducible refine (Calls.since (by assumption) (wMayCount_at h.out _)).mono ?_); rintro e w' ⟨rfl, hb⟩)
    go_ret
    exact ⟨rfl, hs0.trans hb⟩
  · have h1 := (fineR_iff _).1 h
    dsimp only at h1
    have h2 : 0 ≤ c * d := Int.mul_nonneg (by omega) (by omega)
    have h3 : c * d ≤ 1073741824 * 1073741824 := Int.mul_le_mul (by omega) (by omega) (by omega) (by omega)
    have h4 : wrap64 (c * d) = c * d := IntWalk.wrap64_in _ ⟨by omega, by omega⟩
    rw [show areaR ⟨a, b, c, d⟩ = c * d from if_pos h]
    replace h := Lib.hid h
    clear h1 h2 h3
    go_enter Tryz.func86, Tryz.ntmps86
    go_wp2_with fail
    rw [← HW.out]
    go_wp2_with (go_at_call 99; (with_reducible refine (Calls.since (by assumption) (wMayCount_at h.out _)).mono ?_); rintro e w' ⟨rfl, hb⟩)
    go_ret
    exact ⟨ret_int h4, hs0.trans hb⟩
theorem wArea_at {a b c d v : Int} (h : areaR ⟨a, b, c, d⟩ = v) (w : World) : Calls Tryz.prog 86 #[.agg #[.int .i64 a, .int .i64 b, .int .i64 c, .int .i64 d]] w fun e w' => e = .returned (.int .i64 v) ∧ Below w.heap.size w w' := h ▸ wArea_any a b c d w
set_option maxHeartbeats 3200000 in
theorem wHas_any (a b c d x y : Int) (w : World) : Calls Tryz.prog 73 #[.agg #[.int .i64 a, .int .i64 b, .int .i64 c, .int .i64 d], .agg #[.int .i64 x, .int .i64 y]] w fun e w' => e = .returned (.bool (hasR ⟨a, b, c, d⟩ x y)) ∧ Below w.heap.size w w' := by
  obtain ⟨w0, hw0⟩ : ∃ w0, w0 = (w.alloc (.cells #[.int .i64 a, .int .i64 b, .int .i64 c, .int .i64 d] 63)).alloc (.cells #[.int .i64 x, .int .i64 y] 50) := ⟨_, rfl⟩
  have hs0 : Since w w0 := by rw [hw0]; exact ((Since.refl w).alloc _).alloc _
  have wh0 : Whole w0 (w.heap.size) 63 #[.int .i64 a, .int .i64 b, .int .i64 c, .int .i64 d] := by rw [hw0]; exact (Whole.new w _ _).alloc _
  have wh1 : Whole w0 (w.heap.size + 1) 50 #[.int .i64 x, .int .i64 y] := by rw [hw0]; exact (Whole.new (w.alloc _) _ _).at_ (by simp)
  have HW := Lib.hid hw0
  have c0_0 := box_cell wh0 0 (.int .i64 a) rfl
  have c0_1 := box_cell wh0 1 (.int .i64 b) rfl
  have c0_2 := box_cell wh0 2 (.int .i64 c) rfl
  have c0_3 := box_cell wh0 3 (.int .i64 d) rfl
  have c1_0 := box_cell wh1 0 (.int .i64 x) rfl
  have c1_1 := box_cell wh1 1 (.int .i64 y) rfl
  have hsr := Since.refl w0
  have hsd := hsr.drew
  clear hw0 wh0 wh1
  cases h : fineR ⟨a, b, c, d⟩
  · rw [show hasR ⟨a, b, c, d⟩ x y = false by unfold hasR; rw [h]; rfl]
    have HF := Lib.hid h
    clear h
    go_enter Tryz.func73, Tryz.ntmps73
    go_wp2_with fail
    rw [← HW.out]
    go_wp2_with (go_at_call 99; (with_reducible refine (Calls.since (by assumption) (wMayCount_at HF.out _)).mono ?_); rintro e w' ⟨rfl, hb⟩)
    go_ret
    first | exact ⟨rfl, hs0.trans hb⟩ | exact ⟨ret_bool (decide_eq_false (by omega)), hs0.trans hb⟩ | exact ⟨ret_bool (decide_eq_true (by omega)), hs0.trans hb⟩
  · have h1 := (fineR_iff _).1 h
    dsimp only at h1
    have e1 : wrap64 (a + c) = a + c := IntWalk.wrap64_in _ ⟨by omega, by omega⟩
    have e2 : wrap64 (b + d) = b + d := IntWalk.wrap64_in _ ⟨by omega, by omega⟩
    have hh : hasR ⟨a, b, c, d⟩ x y = decide (a ≤ x ∧ x < a + c ∧ b ≤ y ∧ y < b + d) := by unfold hasR; rw [h]; rfl
    rw [hh]
    have HF := Lib.hid h
    clear h hh h1
    by_cases h0 : a ≤ x
    rotate_left
    · rw [decide_eq_false (fun z => h0 z.1)]
      go_enter Tryz.func73, Tryz.ntmps73
      go_wp2_with fail
      rw [← HW.out]
      go_wp2_with (go_at_call 99; (with_reducible refine (Calls.since (by assumption) (wMayCount_at HF.out _)).mono ?_); rintro e w' ⟨rfl, hb⟩)
      go_ret
      first | exact ⟨rfl, hs0.trans hb⟩ | exact ⟨ret_bool (decide_eq_false (by omega)), hs0.trans hb⟩ | exact ⟨ret_bool (decide_eq_true (by omega)), hs0.trans hb⟩
    by_cases h1 : x < a + c
    rotate_left
    · rw [decide_eq_false (fun z => h1 z.2.1)]
      go_enter Tryz.func73, Tryz.ntmps73
      go_wp2_with fail
      rw [← HW.out]
      go_wp2_with (go_at_call 99; (with_reducible refine (Calls.since (by assumption) (wMayCount_at HF.out _)).mono ?_); rintro e w' ⟨rfl, hb⟩)
      go_ret
      first | exact ⟨rfl, hs0.trans hb⟩ | exact ⟨ret_bool (decide_eq_false (by omega)), hs0.trans hb⟩ | exact ⟨ret_bool (decide_eq_true (by omega)), hs0.trans hb⟩
    by_cases h2 : b ≤ y
    rotate_left
    · rw [decide_eq_false (fun z => h2 z.2.2.1)]
      go_enter Tryz.func73, Tryz.ntmps73
      go_wp2_with fail
      rw [← HW.out]
      go_wp2_with (go_at_call 99; (with_reducible refine (Calls.since (by assumption) (wMayCount_at HF.out _)).mono ?_); rintro e w' ⟨rfl, hb⟩)
      go_ret
      first | exact ⟨rfl, hs0.trans hb⟩ | exact ⟨ret_bool (decide_eq_false (by omega)), hs0.trans hb⟩ | exact ⟨ret_bool (decide_eq_true (by omega)), hs0.trans hb⟩
    by_cases h3 : y < b + d
    rotate_left
    · rw [decide_eq_false (fun z => h3 z.2.2.2)]
      go_enter Tryz.func73, Tryz.ntmps73
      go_wp2_with fail
      rw [← HW.out]
      go_wp2_with (go_at_call 99; (with_reducible refine (Calls.since (by assumption) (wMayCount_at HF.out _)).mono ?_); rintro e w' ⟨rfl, hb⟩)
      go_ret
      first | exact ⟨rfl, hs0.trans hb⟩ | exact ⟨ret_bool (decide_eq_false (by omega)), hs0.trans hb⟩ | exact ⟨ret_bool (decide_eq_true (by omega)), hs0.trans hb⟩
    rw [decide_eq_true ⟨h0, h1, h2, h3⟩]
    go_enter Tryz.func73, Tryz.ntmps73
    go_wp2_with fail
    rw [← HW.out]
    go_wp2_with (go_at_call 99; (with_reducible refine (Calls.since (by assumption) (wMayCount_at HF.out _)).mono ?_); rintro e w' ⟨rfl, hb⟩)
    go_ret
    first | exact ⟨rfl, hs0.trans hb⟩ | exact ⟨ret_bool (decide_eq_false (by omega)), hs0.trans hb⟩ | exact ⟨ret_bool (decide_eq_true (by omega)), hs0.trans hb⟩
end Go.Proofs.YthfhpejpjiaikaaGreat
