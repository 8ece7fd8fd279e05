/- The program's borders: spans, Length, Beside, Apart. -/
import Derived.Test.YtbbnojfecmocgaaK09
import Derived.Test.YtbbnojfecmocgaaK12
import Derived.Test.YtbbnojfecmocgaaK14
namespace Go.Proofs.Ytbbnojfecmocgaa
open Go.RowKit
set_option linter.unusedVariables false
set_option linter.unusedSimpArgs false
set_option maxHeartbeats 800000 in
theorem bStep_any (k m n : Int) (w : World) : Calls Try.prog 104 #[.agg #[.int .i64 k], .int .i64 m, .int .i64 n] w fun e w' => e = .returned (.int .i64 (stp k m n)) ∧ Below w.heap.size w w' := by
  obtain ⟨w0, hw0⟩ : ∃ w0, w0 = w.alloc (.cells #[.int .i64 k] 26) := ⟨_, rfl⟩
  have hs0 : Since w w0 := by rw [hw0]; exact (Since.refl w).alloc _
  have wh0 : Whole w0 (w.heap.size) 26 #[.int .i64 k] := by rw [hw0]; exact Whole.new w _ _
  have HW := Lib.hid hw0
  have c0_0 := box_cell wh0 0 (.int .i64 k) rfl
  have hsr := Since.refl w0
  have hsd := hsr.drew
  clear hw0 wh0
  unfold stp
  by_cases h : apart k m n = 1
  · rw [if_pos h]
    have H := Lib.hid h
    clear h
    go_enter Try.func104, Try.ntmps104
    go_wp2_with fail
    rw [← HW.out]
    go_wp2_with (go_at_call 74; (with_reducible refine (Calls.since (by assumption) (apart_at H.out _)).mono ?_); rintro e w1 ⟨rfl, hb1⟩)
    go_ret
    exact ⟨rfl, hs0.trans hb1⟩
  · rw [if_neg h]
    obtain ⟨v, hv⟩ : ∃ v, apart k m n = v := ⟨_, rfl⟩
    rw [hv] at h
    have hd : (v == 1) = false := by simpa using h
    have H := Lib.hid hv
    clear h hv
    go_enter Try.func104, Try.ntmps104
    go_wp2_with fail
    rw [← HW.out]
    go_wp2_with (go_at_call 74; (with_reducible refine (Calls.since (by assumption) (apart_at H.out _)).mono ?_); rintro e w1 ⟨rfl, hb1⟩)
    go_ret
    exact ⟨rfl, hs0.trans hb1⟩
theorem bStep_at {k m n v : Int} (h : stp k m n = v) (w : World) : Calls Try.prog 104 #[.agg #[.int .i64 k], .int .i64 m, .int .i64 n] w fun e w' => e = .returned (.int .i64 v) ∧ Below w.heap.size w w' := h ▸ bStep_any k m n w
set_option maxHeartbeats 800000 in
theorem bShared_at {a b c d v : Int} (h : shd a b c d = v) (hb : (0 ≤ a ∧ a ≤ 65536) ∧ (-1 ≤ b ∧ b ≤ 65536) ∧ (0 ≤ c ∧ c ≤ 65536) ∧ (-1 ≤ d ∧ d ≤ 65536)) (w : World) : Calls Try.prog 67 #[.agg #[.int .i64 a, .int .i64 b], .agg #[.int .i64 c, .int .i64 d]] w fun e w' => e = .returned (.int .i64 v) ∧ Below w.heap.size w w' := by
  obtain ⟨w0, hw0⟩ : ∃ w0, w0 = (w.alloc (.cells #[.int .i64 a, .int .i64 b] 127)).alloc (.cells #[.int .i64 c, .int .i64 d] 127) := ⟨_, rfl⟩
  have hs0 : Since w w0 := by rw [hw0]; exact ((Since.refl w).alloc _).alloc _
  have wh0 : Whole w0 (w.heap.size) 127 #[.int .i64 a, .int .i64 b] := by rw [hw0]; exact (Whole.new w _ _).alloc _
  have wh1 : Whole w0 (w.heap.size + 1) 127 #[.int .i64 c, .int .i64 d] := by rw [hw0]; exact (Whole.new (w.alloc _) _ _).at_ (by simp)
  have HW := Lib.hid hw0
  have c0_0 := box_cell wh0 0 (.int .i64 a) rfl
  have c0_1 := box_cell wh0 1 (.int .i64 b) rfl
  have c1_0 := box_cell wh1 0 (.int .i64 c) rfl
  have c1_1 := box_cell wh1 1 (.int .i64 d) rfl
  have hsr := Since.refl w0
  have hsd := hsr.drew
  clear hw0 wh0 wh1
  have H := Lib.hid h
  have HB := Lib.hid hb
  clear h hb
  go_enter Try.func67, Try.ntmps67
  go_wp2_with fail
  all_goals
    go_ret
    refine ⟨ret_int ?_, by rw [← HW.out]; exact hs0⟩
    have hb := HB.out
    have W : ∀ x : Int, -131073 ≤ x → x ≤ 131073 → wrap64 x = x := fun x h1 h2 => IntWalk.wrap64_in _ ⟨by omega, by omega⟩
    have g1 := W (b - a) (by omega) (by omega)
    have g2 := W (b - c) (by omega) (by omega)
    have g3 := W (d - a) (by omega) (by omega)
    have g4 := W (d - c) (by omega) (by omega)
    have g5 := W (b - a + 1) (by omega) (by omega)
    have g6 := W (b - c + 1) (by omega) (by omega)
    have g7 := W (d - a + 1) (by omega) (by omega)
    have g8 := W (d - c + 1) (by omega) (by omega)
    clear W
    rcases (show (d < b ∧ d + 1 ≤ b) ∨ (¬ d < b ∧ b ≤ d) by omega) with ⟨c1, k1⟩ | ⟨c1, k1⟩ <;> rcases (show (a < c ∧ a + 1 ≤ c) ∨ (¬ a < c ∧ c ≤ a) by omega) with ⟨c2, k2⟩ | ⟨c2, k2⟩ <;> simp only [c1, c2, if_true, if_false, g1, g2, g3, g4, g5, g6, g7, g8] at *
    all_goals (have hh := H.out; unfold shd at hh; omega)
end Go.Proofs.Ytbbnojfecmocgaa
