/- path.Right, mayBe: may the path be? -/
import Derived.Test.YtilkifjdonafnaaTHas
import Derived.Test.YtilkifjdonafnaaPMath
namespace Go.Proofs.Ytilkifjdonafnaa
open Go.RowKit
set_option maxHeartbeats 400000 in
theorem rightP_any (k d b : Int) (w : World) : Calls Try.prog 32 #[.int .i64 k, .agg #[.int .i64 d, .int .i64 b]] w fun e w' => e = .returned (.bool (okP k d b)) ∧ Below w.heap.size w w' := by
  by_cases h0 : 1 ≤ k
  rotate_left
  · rw [okP_no (fun e => h0 e.1)]
    have g0 : decide (1 ≤ k) = false := decide_eq_false h0
    go_enter Try.func32, Try.ntmps32
    go_wp2_with fail
    go_quiet (fail)
    go_wp2
    go_ret
    exact ⟨rfl, ((Since.refl w).alloc _).drewN nq⟩
  by_cases h1 : k ≤ 16
  rotate_left
  · rw [okP_no (fun e => h1 e.2.1)]
    have g0 : decide (1 ≤ k) = true := decide_eq_true h0
    have g1 : decide (k ≤ 16) = false := decide_eq_false h1
    go_enter Try.func32, Try.ntmps32
    go_wp2_with fail
    go_quiet (fail)
    go_wp2
    go_ret
    exact ⟨rfl, ((Since.refl w).alloc _).drewN nq⟩
  by_cases h2 : 0 ≤ d
  rotate_left
  · rw [okP_no (fun e => h2 e.2.2.1)]
    have g0 : decide (1 ≤ k) = true := decide_eq_true h0
    have g1 : decide (k ≤ 16) = true := decide_eq_true h1
    have g2 : decide (0 ≤ d) = false := decide_eq_false h2
    go_enter Try.func32, Try.ntmps32
    go_wp2_with fail
    go_quiet (fail)
    go_wp2
    go_ret
    exact ⟨rfl, ((Since.refl w).alloc _).drewN nq⟩
  by_cases h3 : d ≤ 2 * k
  rotate_left
  · rw [okP_no (fun e => h3 e.2.2.2.1)]
    have g0 : decide (1 ≤ k) = true := decide_eq_true h0
    have g1 : decide (k ≤ 16) = true := decide_eq_true h1
    have g2 : decide (0 ≤ d) = true := decide_eq_true h2
    have g3 : decide (d ≤ 2 * k) = false := decide_eq_false h3
    go_enter Try.func32, Try.ntmps32
    go_wp2_with fail
    go_quiet (fail)
    go_wp2
    go_ret
    exact ⟨rfl, ((Since.refl w).alloc _).drewN nq⟩
  by_cases h4 : 0 ≤ b
  rotate_left
  · rw [okP_no (fun e => h4 e.2.2.2.2.1)]
    have g0 : decide (1 ≤ k) = true := decide_eq_true h0
    have g1 : decide (k ≤ 16) = true := decide_eq_true h1
    have g2 : decide (0 ≤ d) = true := decide_eq_true h2
    have g3 : decide (d ≤ 2 * k) = true := decide_eq_true h3
    have g4 : decide (0 ≤ b) = false := decide_eq_false h4
    go_enter Try.func32, Try.ntmps32
    go_wp2_with fail
    go_quiet (fail)
    go_wp2
    go_ret
    exact ⟨rfl, ((Since.refl w).alloc _).drewN nq⟩
  by_cases h5 : b < 2 ^ d.toNat
  rotate_left
  · rw [okP_no (fun e => h5 e.2.2.2.2.2)]
    have e1 := p2_wrap (d := d) (by omega)
    have g0 : decide (1 ≤ k) = true := decide_eq_true h0
    have g1 : decide (k ≤ 16) = true := decide_eq_true h1
    have g2 : decide (0 ≤ d) = true := decide_eq_true h2
    have g3 : decide (d ≤ 2 * k) = true := decide_eq_true h3
    have g4 : decide (0 ≤ b) = true := decide_eq_true h4
    have g5 : decide (b < 2 ^ d.toNat) = false := decide_eq_false h5
    go_enter Try.func32, Try.ntmps32
    go_wp2_with fail
    go_quiet (fail)
    go_wp2
    go_ret
    exact ⟨rfl, ((Since.refl w).alloc _).drewN nq⟩
  rw [show okP k d b = true from (okP_iff k d b).2 ⟨h0, h1, h2, h3, h4, h5⟩]
  have e1 := p2_wrap (d := d) (by omega)
  have g0 : decide (1 ≤ k) = true := decide_eq_true h0
  have g1 : decide (k ≤ 16) = true := decide_eq_true h1
  have g2 : decide (0 ≤ d) = true := decide_eq_true h2
  have g3 : decide (d ≤ 2 * k) = true := decide_eq_true h3
  have g4 : decide (0 ≤ b) = true := decide_eq_true h4
  have g5 : decide (b < 2 ^ d.toNat) = true := decide_eq_true h5
  go_enter Try.func32, Try.ntmps32
  go_wp2_with fail
  go_quiet (fail)
  go_wp2
  go_ret
  exact ⟨rfl, ((Since.refl w).alloc _).drewN nq⟩
theorem mayBe_any (d b : Int) (w : World) : Calls Try.prog 33 #[.agg #[.int .i64 d, .int .i64 b]] w fun e w' => e = .returned (.bool (fine d b)) ∧ Below w.heap.size w w' := by
  obtain ⟨w0, hw0⟩ : ∃ w0, w0 = w.alloc (.cells #[.int .i64 d, .int .i64 b] 23) := ⟨_, rfl⟩
  have hs0 : Since w w0 := by rw [hw0]; exact (Since.refl w).alloc _
  have wh0 : Whole w0 (w.heap.size) 23 #[.int .i64 d, .int .i64 b] := by rw [hw0]; exact Whole.new w _ _
  have HW := Lib.hid hw0
  have c0_0 := box_cell wh0 0 (.int .i64 d) rfl
  have c0_1 := box_cell wh0 1 (.int .i64 b) rfl
  have hsr := Since.refl w0
  have hsd := hsr.drew
  clear hw0 wh0
  go_enter Try.func33, Try.ntmps33
  go_wp2_with fail
  rw [← HW.out]
  go_wp2_with (go_at_call 32; (with_reducible refine (Calls.since (by assumption) (rightP_any _ _ _ _)).mono ?_); rintro e w' ⟨rfl, hb⟩)
  go_ret
  exact ⟨rfl, hs0.trans hb⟩
theorem mayBe_at {d b : Int} {r : Bool} (h : fine d b = r) (w : World) : Calls Try.prog 33 #[.agg #[.int .i64 d, .int .i64 b]] w fun e w' => e = .returned (.bool r) ∧ Below w.heap.size w w' := h ▸ mayBe_any d b w
end Go.Proofs.Ytilkifjdonafnaa
