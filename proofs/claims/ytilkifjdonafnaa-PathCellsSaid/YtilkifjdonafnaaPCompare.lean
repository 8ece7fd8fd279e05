/- path.Compare: which stands ahead. -/
import Derived.Test.YtilkifjdonafnaaPCommon
namespace Go.Proofs.Ytilkifjdonafnaa
open Go.RowKit
/-- Which stands ahead. -/
def cmpP (dp bp dq bq : Int) : Int := if fine dp bp = true ∧ fine dq bq = true then cmpI (bitI dp bp (cpl dp bp dq bq)) (bitI dq bq (cpl dp bp dq bq)) else 0
theorem cmpP_yes {dp bp dq bq : Int} (h : fine dp bp = true) (g : fine dq bq = true) : cmpP dp bp dq bq = cmpI (bitI dp bp (cpl dp bp dq bq)) (bitI dq bq (cpl dp bp dq bq)) := if_pos ⟨h, g⟩
theorem cmpP_no {dp bp dq bq : Int} (h : ¬ (fine dp bp = true ∧ fine dq bq = true)) : cmpP dp bp dq bq = 0 := if_neg h
set_option maxRecDepth 100000 in
set_option maxHeartbeats 800000 in
theorem compare_any (dp bp dq bq : Int) (w : World) : Calls Try.prog 15 #[.agg #[.int .i64 dp, .int .i64 bp], .agg #[.int .i64 dq, .int .i64 bq]] w fun e w' => e = .returned (.int .i64 (cmpP dp bp dq bq)) ∧ Below w.heap.size w w' := by
  obtain ⟨w0, hw0⟩ : ∃ w0, w0 = (w.alloc (.cells #[.int .i64 dp, .int .i64 bp] 23)).alloc (.cells #[.int .i64 dq, .int .i64 bq] 23) := ⟨_, rfl⟩
  have hs0 : Since w w0 := by rw [hw0]; exact ((Since.refl w).alloc _).alloc _
  have wh0 : Whole w0 (w.heap.size) 23 #[.int .i64 dp, .int .i64 bp] := by rw [hw0]; exact (Whole.new w _ _).alloc _
  have wh1 : Whole w0 (w.heap.size + 1) 23 #[.int .i64 dq, .int .i64 bq] := by rw [hw0]; exact (Whole.new (w.alloc _) _ _).at_ (by simp)
  have HW := Lib.hid hw0
  have c0_0 := box_cell wh0 0 (.int .i64 dp) rfl
  have c0_1 := box_cell wh0 1 (.int .i64 bp) rfl
  have c1_0 := box_cell wh1 0 (.int .i64 dq) rfl
  have c1_1 := box_cell wh1 1 (.int .i64 bq) rfl
  have hsr := Since.refl w0
  have hsd := hsr.drew
  clear hw0 wh0 wh1
  cases h : fine dp bp with
  | false =>
    rw [cmpP_no (by rw [h]; rintro ⟨e, _⟩; cases e)]
    replace h := Lib.hid h
    go_enter Try.func15, Try.ntmps15
    go_wp2_with fail
    rw [← HW.out]
    go_wp2_with (go_at_call 33; (with_reducible refine (Calls.since (by assumption) (mayBe_at h.out _)).mono ?_); rintro e w' ⟨rfl, hb⟩)
    go_ret
    exact ⟨rfl, hs0.trans hb⟩
  | true =>
    cases g : fine dq bq with
    | false =>
      rw [cmpP_no (by rw [g]; rintro ⟨_, e⟩; cases e)]
      replace h := Lib.hid h
      replace g := Lib.hid g
      go_enter Try.func15, Try.ntmps15
      go_wp2_with fail
      rw [← HW.out]
      go_wp2_with (go_at_call 33; (with_reducible refine (Calls.since (by assumption) (mayBe_at (by first | exact h.out | exact g.out) _)).mono ?_); rintro e w' ⟨rfl, hb⟩)
      go_ret
      exact ⟨rfl, hs0.trans (by assumption)⟩
    | true =>
      rw [cmpP_yes h g]
      have hfd := field_p0
      replace h := Lib.hid h
      replace g := Lib.hid g
      obtain ⟨m, hm⟩ : ∃ m, m = cpl dp bp dq bq := ⟨_, rfl⟩
      have HM := Lib.hid hm
      rw [← hm]
      clear hm
      go_enter Try.func15, Try.ntmps15
      go_wp2_with fail
      rw [← HW.out]
      go_wp2_with (first
        | (go_at_call 33; (with_reducible refine (Calls.since (by assumption) (mayBe_at (by first | exact h.out | exact g.out) _)).mono ?_); rintro e w' ⟨rfl, hb⟩)
        | (go_at_call 13; (with_reducible refine (Calls.since (by assumption) (common_any _ _ _ _ _)).mono ?_); rintro e w3 ⟨rfl, hb3⟩))
      have hd3 := hb3.drew
      rw [← HM.out]
      go_region_held3 (fun W => Since w0 W) (first | assumption | exact Since.drew (by assumption)) ((first | (go_at_call 38; (with_reducible refine (Calls.since (by assumption) (bit_any _ _ _ _)).mono ?_); rintro e w4 ⟨rfl, hb4⟩) | (go_at_call 41; (with_reducible refine (Calls.since_same (by assumption) (cmp_any _ _ _)).mono ?_); rintro e w5 ⟨rfl, hb5⟩)))
      go_wp2
      go_ret
      exact ⟨rfl, hs0.trans (by assumption)⟩
end Go.Proofs.Ytilkifjdonafnaa
