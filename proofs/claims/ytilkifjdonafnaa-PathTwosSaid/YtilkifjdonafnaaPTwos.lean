/- The walk of the law PathTwos. -/
import Derived.Test.YtilkifjdonafnaaPCommonR
namespace Go.Proofs.Ytilkifjdonafnaa
open Go.RowKit
theorem refMeet_at {dp bp dq bq : Int} {r : Bool} (h : metB dp bp dq bq = r) (w : World) : Calls Try.prog 12 #[.agg #[.int .i64 dp, .int .i64 bp], .agg #[.int .i64 dq, .int .i64 bq]] w fun e w' => e = .returned (.bool r) ∧ Below w.heap.size w w' := h ▸ refMeet_any dp bp dq bq w
theorem refCommon_at {dp bp dq bq M C : Int} (w : World) (e1 : (cpl dp bp dq bq : Int) = M) (e2 : comB dp bp dq bq = C) : Calls Try.prog 14 #[.agg #[.int .i64 dp, .int .i64 bp], .agg #[.int .i64 dq, .int .i64 bq]] w fun e w' => e = .returned (.agg #[.int .i64 M, .int .i64 C]) ∧ Below w.heap.size w w' := e1 ▸ e2 ▸ refCommon_any dp bp dq bq w
theorem refCompare_at {dp bp dq bq v : Int} (h : cmpP dp bp dq bq = v) (w : World) : Calls Try.prog 16 #[.agg #[.int .i64 dp, .int .i64 bp], .agg #[.int .i64 dq, .int .i64 bq]] w fun e w' => e = .returned (.int .i64 v) ∧ Below w.heap.size w w' := h ▸ refCompare_any dp bp dq bq w
set_option maxRecDepth 100000 in
set_option maxHeartbeats 2000000 in
theorem twos_walk (dp bp dq bq : Int) (w : World) : Calls Try.prog 3 #[.agg #[.int .i64 dp, .int .i64 bp], .agg #[.int .i64 dq, .int .i64 bq]] w fun e w' => e = .returned (.bool true) ∧ Below w.heap.size w w' := by
  obtain ⟨x, hx⟩ : ∃ x, abvB dp bp dq bq = x := ⟨_, rfl⟩
  obtain ⟨y, hy⟩ : ∃ y, metB dp bp dq bq = y := ⟨_, rfl⟩
  obtain ⟨m, hm⟩ : ∃ m : Int, (cpl dp bp dq bq : Int) = m := ⟨_, rfl⟩
  obtain ⟨c, hc⟩ : ∃ c, comB dp bp dq bq = c := ⟨_, rfl⟩
  obtain ⟨v, hv⟩ : ∃ v, cmpP dp bp dq bq = v := ⟨_, rfl⟩
  have HX := Lib.hid hx
  have HY := Lib.hid hy
  have HM := Lib.hid hm
  have HC := Lib.hid hc
  have HV := Lib.hid hv
  clear hx hy hm hc hv
  obtain ⟨w0, hw0⟩ : ∃ w0, w0 = (w.alloc (.cells #[.int .i64 dp, .int .i64 bp] 23)).alloc (.cells #[.int .i64 dq, .int .i64 bq] 23) := ⟨_, rfl⟩
  have hs0 : Since w w0 := by rw [hw0]; exact ((Since.refl w).alloc _).alloc _
  have wh0 : Whole w0 (w.heap.size) 23 #[.int .i64 dp, .int .i64 bp] := by rw [hw0]; exact (Whole.new w _ _).alloc _
  have wh1 : Whole w0 (w.heap.size + 1) 23 #[.int .i64 dq, .int .i64 bq] := by rw [hw0]; exact (Whole.new (w.alloc _) _ _).at_ (by simp)
  have HW := Lib.hid hw0
  have c0_0 := box_cell wh0 0 (.int .i64 dp) rfl
  have c0_1 := box_cell wh0 1 (.int .i64 bp) rfl
  have c1_0 := box_cell wh1 0 (.int .i64 dq) rfl
  have c1_1 := box_cell wh1 1 (.int .i64 bq) rfl
  have hsr := Since.refl w0
  have hsd := hsr.drew
  clear hw0 wh0 wh1
  go_enter Try.func3, Try.ntmps3
  go_wp2_with fail
  rw [← HW.out]
  go_region_held3 (fun W => Since w0 W) (first | assumption | exact Since.drew (by assumption)) ((first | (go_at_call 9; (with_reducible refine (Calls.since (by assumption) (above_at HX.out _)).mono ?_); rintro e w1 ⟨rfl, hb1⟩) | (go_at_call 10; (with_reducible refine (Calls.since (by assumption) (refAbove_at HX.out _)).mono ?_); rintro e w2 ⟨rfl, hb2⟩) | (go_at_call 11; (with_reducible refine (Calls.since (by assumption) (meet_at HY.out _)).mono ?_); rintro e w3 ⟨rfl, hb3⟩) | (go_at_call 12; (with_reducible refine (Calls.since (by assumption) (refMeet_at HY.out _)).mono ?_); rintro e w4 ⟨rfl, hb4⟩) | (go_at_call 13; (with_reducible refine (Calls.since (by assumption) (common_at _ HM.out HC.out)).mono ?_); rintro e w5 ⟨rfl, hb5⟩) | (go_at_call 14; (with_reducible refine (Calls.since (by assumption) (refCommon_at _ HM.out HC.out)).mono ?_); rintro e w6 ⟨rfl, hb6⟩) | (go_at_call 15; (with_reducible refine (Calls.since (by assumption) (compare_at HV.out _)).mono ?_); rintro e w7 ⟨rfl, hb7⟩) | (go_at_call 16; (with_reducible refine (Calls.since (by assumption) (refCompare_at HV.out _)).mono ?_); rintro e w8 ⟨rfl, hb8⟩) | (go_at_call 17; (with_reducible refine (Calls.since (by assumption) (knows_any _)).mono ?_); rintro e w9 ⟨rfl, hb9⟩)))
  go_wp2
  go_ret
  exact ⟨rfl, hs0.trans (by assumption)⟩
end Go.Proofs.Ytilkifjdonafnaa
