/- The law BorderTwos. -/
import Derived.Test.YtgnhamhkpbadbaaBBes
namespace Go.Proofs.Ytgnhamhkpbadbaa
open Go.RowKit
set_option linter.unusedVariables false
set_option linter.unusedSimpArgs false
set_option maxRecDepth 100000 in
set_option maxHeartbeats 6400000 in
theorem btwos_walk (k d b f c x y : Int) (w : World) : Calls Try.prog 4 #[.int .i64 k, .agg #[.int .i64 d, .int .i64 b], .agg #[.int .i64 f, .int .i64 c], .agg #[.int .i64 x, .int .i64 y]] w fun z w' => z = .returned (.bool true) ∧ Below w.heap.size w w' := by
  obtain ⟨w0, hw0⟩ : ∃ w0, w0 = (((w.alloc (.cells #[.int .i64 d, .int .i64 b] 27)).alloc (.cells #[.int .i64 f, .int .i64 c] 27)).alloc (.cells #[.int .i64 x, .int .i64 y] 25)).alloc (.cells #[.int .i64 k] 65) := ⟨_, rfl⟩
  have hs0 : Since w w0 := by rw [hw0]; exact ((((Since.refl w).alloc _).alloc _).alloc _).alloc _
  have wh0 : Whole w0 (w.heap.size) 27 #[.int .i64 d, .int .i64 b] := by rw [hw0]; exact (((Whole.new w _ _).alloc _).alloc _).alloc _
  have wh1 : Whole w0 (w.heap.size + 1) 27 #[.int .i64 f, .int .i64 c] := by rw [hw0]; exact (((Whole.new (w.alloc _) _ _).alloc _).alloc _).at_ (by simp)
  have wh2 : Whole w0 (w.heap.size + 1 + 1) 25 #[.int .i64 x, .int .i64 y] := by rw [hw0]; exact ((Whole.new ((w.alloc _).alloc _) _ _).alloc _).at_ (by simp)
  have wh3 : Whole w0 (w.heap.size + 1 + 1 + 1) 65 #[.int .i64 k] := by rw [hw0]; exact (Whole.new (((w.alloc _).alloc _).alloc _) _ _).at_ (by simp)
  have HW := Lib.hid hw0
  have c0_0 := box_cell wh0 0 (.int .i64 d) rfl
  have c0_1 := box_cell wh0 1 (.int .i64 b) rfl
  have c1_0 := box_cell wh1 0 (.int .i64 f) rfl
  have c1_1 := box_cell wh1 1 (.int .i64 c) rfl
  have c2_0 := box_cell wh2 0 (.int .i64 x) rfl
  have c2_1 := box_cell wh2 1 (.int .i64 y) rfl
  have c3_0 := box_cell wh3 0 (.int .i64 k) rfl
  have hsr := Since.refl w0
  have hsd := hsr.drew
  clear hw0 wh0 wh1 wh2 wh3
  obtain ⟨l, hl⟩ : ∃ l, lenP k d b f c = l := ⟨_, rfl⟩
  obtain ⟨s, hs⟩ : ∃ l, besB k d b f c = l := ⟨_, rfl⟩
  obtain ⟨a, ha⟩ : ∃ l, aptZ k d b x y = l := ⟨_, rfl⟩
  have HL := Lib.hid hl
  have HS := Lib.hid hs
  have HA := Lib.hid ha
  clear hl hs ha
  go_enter Try.func4, Try.ntmps4
  go_upto_region 2 with fail
  rw [← HW.out]
  go_region_held3 (fun W => Since w0 W) (first | assumption | exact Since.drew (by assumption)) ((first | (go_at_call 29; (with_reducible refine (Calls.since (by assumption) (bLength_at HL.out _)).mono ?_); rintro e w1 ⟨rfl, hb1⟩) | (go_at_call 30; (with_reducible refine (Calls.since (by assumption) (rLength_at HL.out _)).mono ?_); rintro e w2 ⟨rfl, hb2⟩) | (go_at_call 31; (with_reducible refine (Calls.since (by assumption) (bBeside_at HS.out _)).mono ?_); rintro e w3 ⟨rfl, hb3⟩) | (go_at_call 32; (with_reducible refine (Calls.since (by assumption) (rBeside_at HS.out _)).mono ?_); rintro e w4 ⟨rfl, hb4⟩) | (go_at_call 33; (with_reducible refine (Calls.since (by assumption) (bApart_at HA.out _)).mono ?_); rintro e w5 ⟨rfl, hb5⟩) | (go_at_call 34; (with_reducible refine (Calls.since (by assumption) (rApart_at HA.out _)).mono ?_); rintro e w6 ⟨rfl, hb6⟩) | (go_at_call 35; (with_reducible refine (Calls.since (by assumption) (knows6 _)).mono ?_); rintro e w7 ⟨rfl, hb7⟩)))
  go_wp2
  all_goals
    go_ret
    exact ⟨by first | rfl | simp, hs0.trans (by assumption)⟩
end Go.Proofs.Ytgnhamhkpbadbaa
