/- torus.Area. -/
import Derived.Test.YtilkifjdonafnaaTHas
namespace Go.Proofs.Ytilkifjdonafnaa
open Go.RowKit
theorem area_bd (k : Int) : 0 ≤ side k * side k ∧ side k * side k ≤ 4294967296 := by
  obtain ⟨h1, h2⟩ := side_bd k
  exact ⟨Int.mul_nonneg h1 h1, Int.le_trans (Int.mul_le_mul h2 h2 h1 (by omega)) (by omega)⟩
set_option maxHeartbeats 400000 in
theorem area_any (k : Int) (w : World) : Calls Try.prog 29 #[.agg #[.int .i64 k]] w fun e w' => e = .returned (.int .i64 (side k * side k)) ∧ Below w.heap.size w w' := by
  have hm := area_bd k
  have hw : IntKind.i64.wrap (side k * side k) = side k * side k := IntWalk.i64_in _ (by omega)
  obtain ⟨w0, hw0⟩ : ∃ w0, w0 = w.alloc (.cells #[.int .i64 k] 31) := ⟨_, rfl⟩
  have hs0 : Since w w0 := by rw [hw0]; exact (Since.refl w).alloc _
  have wh0 : Whole w0 (w.heap.size) 31 #[.int .i64 k] := by rw [hw0]; exact Whole.new w _ _
  have HW := Lib.hid hw0
  have c0_0 := box_cell wh0 0 (.int .i64 k) rfl
  have hsr := Since.refl w0
  have hsd := hsr.drew
  clear hw0 wh0
  go_enter Try.func29, Try.ntmps29
  go_wp2
  rw [← HW.out]
  go_region_held3 (fun W => Since w0 W) (first | assumption | exact Since.drew (by assumption))
    (((go_at_call 46; (with_reducible refine (Calls.since (by assumption) (side_any _ _)).mono ?_); rintro e w1 ⟨rfl, hb1⟩)))
  go_wp2
  go_ret
  exact ⟨rfl, hs0.trans (by assumption)⟩
end Go.Proofs.Ytilkifjdonafnaa
