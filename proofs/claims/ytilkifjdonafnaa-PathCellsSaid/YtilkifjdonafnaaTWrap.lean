/- torus.Wrap: any x and y, bound to the side. -/
import Derived.Test.YtilkifjdonafnaaTBase
namespace Go.Proofs.Ytilkifjdonafnaa
open Go.RowKit
set_option maxHeartbeats 400000 in
theorem wrap_any (k x y : Int) (w : World) : Calls Try.prog 28 #[.agg #[.int .i64 k], .int .i64 x, .int .i64 y] w fun e w' => e = .returned (.agg #[.int .i64 (x % sd k), .int .i64 (y % sd k)]) ∧ Below w.heap.size w w' := by
  have hx := mask_mod k x
  have hy := mask_mod k y
  obtain ⟨w0, hw0⟩ : ∃ w0, w0 = (w.alloc (.cells #[.int .i64 k] 31)).alloc (.cells #[.int .i64 0, .int .i64 0] 29) := ⟨_, rfl⟩
  have hs0 : Since w w0 := by rw [hw0]; exact ((Since.refl w).alloc _).alloc _
  have h1 : Whole w0 w.heap.size 31 #[.int .i64 k] := by rw [hw0]; exact (Whole.new w _ _).alloc _
  have h2 : Whole w0 (w.heap.size + 1) 29 #[.int .i64 0, .int .i64 0] := by rw [hw0]; exact (Whole.new (w.alloc _) _ _).at_ (by simp)
  have HW := Lib.hid hw0
  have c1 := but_cell h1 (g := w.heap.size + 1) (by omega) 0 _ rfl
  have c2 := box_cell h2 0 _ rfl
  have c3 := box_cell h2 1 _ rfl
  have f2 := box_free h2 0
  have f3 := box_free h2 1
  have hsr : Since w0 w0.drew := (Since.refl w0).drew
  clear hw0 h1 h2
  go_enter Try.func28, Try.ntmps28
  go_wp2
  rw [← HW.out]
  go_region_held3 (fun W => But (w.heap.size + 1) w0 W) (first | assumption | exact Since.but (by assumption) _ | exact But.set2 (by assumption) _ _ _ _)
    ((go_at_call 48; (with_reducible refine (Calls.since (by assumption) (mask_any _ _)).mono ?_); rintro e w1 ⟨rfl, hb⟩))
  go_wp2
  have g1 := c2 w1 hb
  have g2 := c3 w1 hb
  exact bodyPost_ret (v := .agg #[.int .i64 (x % sd k), .int .i64 (y % sd k)]) (by simp [results, Try.results28, go_sem, g1, g2]) rfl ⟨rfl, Below.setCell (Below.setCell (hs0.trans hb) (by simp) _) (by simp) _⟩
end Go.Proofs.Ytilkifjdonafnaa
