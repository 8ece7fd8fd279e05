/- glebelaw07's own Rec, Op, Ans, RefRec, RefOp, RefAns, num, long. -/
import Derived.Test.YtimmnmidhjbanaaDoorK33
namespace Go.Proofs.YtimmnmidhjbanaaDoor
open Go.RowKit
set_option linter.unusedVariables false
theorem lawOp_any (kind : Int) (x : Int) (y : Int) (key : ByteArray) (val : ByteArray) (cl : Int) (seq : Int) (w : World) : Calls Tryd.prog 43 #[.agg #[.int .i64 kind, .int .i64 x, .int .i64 y, .string key, .string val, .int .i64 cl, .int .i64 seq]] w fun e w' => e = .returned (.agg #[.int .i64 kind, .int .i64 x, .int .i64 y, .string key, .string val, .int .i64 cl, .int .i64 seq]) ∧ Below w.heap.size w w' := by
  go_enter Tryd.func43, Tryd.ntmps43
  go_wp2
  exact bodyPost_ret (results_cell_row rfl _ _ (w.heap.size + 1) 35 _ (0, 0) _ rfl ((Whole.new (w.alloc _) _ _).at_ (by simp)) Tryd.underlying35 rfl (by kernel_rfl)) rfl ⟨rfl, ((Since.refl w).alloc _).alloc _⟩
theorem lawRefOp_any (kind : Int) (x : Int) (y : Int) (key : ByteArray) (val : ByteArray) (cl : Int) (seq : Int) (w : World) : Calls Tryd.prog 56 #[.agg #[.int .i64 kind, .int .i64 x, .int .i64 y, .string key, .string val, .int .i64 cl, .int .i64 seq]] w fun e w' => e = .returned (.agg #[.int .i64 kind, .int .i64 x, .int .i64 y, .string key, .string val, .int .i64 cl, .int .i64 seq]) ∧ Below w.heap.size w w' := by
  go_enter Tryd.func56, Tryd.ntmps56
  go_wp2
  exact bodyPost_ret (results_cell_row rfl _ _ (w.heap.size + 1) 25 _ (0, 0) _ rfl ((Whole.new (w.alloc _) _ _).at_ (by simp)) Tryd.underlying25 rfl (by kernel_rfl)) rfl ⟨rfl, ((Since.refl w).alloc _).alloc _⟩
end Go.Proofs.YtimmnmidhjbanaaDoor
