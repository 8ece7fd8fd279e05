/- glebelaw07's own Rec, Op, Ans, RefRec, RefOp, RefAns, num, long. -/
import Derived.Test.YtbgfjkgpekkciaaK20
import Derived.Test.YtbgfjkgpekkciaaK21
namespace Go.Proofs.Ytbgfjkgpekkciaa
open Go.RowKit
set_option linter.unusedVariables false
theorem lawAns_any (er : Int) (fd : Bool) (val : ByteArray) (ver : Int) (w : World) : Calls Try.prog 21 #[.agg #[.int .i64 er, .bool fd, .string val, .int .i64 ver]] w fun e w' => e = .returned (.agg #[.int .i64 er, .bool fd, .string val, .int .i64 ver]) ∧ Below w.heap.size w w' := by
  go_enter Try.func21, Try.ntmps21
  go_wp2
  exact bodyPost_ret (results_cell_row rfl _ _ (w.heap.size + 1) 51 _ (0, 0) _ rfl ((Whole.new (w.alloc _) _ _).at_ (by simp)) Try.underlying51 rfl (by kernel_rfl)) rfl ⟨rfl, ((Since.refl w).alloc _).alloc _⟩
end Go.Proofs.Ytbgfjkgpekkciaa
