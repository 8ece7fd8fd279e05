/- The walk of the law PathTwos. -/
import Derived.Test.YtgnhamhkpbadbaaPRef
namespace Go.Proofs.Ytgnhamhkpbadbaa
open Go.RowKit
theorem refMeet_at {dp bp dq bq : Int} {r : Bool} (h : metB dp bp dq bq = r) (w : World) : Calls Try.prog 77 #[.agg #[.int .i64 dp, .int .i64 bp], .agg #[.int .i64 dq, .int .i64 bq]] w fun e w' => e = .returned (.bool r) ∧ Below w.heap.size w w' := h ▸ refMeet_any dp bp dq bq w
theorem refCompare_at {dp bp dq bq v : Int} (h : cmpP dp bp dq bq = v) (w : World) : Calls Try.prog 129 #[.agg #[.int .i64 dp, .int .i64 bp], .agg #[.int .i64 dq, .int .i64 bq]] w fun e w' => e = .returned (.int .i64 v) ∧ Below w.heap.size w w' := h ▸ refCompare_any dp bp dq bq w
end Go.Proofs.Ytgnhamhkpbadbaa
