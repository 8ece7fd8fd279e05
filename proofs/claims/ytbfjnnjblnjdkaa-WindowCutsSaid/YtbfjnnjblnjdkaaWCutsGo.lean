/- The law WindowCuts, of what the program does. -/
import Derived.Test.YtbfjnnjblnjdkaaWCovW
import Derived.Test.YtbfjnnjblnjdkaaWDistW
import Derived.Test.YtbfjnnjblnjdkaaWCuts
namespace Go.Proofs.Ytbfjnnjblnjdkaa
open Go.RowKit
theorem int_le {n : Int} (h : (Lit.int .i64 n).wf = true) : n ≤ 9223372036854775807 := by
  have h1 : (decide (IntKind.i64.min ≤ n) && decide (n ≤ IntKind.i64.max)) = true := h
  rw [Bool.and_eq_true, decide_eq_true_iff, decide_eq_true_iff, show IntKind.i64.max = 9223372036854775807 by decide] at h1
  exact h1.2
theorem cuts_go (k a b c d e f x y : Int) (w : World) (_ : (Lit.int .i64 k).wf = true) (wa : (Lit.int .i64 a).wf = true) (wb : (Lit.int .i64 b).wf = true) (_ : (Lit.int .i64 c).wf = true) (_ : (Lit.int .i64 d).wf = true) (_ : (Lit.int .i64 e).wf = true) (_ : (Lit.int .i64 f).wf = true) (_ : (Lit.int .i64 x).wf = true) (_ : (Lit.int .i64 y).wf = true) : Calls Try.prog 3 #[.int .i64 k, .agg #[.int .i64 a, .int .i64 b, .int .i64 c, .int .i64 d], .agg #[.int .i64 e, .int .i64 f], .agg #[.int .i64 x, .int .i64 y]] w fun z w' => z = .returned (.bool true) ∧ Below w.heap.size w w' :=
  cuts_walk plain_c cut_c covers_c dist_c k a b c d e f x y (int_le wa) (int_le wb) w
end Go.Proofs.Ytbfjnnjblnjdkaa
