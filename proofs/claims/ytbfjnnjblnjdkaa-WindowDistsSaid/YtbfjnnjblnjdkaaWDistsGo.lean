/- The law WindowDists, of what the program does. -/
import Derived.Test.YtbfjnnjblnjdkaaWPlain
import Derived.Test.YtbfjnnjblnjdkaaWDistW
import Derived.Test.YtbfjnnjblnjdkaaWDists
namespace Go.Proofs.Ytbfjnnjblnjdkaa
open Go.RowKit
theorem dists_go (k a b c d x y : Int) (w : World) : Calls Try.prog 6 #[.int .i64 k, .agg #[.int .i64 a, .int .i64 b, .int .i64 c, .int .i64 d], .agg #[.int .i64 x, .int .i64 y]] w fun z w' => z = .returned (.bool true) ∧ Below w.heap.size w w' :=
  dists_walk plain_c dist_c k a b c d x y w
end Go.Proofs.Ytbfjnnjblnjdkaa
