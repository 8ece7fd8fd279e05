/- The law WindowHalves, of what the program does. -/
import Derived.Test.YtbfjnnjblnjdkaaWCovW
import Derived.Test.YtbfjnnjblnjdkaaWDistW
import Derived.Test.YtbfjnnjblnjdkaaWHalves
namespace Go.Proofs.Ytbfjnnjblnjdkaa
open Go.RowKit
theorem halves_go (k a b c d e f : Int) (w : World) : Calls Try.prog 5 #[.int .i64 k, .agg #[.int .i64 a, .int .i64 b, .int .i64 c, .int .i64 d], .agg #[.int .i64 e, .int .i64 f]] w fun z w' => z = .returned (.bool true) ∧ Below w.heap.size w w' :=
  halves_walk plain_c cut_c covers_c dist_c wArea_any k a b c d e f w
end Go.Proofs.Ytbfjnnjblnjdkaa
