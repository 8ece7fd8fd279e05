/- The law WindowFour, of what the program does. -/
import Derived.Test.YtbfjnnjblnjdkaaWMeet
import Derived.Test.YtbfjnnjblnjdkaaWPlain
import Derived.Test.YtbfjnnjblnjdkaaWDistW
import Derived.Test.YtbfjnnjblnjdkaaWFour
namespace Go.Proofs.Ytbfjnnjblnjdkaa
open Go.RowKit
theorem four_go (k a b c d x y : Int) (w : World) : Calls Try.prog 4 #[.int .i64 k, .agg #[.int .i64 a, .int .i64 b, .int .i64 c, .int .i64 d], .agg #[.int .i64 x, .int .i64 y]] w fun z w' => z = .returned (.bool true) ∧ Below w.heap.size w w' :=
  four_walk plain_c dist_c right_c wMeet_any wArea_any wHas_any k a b c d x y w
end Go.Proofs.Ytbfjnnjblnjdkaa
