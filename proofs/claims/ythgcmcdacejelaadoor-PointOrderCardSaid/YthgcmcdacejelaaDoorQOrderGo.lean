/- The end of the law PointOrder. -/
import Derived.Test.YthgcmcdacejelaaDoorQOrderW
import Derived.Test.YthgcmcdacejelaaDoorQOpen
namespace Go.Proofs.YthgcmcdacejelaaDoor
open Go.RowKit
theorem order_go (a0 a1 : Int) (a2 a3 : ByteArray) (a4 b0 b1 : Int) (b2 b3 : ByteArray) (b4 c0 c1 : Int) (c2 c3 : ByteArray) (c4 : Int) (w : World) :
    Calls Tryd.prog 6 #[.agg #[.int .i64 a0, .int .i64 a1, .string a2, .string a3, .int .i64 a4], .agg #[.int .i64 b0, .int .i64 b1, .string b2, .string b3, .int .i64 b4], .agg #[.int .i64 c0, .int .i64 c1, .string c2, .string c3, .int .i64 c4]] w fun e w' => e = .returned (.bool true) ∧ Below w.heap.size w w' :=
  order_walk a0 a1 a2 a3 a4 b0 b1 b2 b3 b4 c0 c1 c2 c3 c4 w
end Go.Proofs.YthgcmcdacejelaaDoor
