/- The end of the law PointPuts. -/
import Derived.Test.YthgcmcdacejelaaDoorQPutsW
import Derived.Test.YthgcmcdacejelaaDoorQOpen
namespace Go.Proofs.YthgcmcdacejelaaDoor
open Go.RowKit
theorem puts_end (x y : Int) (key val : ByteArray) (ver bx b_y : Int) (bk bv : ByteArray) (bw kind ox oy : Int) (okey oval : ByteArray) (cl seq er : Int) (found : Bool) (aval : ByteArray) (aver : Int) (w : World) :
    Calls Tryd.prog 3 #[.agg #[.int .i64 x, .int .i64 y, .string key, .string val, .int .i64 ver], .agg #[.int .i64 bx, .int .i64 b_y, .string bk, .string bv, .int .i64 bw], .agg #[.int .i64 kind, .int .i64 ox, .int .i64 oy, .string okey, .string oval, .int .i64 cl, .int .i64 seq], .agg #[.int .i64 er, .bool found, .string aval, .int .i64 aver]] w
      fun e w' => e = .returned (.bool true) ∧ Below w.heap.size w w' :=
  puts_go x y key val ver bx b_y bk bv bw kind ox oy okey oval cl seq er found aval aver w
end Go.Proofs.YthgcmcdacejelaaDoor
