/- The end of the law PointBack. -/
import Derived.Test.YthgcmcdacejelaaDoorQBackW
import Derived.Test.YthgcmcdacejelaaDoorQOpen
namespace Go.Proofs.YthgcmcdacejelaaDoor
open Go.RowKit
theorem pback_end (x y : Int) (key val : ByteArray) (ver kind ox oy : Int) (okey oval : ByteArray) (cl seq er : Int) (found : Bool) (aval : ByteArray) (aver : Int) (A0 : Option Addr) (n0 c0 : Nat) (z0 : List Int) (w : World) (hr : RowIn .u8 w A0 n0 c0 z0) :
    Calls Tryd.prog 5 #[.agg #[.int .i64 x, .int .i64 y, .string key, .string val, .int .i64 ver], .agg #[.int .i64 kind, .int .i64 ox, .int .i64 oy, .string okey, .string oval, .int .i64 cl, .int .i64 seq], .agg #[.int .i64 er, .bool found, .string aval, .int .i64 aver], .slice A0 n0 c0] w
      fun e w' => e = .returned (.bool true) ∧ Below w.heap.size w w' :=
  back_go x y key val ver kind ox oy okey oval cl seq er found aval aver A0 n0 c0 z0 w hr
end Go.Proofs.YthgcmcdacejelaaDoor
