/- The law EntryBack, whole. -/
import Derived.Test.YtimmnmidhjbanaaDoorK43
namespace Go.Proofs.YtimmnmidhjbanaaDoor
open Go.RowKit
theorem back11_go (kind ok x y : Int) (key val : ByteArray) (cl seq nd ep bx : Int) (ca : Option Addr) (cn cc : Nat) (l : List Int) (A0 : Option Addr) (n0 c0 : Nat) (z0 : List Int) (w : World) (h : LZ w.heap.size w (.slice ca cn cc) l) (hr : RowIn .u8 w A0 n0 c0 z0) : Calls Tryd.prog 5 #[.agg #[.int .i64 kind, .int .i64 ok, .int .i64 x, .int .i64 y, .string key, .string val, .int .i64 cl, .int .i64 seq, .int .i64 nd, .int .i64 ep, .int .i64 bx, .slice ca cn cc], .slice A0 n0 c0] w fun e w' => e = .returned (.bool true) ∧ Below w.heap.size w w' := eback_go kind ok x y key val cl seq nd ep bx ca cn cc l A0 n0 c0 z0 w h hr
end Go.Proofs.YtimmnmidhjbanaaDoor
