/- The law TilingBack, of what the program does. -/
import Derived.Test.YtdbacinaffdkaaaGTilP
import Derived.Test.YtdbacinaffdkaaaGBackW
import Derived.Test.YtdbacinaffdkaaaGActs
namespace Go.Proofs.Ytdbacinaffdkaaa
open Go.RowKit
theorem back_go (k : Int) (a : Option Addr) (len cap : Nat) (A : List Ac) (x y who : Int) (w : World) (_ : (Lit.int .i64 k).wf = true) (hA : LentE encA 4 w.heap.size w (.slice a len cap) A) (_ : (Lit.int .i64 x).wf = true) (_ : (Lit.int .i64 y).wf = true) (_ : (Lit.int .i64 who).wf = true) : Calls Try.prog 6 #[.int .i64 k, .slice a len cap, .agg #[.int .i64 x, .int .i64 y], .int .i64 who] w fun z w' => z = .returned (.bool true) ∧ Below w.heap.size w w' :=
  back_walk5 tilP k x y who w hA (Nat.le_refl _)
end Go.Proofs.Ytdbacinaffdkaaa
