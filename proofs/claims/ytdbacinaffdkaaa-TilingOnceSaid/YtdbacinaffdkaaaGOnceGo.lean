/- The law TilingOnce, of what the program does. -/
import Derived.Test.YtdbacinaffdkaaaGTilP
import Derived.Test.YtdbacinaffdkaaaGOnceW
import Derived.Test.YtdbacinaffdkaaaGActs
namespace Go.Proofs.Ytdbacinaffdkaaa
open Go.RowKit
theorem once_go (k : Int) (a : Option Addr) (len cap : Nat) (A : List Ac) (x y : Int) (w : World) (_ : (Lit.int .i64 k).wf = true) (hA : LentE encA 4 w.heap.size w (.slice a len cap) A) (_ : (Lit.int .i64 x).wf = true) (_ : (Lit.int .i64 y).wf = true) : Calls Try.prog 5 #[.int .i64 k, .slice a len cap, .agg #[.int .i64 x, .int .i64 y]] w fun z w' => z = .returned (.bool true) ∧ Below w.heap.size w w' :=
  once_walk tilP k x y w hA (Nat.le_refl _)
end Go.Proofs.Ytdbacinaffdkaaa
