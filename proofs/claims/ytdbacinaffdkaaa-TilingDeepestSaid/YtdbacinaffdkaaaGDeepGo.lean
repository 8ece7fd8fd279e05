/- The law TilingDeepest, of what the program does. -/
import Derived.Test.YtdbacinaffdkaaaGTilP
import Derived.Test.YtdbacinaffdkaaaGDeepW
import Derived.Test.YtdbacinaffdkaaaGActs
namespace Go.Proofs.Ytdbacinaffdkaaa
open Go.RowKit
theorem deep_go (k : Int) (a : Option Addr) (len cap : Nat) (A : List Ac) (w : World) (_ : (Lit.int .i64 k).wf = true) (hA : LentE encA 4 w.heap.size w (.slice a len cap) A) : Calls Try.prog 7 #[.int .i64 k, .slice a len cap] w fun z w' => z = .returned (.bool true) ∧ Below w.heap.size w w' :=
  deep_walk tilP k w hA (Nat.le_refl _)
end Go.Proofs.Ytdbacinaffdkaaa
