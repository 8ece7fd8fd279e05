/- The law TilingNil, of what the program does. -/
import Derived.Test.YtdbacinaffdkaaaGNil
import Derived.Test.YtdbacinaffdkaaaGActV
namespace Go.Proofs.Ytdbacinaffdkaaa
open Go.RowKit
theorem nil_go (kind d b who x y : Int) (w : World) : Calls Try.prog 4 #[.agg #[.int .i64 kind, .int .i64 d, .int .i64 b, .int .i64 who], .agg #[.int .i64 x, .int .i64 y]] w fun z w' => z = .returned (.bool true) ∧ Below w.heap.size w w' :=
  tnil_walk kind d b who x y w
end Go.Proofs.Ytdbacinaffdkaaa
