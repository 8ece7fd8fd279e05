/- wire.Frame. -/
import Derived.Test.YtbgfjkgpekkciaaK09
import Derived.Test.YtbgfjkgpekkciaaK10
import Derived.Laws.BitsLemmas
import Derived.Laws.Tables
import Derived.Laws.CopyOwn
namespace Go.Proofs.Ytbgfjkgpekkciaa
open Go.RowKit
/-- A call that hands back a slice of its own that holds l. -/
def SlicePost (base : Nat) (l : List UInt8) (w : World) (e : Ending) (w' : World) : Prop := ∃ A n c, e = .returned (.slice A n c) ∧ Has w' base A n c l ∧ Below base w w'
end Go.Proofs.Ytbgfjkgpekkciaa
