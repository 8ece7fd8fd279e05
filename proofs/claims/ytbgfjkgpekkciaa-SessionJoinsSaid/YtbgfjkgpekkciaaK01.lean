/- torus.right, mayStep, Side, mask, within, up: each answers its number; it may make memory. -/
import Derived.Outline
import Derived.WalkSpells
import Derived.Test.YtbgfjkgpekkciaaRows
import Derived.WalkKit
import Derived.Lib.Hide
import Derived.Laws.BitsAllLaws
namespace Go.Proofs.Ytbgfjkgpekkciaa
open Go.RowKit
theorem ret_bool {a b : Bool} (h : a = b) : Ending.returned (.bool a) = .returned (.bool b) := by rw [h]
end Go.Proofs.Ytbgfjkgpekkciaa
