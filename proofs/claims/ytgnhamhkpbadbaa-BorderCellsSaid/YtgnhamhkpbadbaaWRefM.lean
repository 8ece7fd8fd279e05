/- gleberef04: what two rectangles have together, a zone's rectangle. -/
import Derived.Test.YtgnhamhkpbadbaaWRef
import Derived.Test.YtgnhamhkpbadbaaPRef
namespace Go.Proofs.Ytgnhamhkpbadbaa
open Go.RowKit
/-- A number that the least and the greatest of two are, as the machine takes them. -/
theorem max_ite (a p : Int) : (if a < p then p else a) = max a p := by split <;> omega
theorem min_ite (a p : Int) : (if p < a then p else a) = min a p := by split <;> omega
/-- Four cells behind each other, stored. -/
theorem Since.set4 {w0 W : World} (h : Since w0 W) {g : Nat} (hg : w0.heap.size ≤ g) (a b c d : Value) : Since w0 ((((W.setCell ⟨g, 0, none⟩ a).setCell ⟨g, 1, none⟩ b).setCell ⟨g, 2, none⟩ c).setCell ⟨g, 3, none⟩ d) :=
  (((h.setCell (p := ⟨g, 0, none⟩) hg _).setCell (p := ⟨g, 1, none⟩) hg _).setCell (p := ⟨g, 2, none⟩) hg _).setCell (p := ⟨g, 3, none⟩) hg _
theorem But.set4 {g : Nat} {w0 W : World} (h : Since w0 W) (a b c d : Value) : But g w0 ((((W.setCell ⟨g, 0, none⟩ a).setCell ⟨g, 1, none⟩ b).setCell ⟨g, 2, none⟩ c).setCell ⟨g, 3, none⟩ d) :=
  ((But.set2 h 0 1 a b).set_ (p := ⟨g, 2, none⟩) rfl c).set_ (p := ⟨g, 3, none⟩) rfl d
theorem Whole.set4 {W : World} {g : Nat} {t : TypeId} {x y z u : Value} (h : Whole W g t #[x, y, z, u]) (a b c d : Value) : Whole ((((W.setCell ⟨g, 0, none⟩ a).setCell ⟨g, 1, none⟩ b).setCell ⟨g, 2, none⟩ c).setCell ⟨g, 3, none⟩ d) g t #[a, b, c, d] :=
  (((h.set_ 0 a).set_ 1 b).set_ 2 c).set_ 3 d
end Go.Proofs.Ytgnhamhkpbadbaa
