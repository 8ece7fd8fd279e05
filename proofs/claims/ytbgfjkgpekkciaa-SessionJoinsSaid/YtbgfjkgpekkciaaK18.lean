/- The document's own reader: Upto and Text. -/
import Derived.Test.YtbgfjkgpekkciaaK17
namespace Go.Proofs.Ytbgfjkgpekkciaa
open Go.RowKit
/-- Where a slice of bytes that came in may lie. -/
def Seen (A : Option Addr) (n c : Nat) : Prop := (A = none ∧ n = 0 ∧ c = 0) ∨ ∃ ad, A = some ad ∧ (c = 0 ∨ ∃ g off, ad = ⟨g, off, none⟩)
section
variable {w : World} {B q : Nat} {A : Option Addr} {n c : Nat} {b : List UInt8} {k : Nat} {e : Int}
end
end Go.Proofs.Ytbgfjkgpekkciaa
