/- The laws' knows of the windows; the document's Plain of all. What is asked of the program stands as premises. -/
import Derived.Test.YtgnhamhkpbadbaaWLaw
namespace Go.Proofs.Ytgnhamhkpbadbaa
open Go.RowKit
/-- Plain's error. -/
def plE (k : Int) (r : Rc) : Int := if winR k r = true then 0 else 1
def DistC : Prop := ∀ (k a b c d x y : Int), a ≤ 9223372036854775807 → b ≤ 9223372036854775807 → ∀ (w : World), Calls Try.prog 83 #[.agg #[.int .i64 k], .agg #[.int .i64 a, .int .i64 b, .int .i64 c, .int .i64 d], .agg #[.int .i64 x, .int .i64 y]] w fun z w' => z = .returned (.int .i64 (distR k ⟨a, b, c, d⟩ x y)) ∧ Below w.heap.size w w'
def RightC : Prop := ∀ (k a b c d : Int), a ≤ 9223372036854775807 → b ≤ 9223372036854775807 → ∀ (w : World), Calls Try.prog 118 #[.agg #[.int .i64 k], .agg #[.int .i64 a, .int .i64 b, .int .i64 c, .int .i64 d]] w fun z w' => z = .returned (.bool (rightR k ⟨a, b, c, d⟩)) ∧ Below w.heap.size w w'
end Go.Proofs.Ytgnhamhkpbadbaa
