/- wire.number: what stands first in bytes. -/
import Derived.Test.YtbgfjkgpekkciaaK12
import Derived.WalkMore
import Derived.ScopeJumps
namespace Go.Proofs.Ytbgfjkgpekkciaa
open Go.RowKit
/-- What number answers, from the group i on, where n has been read: the number, its bytes, the error. -/
def dec (most : Nat) : Nat → Nat → List UInt8 → Nat × Nat × Int
  | _, _, [] => (0, 0, 20)
  | i, n, c :: r =>
    if most < n + c.toNat % 128 * 128 ^ i then (0, 0, 21)
    else if 0 < i ∧ c.toNat = 0 then (0, 0, 21)
    else if i = 7 ∧ 128 ≤ c.toNat then (0, 0, 21)
    else if c.toNat < 128 then (n + c.toNat % 128 * 128 ^ i, i + 1, 0)
    else dec most (i + 1) (n + c.toNat % 128 * 128 ^ i) r
end Go.Proofs.Ytbgfjkgpekkciaa
