/- The walk of the law PathZones. -/
import Derived.Test.YtdbacinaffdkaaaPKnows
import Derived.Deep.Cut
import Derived.Deep.CutRange
namespace Go.Proofs.Ytdbacinaffdkaaa
open Go.RowKit
theorem corner_at {k d b p q r s : Int} (w : World) (h : okP k d b = true) (e : corF (side k) (ups d b (cnt d b)) = (p, q, r, s)) : Calls Try.prog 35 #[.agg #[.int .i64 k], .agg #[.int .i64 d, .int .i64 b]] w fun e w' => e = .returned (.tuple #[.agg #[.int .i64 p, .int .i64 q], .int .i64 r, .int .i64 s]) ∧ Below w.heap.size w w' := by
  have h1 := corner_raw k d b w h
  rw [e] at h1
  exact h1
theorem at_at {k x y d A : Int} {dn : Nat} (w : World) (h : hasB k x y = true) (hdn : d = (dn : Int)) (hd : d ≤ 2 * k) (e : atV k x y dn = A) : Calls Try.prog 34 #[.agg #[.int .i64 k], .agg #[.int .i64 x, .int .i64 y], .int .i64 d] w fun e w' => e = .returned (.tuple #[.agg #[.int .i64 d, .int .i64 A], .int .i64 0]) ∧ Below w.heap.size w w' := e ▸ at_yes k x y d dn w h hdn hd
theorem area_step {r s D N : Int} {n : Nat} (h : 0 < r * s ∧ r * s * 2 ^ D.toNat ≤ N ∧ N ≤ 4294967296) (hn : n < D.toNat) : wrap64 (r * s * 2 ^ n * 2) = r * s * 2 ^ (n + 1) := by
  have e1 : r * s * 2 ^ n * 2 = r * s * 2 ^ (n + 1) := by rw [p2_succ, Int.mul_assoc, Int.mul_comm (2 ^ n) 2]
  have h1 : r * s * 2 ^ (n + 1) ≤ r * s * 2 ^ D.toNat := Int.mul_le_mul_of_nonneg_left (p2_le (by omega)) (by omega)
  have h2 : 0 ≤ r * s * 2 ^ (n + 1) := Int.mul_nonneg (by omega) (Int.le_of_lt (p2_pos _))
  rw [e1]
  exact IntWalk.wrap64_in _ ⟨by omega, by omega⟩
end Go.Proofs.Ytdbacinaffdkaaa
