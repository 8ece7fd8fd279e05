/- wire.appendFixed, wire.fixed: numbers in so many bytes. -/
import Derived.Test.YthgcmcdacejelaaDoorUNum
namespace Go.Proofs.YthgcmcdacejelaaDoor
open Go.RowKit
theorem or_shl (U n k : Nat) (hk : k ≤ 6) (hU : U < 256 ^ k) (hn : n < 256) : bits .or .i64 (U : Int) (wrap64 ((n : Int) * 2 ^ (8 * k))) = ((U + n * 256 ^ k : Nat) : Int) := by
  have hp : (256 : Nat) ^ k = 2 ^ (8 * k) := by rw [Nat.pow_mul]
  have hp6 : 2 ^ (8 * k) ≤ 281474976710656 := Nat.le_trans (Nat.pow_le_pow_right (by omega) (show 8 * k ≤ 48 by omega)) (by decide)
  rw [hp] at hU ⊢
  have e1 : (n : Int) * 2 ^ (8 * k) = ((n * 2 ^ (8 * k) : Nat) : Int) := by rw [Int.natCast_mul, Int.natCast_pow]; rfl
  have hm : n * 2 ^ (8 * k) ≤ 255 * 281474976710656 := Nat.mul_le_mul (by omega) hp6
  have hj := nat_join (8 * k) (n * 2 ^ (8 * k)) U (Nat.mul_mod_left _ _) hU
  rw [e1]
  generalize n * 2 ^ (8 * k) = x at hm hj ⊢
  generalize 2 ^ (8 * k) = y at hU hp6
  rw [IntWalk.wrap64_in _ ⟨by omega, by omega⟩]
  show IntKind.i64.wrap ((BitVec.ofInt 64 (U : Int) ||| BitVec.ofInt 64 (x : Int)).toNat : Int) = _
  rw [BitVec.toNat_or, ofi64 U (by omega), ofi64 x (by omega), Nat.or_comm, hj, IntKind.wrap_i64]
  omega
end Go.Proofs.YthgcmcdacejelaaDoor
