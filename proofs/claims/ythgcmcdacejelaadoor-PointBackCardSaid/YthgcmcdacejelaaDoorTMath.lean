/- The torus in numbers: sides, what a number wraps to, distances; nothing of the program. -/
import Derived.Test.YthgcmcdacejelaaDoorRows
import Derived.WalkKit
import Derived.Lib.Hide
import Derived.Laws.BitsAllLaws
namespace Go.Proofs.YthgcmcdacejelaaDoor
open Go.RowKit
/-- May a torus of k be? -/
def rgt (k : Int) : Bool := decide (1 ≤ k ∧ k ≤ 16)
/-- Its side; 0 of none. -/
def side (k : Int) : Int := if rgt k then 2 ^ k.toNat else 0
/-- The side, and 1 of none. -/
def sd (k : Int) : Int := if rgt k then 2 ^ k.toNat else 1
theorem rgt_iff (k : Int) : rgt k = true ↔ 1 ≤ k ∧ k ≤ 16 := by unfold rgt; exact decide_eq_true_iff
theorem side_no {k : Int} (h : rgt k = false) : side k = 0 := by unfold side; rw [h]; rfl
theorem sd_no {k : Int} (h : rgt k = false) : sd k = 1 := by unfold sd; rw [h]; rfl
theorem side_yes {k : Int} (h : rgt k = true) : side k = 2 ^ k.toNat := by unfold side; rw [if_pos h]
theorem sd_yes {k : Int} (h : rgt k = true) : sd k = side k := by unfold sd side; rw [if_pos h, if_pos h]
theorem pow_cast (n : Nat) : (2 : Int) ^ n = ((2 ^ n : Nat) : Int) := by rw [Int.natCast_pow]; rfl
theorem side_nat {k : Int} (h : rgt k = true) : ∃ n : Nat, k = ((n + 1 : Nat) : Int) ∧ n ≤ 15 ∧ side k = ((2 ^ (n + 1) : Nat) : Int) := by
  obtain ⟨h1, h2⟩ := (rgt_iff k).1 h
  refine ⟨k.toNat - 1, by omega, by omega, ?_⟩
  rw [side_yes h, pow_cast, show k.toNat - 1 + 1 = k.toNat by omega]
/-- A side is twice a number from 1 to 32768. -/
theorem side_half {k : Int} (h : rgt k = true) : ∃ m : Nat, side k = 2 * (m : Int) ∧ 1 ≤ m ∧ m ≤ 32768 := by
  obtain ⟨n, _, hn, hs⟩ := side_nat h
  refine ⟨2 ^ n, ?_, Nat.two_pow_pos n, Nat.pow_le_pow_right (n := 2) (by omega) hn⟩
  rw [hs, Nat.pow_succ]
  omega
theorem sd_pos (k : Int) : 0 < sd k := by
  cases h : rgt k with
  | false => rw [sd_no h]; omega
  | true => obtain ⟨m, h1, h2, _⟩ := side_half h; rw [sd_yes h, h1]; omega
theorem sd_le (k : Int) : sd k ≤ 65536 := by
  cases h : rgt k with
  | false => rw [sd_no h]; omega
  | true => obtain ⟨m, h1, _, h2⟩ := side_half h; rw [sd_yes h, h1]; omega
theorem side_bd (k : Int) : 0 ≤ side k ∧ side k ≤ 65536 := by
  cases h : rgt k with
  | false => rw [side_no h]; omega
  | true => obtain ⟨m, h1, _, h2⟩ := side_half h; rw [h1]; omega
theorem side_max (k : Int) : max (side k) 1 = sd k := by
  cases h : rgt k with
  | false => rw [side_no h, sd_no h]; rfl
  | true => have := sd_pos k; rw [sd_yes h] at this ⊢; omega
theorem side_le_sd (k : Int) : side k ≤ sd k := by
  cases h : rgt k with
  | false => rw [side_no h, sd_no h]; omega
  | true => rw [sd_yes h]; omega
/-- sd divides 2^64. -/
theorem sd_dvd (k : Int) : sd k ∣ 18446744073709551616 := by
  cases h : rgt k with
  | false => rw [sd_no h]; exact ⟨_, (Int.one_mul _).symm⟩
  | true =>
    obtain ⟨n, _, hn, hs⟩ := side_nat h
    rw [sd_yes h, hs]
    exact Int.natCast_dvd_natCast.2 (show 2 ^ (n + 1) ∣ 18446744073709551616 from Nat.pow_dvd_pow 2 (show n + 1 ≤ 64 by omega))
theorem wrap_mod (k x : Int) : wrap64 x % sd k = x % sd k := by
  obtain ⟨c, hc⟩ := sd_dvd k
  have e : ∃ q : Int, wrap64 x = x + 18446744073709551616 * q := by
    refine ⟨(wrap64 x - x) / 18446744073709551616, ?_⟩
    have : (wrap64 x - x) % 18446744073709551616 = 0 := by
      unfold wrap64
      omega
    omega
  obtain ⟨q, hq⟩ := e
  rw [hq, hc, Int.mul_assoc, Int.add_mul_emod_self_left]
/-- Binding by a mask is the remainder. -/
theorem mask_mod (k x : Int) : bits .and .i64 x (sd k - 1) = x % sd k := by
  obtain ⟨n, hn, hs⟩ : ∃ n : Nat, n ≤ 16 ∧ sd k = ((2 ^ n : Nat) : Int) := by
    cases h : rgt k with
    | false => exact ⟨0, by omega, sd_no h⟩
    | true =>
      obtain ⟨n, _, hn, hs⟩ := side_nat h
      exact ⟨n + 1, by omega, by rw [sd_yes h, hs]⟩
  have hp := Nat.two_pow_pos n
  have hq : 2 ^ n ≤ 65536 := Nat.pow_le_pow_right (n := 2) (by omega) hn
  have hdv : (2 ^ n : Nat) ∣ 18446744073709551616 := Nat.pow_dvd_pow 2 (show n ≤ 64 by omega)
  have e1 : sd k - 1 = ((2 ^ n - 1 : Nat) : Int) := by rw [hs]; omega
  show IntKind.i64.wrap ((BitVec.ofInt 64 x &&& BitVec.ofInt 64 (sd k - 1)).toNat : Int) = _
  have e2 : (BitVec.ofInt 64 (sd k - 1)).toNat = 2 ^ n - 1 := by
    rw [e1, BitVec.toNat_ofInt]
    generalize 2 ^ n = y at hq hp
    omega
  have e3 : (BitVec.ofInt 64 x).toNat % 2 ^ n = (x % ((2 ^ n : Nat) : Int)).toNat := by
    rw [BitVec.toNat_ofInt]
    obtain ⟨c, hc⟩ := hdv
    have h1 : x % (2 ^ 64 : Nat) % ((2 ^ n : Nat) : Int) = x % ((2 ^ n : Nat) : Int) :=
      Int.emod_emod_of_dvd x (Int.natCast_dvd_natCast.2 ⟨c, hc⟩)
    have h2 : 0 ≤ x % (2 ^ 64 : Nat) := Int.emod_nonneg _ (by decide)
    generalize x % ((2 ^ 64 : Nat) : Int) = y at h1 h2 ⊢
    rw [← h1]
    obtain ⟨m, rfl⟩ := Int.eq_ofNat_of_zero_le h2
    rw [Int.toNat_natCast, ← Int.natCast_emod, Int.toNat_natCast]
  have e4 : 0 ≤ x % ((2 ^ n : Nat) : Int) := Int.emod_nonneg _ (by omega)
  have e5 : x % ((2 ^ n : Nat) : Int) < ((2 ^ n : Nat) : Int) := Int.emod_lt_of_pos _ (by omega)
  rw [BitVec.toNat_and, e2, Nat.and_two_pow_sub_one_eq_mod, e3, IntKind.wrap_i64, hs]
  generalize x % ((2 ^ n : Nat) : Int) = y at e4 e5 ⊢
  generalize 2 ^ n = z at e5 hq
  omega
theorem tmod_emod (k m : Int) : k.tmod m % m = k % m := by
  have h4 := Int.tmod_add_mul_tdiv k m
  have h5 : k % m = (k.tmod m + m * k.tdiv m) % m := by rw [h4]
  rw [h5, Int.add_mul_emod_self_left]
theorem tmod_bd (k m : Int) (hm : 0 < m) : -m < k.tmod m ∧ k.tmod m < m := ⟨Int.lt_tmod_of_pos k hm, Int.tmod_lt_of_pos k hm⟩
end Go.Proofs.YthgcmcdacejelaaDoor
