/- The torus in numbers: sides, what a number wraps to, distances; nothing of the program. torus.right, mayStep, Side, mask, within, up: each answers its number; it may make memory. -/
import Derived.Outline
import Derived.WalkSpells
import Derived.Test.YtimmnmidhjbanaaDoorRows
import Derived.WalkKit
import Derived.Lib.Hide
import Derived.Laws.BitsAllLaws
namespace Go.Proofs.YtimmnmidhjbanaaDoor
open Go.RowKit
/-- May a torus of k be? -/
def rgt (k : Int) : Bool := decide (1 ≤ k ∧ k ≤ 16)
/-- Its side; 0 of none. -/
def side (k : Int) : Int := if rgt k then 2 ^ k.toNat else 0
/-- The side, and 1 of none. -/
def sd (k : Int) : Int := if rgt k then 2 ^ k.toNat else 1
theorem rgt_iff (k : Int) : rgt k = true ↔ 1 ≤ k ∧ k ≤ 16 := by unfold rgt; exact decide_eq_true_iff
theorem side_no {k : Int} (h : rgt k = false) : side k = 0 := by unfold side; rw [h]; rfl
theorem sd_no {k : Int} (h : rgt k = false) : sd k = 1 := by unfold sd; rw [h]; rfl
theorem side_yes {k : Int} (h : rgt k = true) : side k = 2 ^ k.toNat := by unfold side; rw [if_pos h]
theorem sd_yes {k : Int} (h : rgt k = true) : sd k = side k := by unfold sd side; rw [if_pos h, if_pos h]
theorem pow_cast (n : Nat) : (2 : Int) ^ n = ((2 ^ n : Nat) : Int) := by rw [Int.natCast_pow]; rfl
theorem side_nat {k : Int} (h : rgt k = true) : ∃ n : Nat, k = ((n + 1 : Nat) : Int) ∧ n ≤ 15 ∧ side k = ((2 ^ (n + 1) : Nat) : Int) := by
  obtain ⟨h1, h2⟩ := (rgt_iff k).1 h
  refine ⟨k.toNat - 1, by omega, by omega, ?_⟩
  rw [side_yes h, pow_cast, show k.toNat - 1 + 1 = k.toNat by omega]
/-- A side is twice a number from 1 to 32768. -/
theorem side_half {k : Int} (h : rgt k = true) : ∃ m : Nat, side k = 2 * (m : Int) ∧ 1 ≤ m ∧ m ≤ 32768 := by
  obtain ⟨n, _, hn, hs⟩ := side_nat h
  refine ⟨2 ^ n, ?_, Nat.two_pow_pos n, Nat.pow_le_pow_right (n := 2) (by omega) hn⟩
  rw [hs, Nat.pow_succ]
  omega
theorem sd_pos (k : Int) : 0 < sd k := by
  cases h : rgt k with
  | false => rw [sd_no h]; omega
  | true => obtain ⟨m, h1, h2, _⟩ := side_half h; rw [sd_yes h, h1]; omega
theorem sd_le (k : Int) : sd k ≤ 65536 := by
  cases h : rgt k with
  | false => rw [sd_no h]; omega
  | true => obtain ⟨m, h1, _, h2⟩ := side_half h; rw [sd_yes h, h1]; omega
theorem side_bd (k : Int) : 0 ≤ side k ∧ side k ≤ 65536 := by
  cases h : rgt k with
  | false => rw [side_no h]; omega
  | true => obtain ⟨m, h1, _, h2⟩ := side_half h; rw [h1]; omega
theorem side_max (k : Int) : max (side k) 1 = sd k := by
  cases h : rgt k with
  | false => rw [side_no h, sd_no h]; rfl
  | true => have := sd_pos k; rw [sd_yes h] at this ⊢; omega
/-- Binding by a mask is the remainder. -/
theorem mask_mod (k x : Int) : bits .and .i64 x (sd k - 1) = x % sd k := by
  obtain ⟨n, hn, hs⟩ : ∃ n : Nat, n ≤ 16 ∧ sd k = ((2 ^ n : Nat) : Int) := by
    cases h : rgt k with
    | false => exact ⟨0, by omega, sd_no h⟩
    | true =>
      obtain ⟨n, _, hn, hs⟩ := side_nat h
      exact ⟨n + 1, by omega, by rw [sd_yes h, hs]⟩
  have hp := Nat.two_pow_pos n
  have hq : 2 ^ n ≤ 65536 := Nat.pow_le_pow_right (n := 2) (by omega) hn
  have hdv : (2 ^ n : Nat) ∣ 18446744073709551616 := Nat.pow_dvd_pow 2 (show n ≤ 64 by omega)
  have e1 : sd k - 1 = ((2 ^ n - 1 : Nat) : Int) := by rw [hs]; omega
  show IntKind.i64.wrap ((BitVec.ofInt 64 x &&& BitVec.ofInt 64 (sd k - 1)).toNat : Int) = _
  have e2 : (BitVec.ofInt 64 (sd k - 1)).toNat = 2 ^ n - 1 := by
    rw [e1, BitVec.toNat_ofInt]
    generalize 2 ^ n = y at hq hp
    omega
  have e3 : (BitVec.ofInt 64 x).toNat % 2 ^ n = (x % ((2 ^ n : Nat) : Int)).toNat := by
    rw [BitVec.toNat_ofInt]
    obtain ⟨c, hc⟩ := hdv
    have h1 : x % (2 ^ 64 : Nat) % ((2 ^ n : Nat) : Int) = x % ((2 ^ n : Nat) : Int) :=
      Int.emod_emod_of_dvd x (Int.natCast_dvd_natCast.2 ⟨c, hc⟩)
    have h2 : 0 ≤ x % (2 ^ 64 : Nat) := Int.emod_nonneg _ (by decide)
    generalize x % ((2 ^ 64 : Nat) : Int) = y at h1 h2 ⊢
    rw [← h1]
    obtain ⟨m, rfl⟩ := Int.eq_ofNat_of_zero_le h2
    rw [Int.toNat_natCast, ← Int.natCast_emod, Int.toNat_natCast]
  have e4 : 0 ≤ x % ((2 ^ n : Nat) : Int) := Int.emod_nonneg _ (by omega)
  have e5 : x % ((2 ^ n : Nat) : Int) < ((2 ^ n : Nat) : Int) := Int.emod_lt_of_pos _ (by omega)
  rw [BitVec.toNat_and, e2, Nat.and_two_pow_sub_one_eq_mod, e3, IntKind.wrap_i64, hs]
  generalize x % ((2 ^ n : Nat) : Int) = y at e4 e5 ⊢
  generalize 2 ^ n = z at e5 hq
  omega
end Go.Proofs.YtimmnmidhjbanaaDoor
namespace Go.Proofs.YtimmnmidhjbanaaDoor
open Go.RowKit
theorem ret_int {k : IntKind} {a b : Int} (h : a = b) : Ending.returned (.int k a) = .returned (.int k b) := by rw [h]
theorem ret_bool {a b : Bool} (h : a = b) : Ending.returned (.bool a) = .returned (.bool b) := by rw [h]
theorem right_any (k : Int) (w : World) : Calls Tryd.prog 96 #[.int .i64 k] w fun e w' => e = .returned (.bool (rgt k)) ∧ w = w' := by
  cases h : rgt k with
  | true =>
    obtain ⟨h1, h2⟩ := (rgt_iff k).1 h
    clear h
    go_enter Tryd.func96, Tryd.ntmps96
    go_wp2
    go_ret
    exact ⟨rfl, rfl⟩
  | false =>
    have h3 : ¬ (1 ≤ k ∧ k ≤ 16) := fun e => by rw [(rgt_iff k).2 e] at h; cases h
    by_cases h1 : 1 ≤ k
    · have h2 : ¬ k ≤ 16 := fun e => h3 ⟨h1, e⟩
      clear h h3
      go_enter Tryd.func96, Tryd.ntmps96
      go_wp2
      go_ret
      exact ⟨rfl, rfl⟩
    · clear h h3
      go_enter Tryd.func96, Tryd.ntmps96
      go_wp2
      go_ret
      exact ⟨rfl, rfl⟩
theorem side_wrap {k : Int} (h : rgt k = true) : wrap64 (2 ^ k.toNat) = side k := by
  have := side_bd k
  rw [side_yes h] at this ⊢
  exact IntWalk.wrap64_in _ ⟨by omega, by omega⟩
theorem side_any (k : Int) (w : World) : Calls Tryd.prog 105 #[.agg #[.int .i64 k]] w fun e w' => e = .returned (.int .i64 (side k)) ∧ Below w.heap.size w w' := by
  cases h : rgt k with
  | true =>
    have e := Lib.hid (side_wrap h)
    obtain ⟨h1, h2⟩ := (rgt_iff k).1 h
    go_enter Tryd.func105, Tryd.ntmps105
    go_wp2_with (go_at_call 96; (with_reducible refine (right_any _ _).mono ?_); rintro e w' ⟨rfl, rfl⟩)
    go_ret
    exact ⟨ret_int e.out, (Below.refl _ _).alloc (Nat.le_refl _) _⟩
  | false =>
    rw [side_no h]
    go_enter Tryd.func105, Tryd.ntmps105
    go_wp2_with (go_at_call 96; (with_reducible refine (right_any _ _).mono ?_); rintro e w' ⟨rfl, rfl⟩)
    go_ret
    exact ⟨rfl, (Below.refl _ _).alloc (Nat.le_refl _) _⟩
theorem mask_any (k : Int) (w : World) : Calls Tryd.prog 101 #[.agg #[.int .i64 k]] w fun e w' => e = .returned (.int .i64 (sd k - 1)) ∧ Below w.heap.size w w' := by
  have hm := Lib.hid (side_max k)
  have h1 := sd_pos k
  have h2 := sd_le k
  have h3 := side_bd k
  go_enter Tryd.func101, Tryd.ntmps101
  go_wp2_with (go_at_call 105; (with_reducible refine (side_any _ _).mono ?_); rintro e w1 ⟨rfl, hb⟩)
  all_goals
    go_ret
    exact ⟨ret_int (by have := hm.out; omega), ((Below.refl _ _).alloc (Nat.le_refl _) _).trans (hb.mono (by simp))⟩
/-- Is a number one of the side's? -/
def inB (k n : Int) : Bool := decide (0 ≤ n ∧ n < side k)
theorem inB_iff (k n : Int) : inB k n = true ↔ 0 ≤ n ∧ n < side k := by unfold inB; exact decide_eq_true_iff
end Go.Proofs.YtimmnmidhjbanaaDoor
