/- The torus in numbers: sides, what a number wraps to, distances; nothing of the program. Paths in numbers: which may be, their first halves, their halves one by one; nothing of the program. torus.right, mayStep, Side, mask, within, up: each answers its number; it may make memory. -/
import Derived.Outline
import Derived.WalkSpells
import Derived.Test.YthfhpejpjiaikaaGreatRows
import Derived.WalkKit
import Derived.Lib.Hide
import Derived.Laws.BitsAllLaws
namespace Go.Proofs.YthfhpejpjiaikaaGreat
open Go.RowKit
/-- May a torus of k be? -/
def rgt (k : Int) : Bool := decide (1 ≤ k ∧ k ≤ 16)
/-- Its side; 0 of none. -/
def side (k : Int) : Int := if rgt k then 2 ^ k.toNat else 0
/-- The side, and 1 of none. -/
def sd (k : Int) : Int := if rgt k then 2 ^ k.toNat else 1
theorem rgt_iff (k : Int) : rgt k = true ↔ 1 ≤ k ∧ k ≤ 16 := by unfold rgt; exact decide_eq_true_iff
theorem side_no {k : Int} (h : rgt k = false) : side k = 0 := by unfold side; rw [h]; rfl
theorem sd_no {k : Int} (h : rgt k = false) : sd k = 1 := by unfold sd; rw [h]; rfl
theorem side_yes {k : Int} (h : rgt k = true) : side k = 2 ^ k.toNat := by unfold side; rw [if_pos h]
theorem sd_yes {k : Int} (h : rgt k = true) : sd k = side k := by unfold sd side; rw [if_pos h, if_pos h]
theorem pow_cast (n : Nat) : (2 : Int) ^ n = ((2 ^ n : Nat) : Int) := by rw [Int.natCast_pow]; rfl
theorem side_nat {k : Int} (h : rgt k = true) : ∃ n : Nat, k = ((n + 1 : Nat) : Int) ∧ n ≤ 15 ∧ side k = ((2 ^ (n + 1) : Nat) : Int) := by
  obtain ⟨h1, h2⟩ := (rgt_iff k).1 h
  refine ⟨k.toNat - 1, by omega, by omega, ?_⟩
  rw [side_yes h, pow_cast, show k.toNat - 1 + 1 = k.toNat by omega]
/-- A side is twice a number from 1 to 32768. -/
theorem side_half {k : Int} (h : rgt k = true) : ∃ m : Nat, side k = 2 * (m : Int) ∧ 1 ≤ m ∧ m ≤ 32768 := by
  obtain ⟨n, _, hn, hs⟩ := side_nat h
  refine ⟨2 ^ n, ?_, Nat.two_pow_pos n, Nat.pow_le_pow_right (n := 2) (by omega) hn⟩
  rw [hs, Nat.pow_succ]
  omega
theorem sd_pos (k : Int) : 0 < sd k := by
  cases h : rgt k with
  | false => rw [sd_no h]; omega
  | true => obtain ⟨m, h1, h2, _⟩ := side_half h; rw [sd_yes h, h1]; omega
theorem sd_le (k : Int) : sd k ≤ 65536 := by
  cases h : rgt k with
  | false => rw [sd_no h]; omega
  | true => obtain ⟨m, h1, _, h2⟩ := side_half h; rw [sd_yes h, h1]; omega
theorem side_bd (k : Int) : 0 ≤ side k ∧ side k ≤ 65536 := by
  cases h : rgt k with
  | false => rw [side_no h]; omega
  | true => obtain ⟨m, h1, _, h2⟩ := side_half h; rw [h1]; omega
theorem side_max (k : Int) : max (side k) 1 = sd k := by
  cases h : rgt k with
  | false => rw [side_no h, sd_no h]; rfl
  | true => have := sd_pos k; rw [sd_yes h] at this ⊢; omega
/-- Binding by a mask is the remainder. -/
theorem mask_mod (k x : Int) : bits .and .i64 x (sd k - 1) = x % sd k := by
  obtain ⟨n, hn, hs⟩ : ∃ n : Nat, n ≤ 16 ∧ sd k = ((2 ^ n : Nat) : Int) := by
    cases h : rgt k with
    | false => exact ⟨0, by omega, sd_no h⟩
    | true =>
      obtain ⟨n, _, hn, hs⟩ := side_nat h
      exact ⟨n + 1, by omega, by rw [sd_yes h, hs]⟩
  have hp := Nat.two_pow_pos n
  have hq : 2 ^ n ≤ 65536 := Nat.pow_le_pow_right (n := 2) (by omega) hn
  have hdv : (2 ^ n : Nat) ∣ 18446744073709551616 := Nat.pow_dvd_pow 2 (show n ≤ 64 by omega)
  have e1 : sd k - 1 = ((2 ^ n - 1 : Nat) : Int) := by rw [hs]; omega
  show IntKind.i64.wrap ((BitVec.ofInt 64 x &&& BitVec.ofInt 64 (sd k - 1)).toNat : Int) = _
  have e2 : (BitVec.ofInt 64 (sd k - 1)).toNat = 2 ^ n - 1 := by
    rw [e1, BitVec.toNat_ofInt]
    generalize 2 ^ n = y at hq hp
    omega
  have e3 : (BitVec.ofInt 64 x).toNat % 2 ^ n = (x % ((2 ^ n : Nat) : Int)).toNat := by
    rw [BitVec.toNat_ofInt]
    obtain ⟨c, hc⟩ := hdv
    have h1 : x % (2 ^ 64 : Nat) % ((2 ^ n : Nat) : Int) = x % ((2 ^ n : Nat) : Int) :=
      Int.emod_emod_of_dvd x (Int.natCast_dvd_natCast.2 ⟨c, hc⟩)
    have h2 : 0 ≤ x % (2 ^ 64 : Nat) := Int.emod_nonneg _ (by decide)
    generalize x % ((2 ^ 64 : Nat) : Int) = y at h1 h2 ⊢
    rw [← h1]
    obtain ⟨m, rfl⟩ := Int.eq_ofNat_of_zero_le h2
    rw [Int.toNat_natCast, ← Int.natCast_emod, Int.toNat_natCast]
  have e4 : 0 ≤ x % ((2 ^ n : Nat) : Int) := Int.emod_nonneg _ (by omega)
  have e5 : x % ((2 ^ n : Nat) : Int) < ((2 ^ n : Nat) : Int) := Int.emod_lt_of_pos _ (by omega)
  rw [BitVec.toNat_and, e2, Nat.and_two_pow_sub_one_eq_mod, e3, IntKind.wrap_i64, hs]
  generalize x % ((2 ^ n : Nat) : Int) = y at e4 e5 ⊢
  generalize 2 ^ n = z at e5 hq
  omega
end Go.Proofs.YthfhpejpjiaikaaGreat
namespace Go.Proofs.YthfhpejpjiaikaaGreat
open Go.RowKit
/-- May the path be, of k? -/
def okP (k d b : Int) : Bool := decide (1 ≤ k ∧ k ≤ 16 ∧ 0 ≤ d ∧ d ≤ 2 * k ∧ 0 ≤ b ∧ b < 2 ^ d.toNat)
theorem okP_iff (k d b : Int) : okP k d b = true ↔ 1 ≤ k ∧ k ≤ 16 ∧ 0 ≤ d ∧ d ≤ 2 * k ∧ 0 ≤ b ∧ b < 2 ^ d.toNat := by unfold okP; exact decide_eq_true_iff
theorem okP_no {k d b : Int} (h : ¬ (1 ≤ k ∧ k ≤ 16 ∧ 0 ≤ d ∧ d ≤ 2 * k ∧ 0 ≤ b ∧ b < 2 ^ d.toNat)) : okP k d b = false := Bool.eq_false_iff.2 fun e => h ((okP_iff k d b).1 e)
/-- May it be at all? -/
def fine (d b : Int) : Bool := okP 16 d b
theorem fine_iff (d b : Int) : fine d b = true ↔ 0 ≤ d ∧ d ≤ 32 ∧ 0 ≤ b ∧ b < 2 ^ d.toNat := by
  unfold fine
  rw [okP_iff]
  constructor
  · rintro ⟨_, _, h1, h2, h3, h4⟩; exact ⟨h1, by omega, h3, h4⟩
  · rintro ⟨h1, h2, h3, h4⟩; exact ⟨by omega, by omega, h1, by omega, h3, h4⟩
theorem okP_fine {k d b : Int} (h : okP k d b = true) : fine d b = true := by
  obtain ⟨h1, h2, h3, h4, h5, h6⟩ := (okP_iff k d b).1 h
  exact (fine_iff d b).2 ⟨h3, by omega, h5, h6⟩
theorem p2_pos (n : Nat) : (0 : Int) < 2 ^ n := by rw [pow_cast]; exact Int.natCast_pos.2 (Nat.two_pow_pos n)
theorem p2_le {n m : Nat} (h : n ≤ m) : (2 : Int) ^ n ≤ 2 ^ m := by rw [pow_cast, pow_cast]; exact Int.ofNat_le.2 (Nat.pow_le_pow_right (by omega) h)
theorem p2_add (n m : Nat) : (2 : Int) ^ (n + m) = 2 ^ n * 2 ^ m := Int.pow_add 2 n m
theorem p2_32 {n : Nat} (h : n ≤ 32) : (2 : Int) ^ n ≤ 4294967296 := p2_le h
theorem p2_wrap {d : Int} (h : d ≤ 32) : wrap64 (2 ^ d.toNat) = 2 ^ d.toNat := by
  have h1 := p2_32 (n := d.toNat) (by omega)
  have h2 := p2_pos d.toNat
  exact IntWalk.wrap64_in _ ⟨by omega, by omega⟩
theorem fine_bd {d b : Int} (h : fine d b = true) : 0 ≤ b ∧ b < 4294967296 := by
  obtain ⟨h1, h2, h3, h4⟩ := (fine_iff d b).1 h
  have := p2_32 (n := d.toNat) (by omega)
  omega
/-- The first m halves, as one number. -/
def pv (d b m : Int) : Int := b / 2 ^ (d - m).toNat
/-- The half i; -1 of none. -/
def bitI (d b i : Int) : Int := if fine d b = true ∧ 0 ≤ i ∧ i < d then pv d b (i + 1) % 2 else -1
theorem bitI_yes {d b i : Int} (h : fine d b = true) (h1 : 0 ≤ i) (h2 : i < d) : bitI d b i = pv d b (i + 1) % 2 := if_pos ⟨h, h1, h2⟩
theorem bitI_no {d b i : Int} (h : ¬ (fine d b = true ∧ 0 ≤ i ∧ i < d)) : bitI d b i = -1 := if_neg h
theorem bitI_bd (d b i : Int) : -1 ≤ bitI d b i ∧ bitI d b i ≤ 1 := by
  unfold bitI
  split <;> omega
theorem pv_bd {d b m : Int} (h : fine d b = true) : 0 ≤ pv d b m ∧ pv d b m ≤ b := by
  have h1 := fine_bd h
  have h2 := p2_pos (d - m).toNat
  unfold pv
  exact ⟨Int.ediv_nonneg h1.1 (by omega), Int.ediv_le_self _ h1.1⟩
theorem pv_all (d b : Int) : pv d b d = b := by unfold pv; rw [show d - d = 0 by omega]; exact Int.ediv_one b
theorem pv_zero {d b : Int} (h : fine d b = true) : pv d b 0 = 0 := by
  obtain ⟨h1, h2, h3, h4⟩ := (fine_iff d b).1 h
  unfold pv
  rw [show d - 0 = d by omega]
  exact Int.ediv_eq_zero_of_lt h3 h4
theorem pv_half {d b m : Int} (h : m < d) : pv d b m = pv d b (m + 1) / 2 := by
  unfold pv
  rw [show (d - m).toNat = (d - (m + 1)).toNat + 1 by omega, p2_add, Int.ediv_ediv_of_nonneg (Int.le_of_lt (p2_pos _))]
  rfl
/-- A half more. -/
theorem pv_succ {d b m : Int} (h : fine d b = true) (h0 : 0 ≤ m) (h1 : m < d) : pv d b (m + 1) = 2 * pv d b m + bitI d b m := by
  rw [bitI_yes h h0 h1, pv_half h1]
  omega
theorem pv_lt {d b : Int} (h : fine d b = true) : ∀ m : Nat, (m : Int) ≤ d → pv d b m < 2 ^ m
  | 0, _ => by rw [show ((0 : Nat) : Int) = 0 from rfl, pv_zero h]; decide
  | m + 1, hm => by
    have h1 := pv_lt h m (by omega)
    have h2 := bitI_bd d b m
    rw [show ((m + 1 : Nat) : Int) = (m : Int) + 1 by omega, pv_succ h (by omega) (by omega), p2_add]
    omega
theorem pv_fine {d b m : Int} (h : fine d b = true) (h0 : 0 ≤ m) (h1 : m ≤ d) : fine m (pv d b m) = true := by
  obtain ⟨g1, g2, g3, g4⟩ := (fine_iff d b).1 h
  have h2 := pv_lt h m.toNat (by omega)
  rw [show ((m.toNat : Nat) : Int) = m by omega] at h2
  exact (fine_iff _ _).2 ⟨h0, by omega, (pv_bd h).1, h2⟩
/-- The first halves of the first halves. -/
theorem pv_pv {d b m j : Int} (h0 : j ≤ m) (h1 : m ≤ d) : pv m (pv d b m) j = pv d b j := by
  unfold pv
  rw [Int.ediv_ediv_of_nonneg (Int.le_of_lt (p2_pos _)), ← p2_add, show (d - m).toNat + (m - j).toNat = (d - j).toNat by omega]
theorem bitI_pv {d b m j : Int} (h : fine d b = true) (h0 : 0 ≤ j) (h1 : j < m) (h2 : m ≤ d) : bitI m (pv d b m) j = bitI d b j := by
  rw [bitI_yes (pv_fine h (by omega) h2) h0 h1, bitI_yes h h0 (by omega), pv_pv (by omega) h2]
end Go.Proofs.YthfhpejpjiaikaaGreat
namespace Go.Proofs.YthfhpejpjiaikaaGreat
open Go.RowKit
theorem ret_int {k : IntKind} {a b : Int} (h : a = b) : Ending.returned (.int k a) = .returned (.int k b) := by rw [h]
theorem ret_bool {a b : Bool} (h : a = b) : Ending.returned (.bool a) = .returned (.bool b) := by rw [h]
theorem right_any (k : Int) (w : World) : Calls Tryz.prog 96 #[.int .i64 k] w fun e w' => e = .returned (.bool (rgt k)) ∧ w = w' := by
  cases h : rgt k with
  | true =>
    obtain ⟨h1, h2⟩ := (rgt_iff k).1 h
    clear h
    go_enter Tryz.func96, Tryz.ntmps96
    go_wp2
    go_ret
    exact ⟨rfl, rfl⟩
  | false =>
    have h3 : ¬ (1 ≤ k ∧ k ≤ 16) := fun e => by rw [(rgt_iff k).2 e] at h; cases h
    by_cases h1 : 1 ≤ k
    · have h2 : ¬ k ≤ 16 := fun e => h3 ⟨h1, e⟩
      clear h h3
      go_enter Tryz.func96, Tryz.ntmps96
      go_wp2
      go_ret
      exact ⟨rfl, rfl⟩
    · clear h h3
      go_enter Tryz.func96, Tryz.ntmps96
      go_wp2
      go_ret
      exact ⟨rfl, rfl⟩
theorem side_wrap {k : Int} (h : rgt k = true) : wrap64 (2 ^ k.toNat) = side k := by
  have := side_bd k
  rw [side_yes h] at this ⊢
  exact IntWalk.wrap64_in _ ⟨by omega, by omega⟩
theorem side_any (k : Int) (w : World) : Calls Tryz.prog 68 #[.agg #[.int .i64 k]] w fun e w' => e = .returned (.int .i64 (side k)) ∧ Below w.heap.size w w' := by
  cases h : rgt k with
  | true =>
    have e := Lib.hid (side_wrap h)
    obtain ⟨h1, h2⟩ := (rgt_iff k).1 h
    go_enter Tryz.func68, Tryz.ntmps68
    go_wp2_with (go_at_call 96; (with_reducible refine (right_any _ _).mono ?_); rintro e w' ⟨rfl, rfl⟩)
    go_ret
    exact ⟨ret_int e.out, (Below.refl _ _).alloc (Nat.le_refl _) _⟩
  | false =>
    rw [side_no h]
    go_enter Tryz.func68, Tryz.ntmps68
    go_wp2_with (go_at_call 96; (with_reducible refine (right_any _ _).mono ?_); rintro e w' ⟨rfl, rfl⟩)
    go_ret
    exact ⟨rfl, (Below.refl _ _).alloc (Nat.le_refl _) _⟩
theorem mask_any (k : Int) (w : World) : Calls Tryz.prog 123 #[.agg #[.int .i64 k]] w fun e w' => e = .returned (.int .i64 (sd k - 1)) ∧ Below w.heap.size w w' := by
  have hm := Lib.hid (side_max k)
  have h1 := sd_pos k
  have h2 := sd_le k
  have h3 := side_bd k
  go_enter Tryz.func123, Tryz.ntmps123
  go_wp2_with (go_at_call 68; (with_reducible refine (side_any _ _).mono ?_); rintro e w1 ⟨rfl, hb⟩)
  all_goals
    go_ret
    exact ⟨ret_int (by have := hm.out; omega), ((Below.refl _ _).alloc (Nat.le_refl _) _).trans (hb.mono (by simp))⟩
/-- Is a number one of the side's? -/
def inB (k n : Int) : Bool := decide (0 ≤ n ∧ n < side k)
theorem inB_iff (k n : Int) : inB k n = true ↔ 0 ≤ n ∧ n < side k := by unfold inB; exact decide_eq_true_iff
end Go.Proofs.YthfhpejpjiaikaaGreat
