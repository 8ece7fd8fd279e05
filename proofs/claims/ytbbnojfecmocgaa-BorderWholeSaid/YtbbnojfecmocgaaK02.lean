/- Paths in numbers: which may be, their first halves, their halves one by one; nothing of the program. -/
import Derived.Test.YtbbnojfecmocgaaK01
namespace Go.Proofs.Ytbbnojfecmocgaa
open Go.RowKit
/-- May the path be, of k? -/
def okP (k d b : Int) : Bool := decide (1 ≤ k ∧ k ≤ 16 ∧ 0 ≤ d ∧ d ≤ 2 * k ∧ 0 ≤ b ∧ b < 2 ^ d.toNat)
theorem okP_iff (k d b : Int) : okP k d b = true ↔ 1 ≤ k ∧ k ≤ 16 ∧ 0 ≤ d ∧ d ≤ 2 * k ∧ 0 ≤ b ∧ b < 2 ^ d.toNat := by unfold okP; exact decide_eq_true_iff
theorem okP_no {k d b : Int} (h : ¬ (1 ≤ k ∧ k ≤ 16 ∧ 0 ≤ d ∧ d ≤ 2 * k ∧ 0 ≤ b ∧ b < 2 ^ d.toNat)) : okP k d b = false := Bool.eq_false_iff.2 fun e => h ((okP_iff k d b).1 e)
/-- May it be at all? -/
def fine (d b : Int) : Bool := okP 16 d b
theorem fine_iff (d b : Int) : fine d b = true ↔ 0 ≤ d ∧ d ≤ 32 ∧ 0 ≤ b ∧ b < 2 ^ d.toNat := by
  unfold fine
  rw [okP_iff]
  constructor
  · rintro ⟨_, _, h1, h2, h3, h4⟩; exact ⟨h1, by omega, h3, h4⟩
  · rintro ⟨h1, h2, h3, h4⟩; exact ⟨by omega, by omega, h1, by omega, h3, h4⟩
theorem okP_fine {k d b : Int} (h : okP k d b = true) : fine d b = true := by
  obtain ⟨h1, h2, h3, h4, h5, h6⟩ := (okP_iff k d b).1 h
  exact (fine_iff d b).2 ⟨h3, by omega, h5, h6⟩
theorem p2_pos (n : Nat) : (0 : Int) < 2 ^ n := by rw [pow_cast]; exact Int.natCast_pos.2 (Nat.two_pow_pos n)
theorem p2_le {n m : Nat} (h : n ≤ m) : (2 : Int) ^ n ≤ 2 ^ m := by rw [pow_cast, pow_cast]; exact Int.ofNat_le.2 (Nat.pow_le_pow_right (by omega) h)
theorem p2_add (n m : Nat) : (2 : Int) ^ (n + m) = 2 ^ n * 2 ^ m := Int.pow_add 2 n m
theorem p2_32 {n : Nat} (h : n ≤ 32) : (2 : Int) ^ n ≤ 4294967296 := p2_le h
theorem p2_wrap {d : Int} (h : d ≤ 32) : wrap64 (2 ^ d.toNat) = 2 ^ d.toNat := by
  have h1 := p2_32 (n := d.toNat) (by omega)
  have h2 := p2_pos d.toNat
  exact IntWalk.wrap64_in _ ⟨by omega, by omega⟩
theorem fine_bd {d b : Int} (h : fine d b = true) : 0 ≤ b ∧ b < 4294967296 := by
  obtain ⟨h1, h2, h3, h4⟩ := (fine_iff d b).1 h
  have := p2_32 (n := d.toNat) (by omega)
  omega
/-- The first m halves, as one number. -/
def pv (d b m : Int) : Int := b / 2 ^ (d - m).toNat
/-- The half i; -1 of none. -/
def bitI (d b i : Int) : Int := if fine d b = true ∧ 0 ≤ i ∧ i < d then pv d b (i + 1) % 2 else -1
theorem bitI_yes {d b i : Int} (h : fine d b = true) (h1 : 0 ≤ i) (h2 : i < d) : bitI d b i = pv d b (i + 1) % 2 := if_pos ⟨h, h1, h2⟩
theorem bitI_no {d b i : Int} (h : ¬ (fine d b = true ∧ 0 ≤ i ∧ i < d)) : bitI d b i = -1 := if_neg h
theorem bitI_bd (d b i : Int) : -1 ≤ bitI d b i ∧ bitI d b i ≤ 1 := by
  unfold bitI
  split <;> omega
theorem pv_bd {d b m : Int} (h : fine d b = true) : 0 ≤ pv d b m ∧ pv d b m ≤ b := by
  have h1 := fine_bd h
  have h2 := p2_pos (d - m).toNat
  unfold pv
  exact ⟨Int.ediv_nonneg h1.1 (by omega), Int.ediv_le_self _ h1.1⟩
theorem pv_all (d b : Int) : pv d b d = b := by unfold pv; rw [show d - d = 0 by omega]; exact Int.ediv_one b
theorem pv_zero {d b : Int} (h : fine d b = true) : pv d b 0 = 0 := by
  obtain ⟨h1, h2, h3, h4⟩ := (fine_iff d b).1 h
  unfold pv
  rw [show d - 0 = d by omega]
  exact Int.ediv_eq_zero_of_lt h3 h4
theorem pv_half {d b m : Int} (h : m < d) : pv d b m = pv d b (m + 1) / 2 := by
  unfold pv
  rw [show (d - m).toNat = (d - (m + 1)).toNat + 1 by omega, p2_add, Int.ediv_ediv_of_nonneg (Int.le_of_lt (p2_pos _))]
  rfl
/-- A half more. -/
theorem pv_succ {d b m : Int} (h : fine d b = true) (h0 : 0 ≤ m) (h1 : m < d) : pv d b (m + 1) = 2 * pv d b m + bitI d b m := by
  rw [bitI_yes h h0 h1, pv_half h1]
  omega
theorem pv_lt {d b : Int} (h : fine d b = true) : ∀ m : Nat, (m : Int) ≤ d → pv d b m < 2 ^ m
  | 0, _ => by rw [show ((0 : Nat) : Int) = 0 from rfl, pv_zero h]; decide
  | m + 1, hm => by
    have h1 := pv_lt h m (by omega)
    have h2 := bitI_bd d b m
    rw [show ((m + 1 : Nat) : Int) = (m : Int) + 1 by omega, pv_succ h (by omega) (by omega), p2_add]
    omega
theorem pv_fine {d b m : Int} (h : fine d b = true) (h0 : 0 ≤ m) (h1 : m ≤ d) : fine m (pv d b m) = true := by
  obtain ⟨g1, g2, g3, g4⟩ := (fine_iff d b).1 h
  have h2 := pv_lt h m.toNat (by omega)
  rw [show ((m.toNat : Nat) : Int) = m by omega] at h2
  exact (fine_iff _ _).2 ⟨h0, by omega, (pv_bd h).1, h2⟩
/-- The first halves of the first halves. -/
theorem pv_pv {d b m j : Int} (h0 : j ≤ m) (h1 : m ≤ d) : pv m (pv d b m) j = pv d b j := by
  unfold pv
  rw [Int.ediv_ediv_of_nonneg (Int.le_of_lt (p2_pos _)), ← p2_add, show (d - m).toNat + (m - j).toNat = (d - j).toNat by omega]
theorem bitI_pv {d b m j : Int} (h : fine d b = true) (h0 : 0 ≤ j) (h1 : j < m) (h2 : m ≤ d) : bitI m (pv d b m) j = bitI d b j := by
  rw [bitI_yes (pv_fine h (by omega) h2) h0 h1, bitI_yes h h0 (by omega), pv_pv (by omega) h2]
/-- Whose halves agree have the same first ones. -/
theorem pv_same {d b e c : Int} (h : fine d b = true) (g : fine e c = true) : ∀ m : Nat, (m : Int) ≤ d → (m : Int) ≤ e → (∀ j : Nat, j < m → bitI d b j = bitI e c j) → pv d b m = pv e c m
  | 0, _, _, _ => by rw [show ((0 : Nat) : Int) = 0 from rfl, pv_zero h, pv_zero g]
  | m + 1, h1, h2, h3 => by
    have h4 := pv_same h g m (by omega) (by omega) (fun j hj => h3 j (by omega))
    rw [show ((m + 1 : Nat) : Int) = (m : Int) + 1 by omega, pv_succ h (by omega) (by omega), pv_succ g (by omega) (by omega), h4, h3 m (by omega)]
theorem bit_same {d b e c m : Int} (h : fine d b = true) (g : fine e c = true) (h1 : m ≤ d) (h2 : m ≤ e) (hp : pv d b m = pv e c m) (j : Int) (hj0 : 0 ≤ j) (hj : j < m) : bitI d b j = bitI e c j := by
  rw [← bitI_pv h hj0 hj h1, ← bitI_pv g hj0 hj h2, hp]
end Go.Proofs.Ytbbnojfecmocgaa
