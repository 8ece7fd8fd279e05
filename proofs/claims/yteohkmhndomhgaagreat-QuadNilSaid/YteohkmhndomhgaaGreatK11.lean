/- What the laws of the paths share: num, knows, Some. The laws' Some: a path of any numbers that may be. Families of paths, in numbers; contracts with their values named. The order of paths, in numbers. A path's text, there and back. The zone of a path, in numbers: which cells it has, when two zones have a cell together. -/
import Derived.Test.YteohkmhndomhgaaGreatK02
import Derived.Test.YteohkmhndomhgaaGreatK09
import Derived.Test.YteohkmhndomhgaaGreatK10
namespace Go.Proofs.YteohkmhndomhgaaGreat
open Go.RowKit
end Go.Proofs.YteohkmhndomhgaaGreat
namespace Go.Proofs.YteohkmhndomhgaaGreat
open Go.RowKit
end Go.Proofs.YteohkmhndomhgaaGreat
namespace Go.Proofs.YteohkmhndomhgaaGreat
open Go.RowKit
section
variable {d b e c : Int}
end
end Go.Proofs.YteohkmhndomhgaaGreat
namespace Go.Proofs.YteohkmhndomhgaaGreat
open Go.RowKit
section
variable {d b e c f a : Int}
end
end Go.Proofs.YteohkmhndomhgaaGreat
namespace Go.Proofs.YteohkmhndomhgaaGreat
open Go.RowKit
end Go.Proofs.YteohkmhndomhgaaGreat
namespace Go.Proofs.YteohkmhndomhgaaGreat
open Go.RowKit
/-- How many of the first m halves part by X, by Y. -/
def hx (m : Nat) : Nat := (m + 1) / 2
def hy (m : Nat) : Nat := m / 2
/-- The halves by X among the first m, as one number; those by Y. -/
def xs (d b : Int) : Nat → Int
  | 0 => 0
  | m + 1 => if m % 2 = 0 then 2 * xs d b m + bitI d b m else xs d b m
def ys (d b : Int) : Nat → Int
  | 0 => 0
  | m + 1 => if m % 2 = 0 then ys d b m else 2 * ys d b m + bitI d b m
theorem xs_e {d b : Int} {m : Nat} (h : m % 2 = 0) : xs d b (m + 1) = 2 * xs d b m + bitI d b m ∧ ys d b (m + 1) = ys d b m := ⟨if_pos h, if_pos h⟩
theorem xs_o {d b : Int} {m : Nat} (h : ¬ m % 2 = 0) : xs d b (m + 1) = xs d b m ∧ ys d b (m + 1) = 2 * ys d b m + bitI d b m := ⟨if_neg h, if_neg h⟩
theorem hx_even {m : Nat} (h : m % 2 = 0) : hx (m + 1) = hx m + 1 ∧ hy (m + 1) = hy m := by unfold hx hy; omega
theorem hx_odd {m : Nat} (h : ¬ m % 2 = 0) : hx (m + 1) = hx m ∧ hy (m + 1) = hy m + 1 := by unfold hx hy; omega
theorem p2_succ (n : Nat) : (2 : Int) ^ (n + 1) = 2 * 2 ^ n := by rw [p2_add]; omega
theorem bit01 {d b i : Int} (hf : fine d b = true) (h0 : 0 ≤ i) (h1 : i < d) : 0 ≤ bitI d b i ∧ bitI d b i ≤ 1 := by
  rw [bitI_yes hf h0 h1]; omega
theorem xs_bd {d b : Int} (hf : fine d b = true) : ∀ m : Nat, (m : Int) ≤ d → 0 ≤ xs d b m ∧ xs d b m < 2 ^ hx m ∧ 0 ≤ ys d b m ∧ ys d b m < 2 ^ hy m
  | 0, _ => by unfold xs ys hx hy; decide
  | m + 1, hm => by
    have h := xs_bd hf m (by omega)
    have hb := bit01 (i := m) hf (by omega) (by omega)
    unfold xs ys
    by_cases he : m % 2 = 0
    · rw [if_pos he, if_pos he, (hx_even he).1, (hx_even he).2, p2_succ]
      omega
    · rw [if_neg he, if_neg he, (hx_odd he).1, (hx_odd he).2, p2_succ]
      omega
theorem tdiv_two (n : Nat) : ((2 : Int) ^ (n + 1)).tdiv 2 = 2 ^ n := by
  rw [p2_succ, Int.tdiv_eq_ediv_of_nonneg (by have := p2_pos n; omega)]
  omega
theorem p2_16 {n : Nat} (h : n ≤ 16) : (2 : Int) ^ n ≤ 65536 := p2_le h
/-- A row of cells: so many to each. -/
theorem part_bd {z : Int} {a e n : Nat} (h0 : 0 ≤ z) (h1 : z < 2 ^ a) (hn : a + e = n) : 0 ≤ z * 2 ^ e ∧ z * 2 ^ e + 2 ^ e ≤ 2 ^ n := by
  have he := p2_pos e
  refine ⟨Int.mul_nonneg h0 (by omega), ?_⟩
  have h2 : (z + 1) * 2 ^ e ≤ 2 ^ a * 2 ^ e := Int.mul_le_mul_of_nonneg_right (by omega) (by omega)
  rw [← p2_add, hn, Int.add_mul, Int.one_mul] at h2
  exact h2
theorem step_val {z t : Int} {a e n : Nat} (h0 : 0 ≤ z) (h1 : z < 2 ^ a) (hn : a + (e + 1) = n) (hn2 : n ≤ 16) (t0 : 0 ≤ t) (t1 : t ≤ 1) :
    wrap64 (z * 2 ^ (e + 1) + wrap64 (t * wrap64 (((2 : Int) ^ (e + 1)).tdiv 2))) = (2 * z + t) * 2 ^ e ∧ wrap64 (((2 : Int) ^ (e + 1)).tdiv 2) = 2 ^ e := by
  have b1 := part_bd h0 h1 hn
  have b2 := p2_16 hn2
  have b3 := p2_pos e
  have b4 := p2_succ e
  have w1 : wrap64 ((2 : Int) ^ e) = 2 ^ e := IntWalk.wrap64_in _ ⟨by omega, by omega⟩
  have e1 : z * 2 ^ (e + 1) = 2 * (z * 2 ^ e) := by rw [b4, ← Int.mul_assoc, Int.mul_comm z 2, Int.mul_assoc]
  have e2 : (2 * z + t) * 2 ^ e = 2 * (z * 2 ^ e) + t * 2 ^ e := by rw [Int.add_mul, Int.mul_assoc]
  have e3 : 0 ≤ t * 2 ^ e ∧ t * 2 ^ e ≤ 2 ^ e := by
    rcases (show t = 0 ∨ t = 1 by omega) with rfl | rfl
    · rw [Int.zero_mul]; omega
    · rw [Int.one_mul]; omega
  rw [tdiv_two, w1]
  refine ⟨?_, rfl⟩
  rw [IntWalk.wrap64_in (t * 2 ^ e) ⟨by omega, by omega⟩, e1, e2]
  exact IntWalk.wrap64_in _ ⟨by omega, by omega⟩
theorem tmod_even {m : Nat} (h : m % 2 = 0) : (((m : Int).tmod 2 == 0) = true) := by
  rw [Int.tmod_eq_emod_of_nonneg (by omega)]
  exact beq_iff_eq.2 (by omega)
theorem tmod_odd {m : Nat} (h : ¬ m % 2 = 0) : (((m : Int).tmod 2 == 0) = false) := by
  rw [Int.tmod_eq_emod_of_nonneg (by omega)]
  exact beq_eq_false_iff_ne.2 (by omega)
/-- What Corner comes to behind m halves. -/
theorem corF_val {n : Nat} {d b : Int} (hn0 : 1 ≤ n) (hn : n ≤ 16) (hf : fine d b = true) (hd : d ≤ 2 * n) : ∀ m : Nat, (m : Int) ≤ d →
    corF (2 ^ n) (ups d b m) = (xs d b m * 2 ^ (n - hx m), ys d b m * 2 ^ (n - hy m), 2 ^ (n - hx m), 2 ^ (n - hy m))
  | 0, _ => by
    show ((0 : Int), (0 : Int), (2 : Int) ^ n, (2 : Int) ^ n) = _
    unfold xs ys hx hy
    simp
  | m + 1, hm => by
    have ih := corF_val hn0 hn hf hd m (by omega)
    have hb := bit01 (i := m) hf (by omega) (by omega)
    have hz := xs_bd hf m (by omega)
    rw [ups_succ, corF_snoc, ih]
    by_cases he : m % 2 = 0
    · rw [corStep_x (tmod_even he), (xs_e he).1, (xs_e he).2, (hx_even he).2]
      dsimp only
      have hle : hx (m + 1) ≤ n := by unfold hx; omega
      rw [(hx_even he).1] at hle ⊢
      have hsv := step_val (z := xs d b m) (t := bitI d b m) (a := hx m) (e := n - (hx m + 1)) (n := n) hz.1 hz.2.1 (by omega) hn hb.1 hb.2
      rw [show n - (hx m + 1) + 1 = n - hx m by omega] at hsv
      rw [hsv.1, hsv.2]
    · rw [corStep_y (tmod_odd he), (xs_o he).1, (xs_o he).2, (hx_odd he).1]
      dsimp only
      have hle : hy (m + 1) ≤ n := by unfold hy; omega
      rw [(hx_odd he).2] at hle ⊢
      have hsv := step_val (z := ys d b m) (t := bitI d b m) (a := hy m) (e := n - (hy m + 1)) (n := n) hz.2.2.1 hz.2.2.2 (by omega) hn hb.1 hb.2
      rw [show n - (hy m + 1) + 1 = n - hy m by omega] at hsv
      rw [hsv.1, hsv.2]
theorem div_half (x : Int) (e : Nat) : x / 2 ^ e / 2 = x / 2 ^ (e + 1) := by
  rw [p2_add, Int.ediv_ediv_of_nonneg (Int.le_of_lt (p2_pos _))]; rfl
/-- A cell's halves are the path's just if its X and Y are so. -/
theorem at_iff {n : Nat} {d b x y : Int} (hn0 : 1 ≤ n) (hf : fine d b = true) (hd : d ≤ 2 * n) (hx0 : 0 ≤ x ∧ x < 2 ^ n) (hy0 : 0 ≤ y ∧ y < 2 ^ n) : ∀ m : Nat, (m : Int) ≤ d →
    (atV n x y m = pv d b m ↔ x / 2 ^ (n - hx m) = xs d b m ∧ y / 2 ^ (n - hy m) = ys d b m)
  | 0, _ => by
    have e1 : x / 2 ^ n = 0 := Int.ediv_eq_zero_of_lt hx0.1 hx0.2
    have e2 : y / 2 ^ n = 0 := Int.ediv_eq_zero_of_lt hy0.1 hy0.2
    rw [show ((0 : Nat) : Int) = 0 from rfl, pv_zero hf]
    unfold atV xs ys hx hy
    simp [e1, e2]
  | m + 1, hm => by
    have ih := at_iff hn0 hf hd hx0 hy0 m (by omega)
    have hb := bit01 (i := m) hf (by omega) (by omega)
    have ha := atH_bd n x y m
    rw [show ((m + 1 : Nat) : Int) = (m : Int) + 1 by omega, pv_succ hf (by omega) (by omega)]
    unfold atV xs ys
    have h1 : (2 * atV n x y m + atH n x y m = 2 * pv d b m + bitI d b m) ↔ atV n x y m = pv d b m ∧ atH n x y m = bitI d b m := by omega
    rw [h1, ih]
    unfold atH
    by_cases he : m % 2 = 0
    · rw [if_pos he, if_pos he, if_pos he, (hx_even he).2]
      have hle : hx (m + 1) ≤ n := by unfold hx; omega
      rw [(hx_even he).1] at hle ⊢
      rw [show ((n : Int) - 1 - ((m / 2 : Nat) : Int)).toNat = n - (hx m + 1) by unfold hx; omega, ← show n - (hx m + 1) + 1 = n - hx m by omega, ← div_half]
      constructor
      · rintro ⟨⟨g1, g2⟩, g3⟩; exact ⟨by omega, g2⟩
      · rintro ⟨g1, g2⟩; exact ⟨⟨by omega, g2⟩, by omega⟩
    · rw [if_neg he, if_neg he, if_neg he, (hx_odd he).1]
      have hle : hy (m + 1) ≤ n := by unfold hy; omega
      rw [(hx_odd he).2] at hle ⊢
      rw [show ((n : Int) - 1 - ((m / 2 : Nat) : Int)).toNat = n - (hy m + 1) by unfold hy; omega, ← show n - (hy m + 1) + 1 = n - hy m by omega, ← div_half]
      constructor
      · rintro ⟨⟨g1, g2⟩, g3⟩; exact ⟨g1, by omega⟩
      · rintro ⟨g1, g2⟩; exact ⟨⟨g1, by omega⟩, by omega⟩
theorem div_iff {x z : Int} {e : Nat} : x / 2 ^ e = z ↔ z * 2 ^ e ≤ x ∧ x < z * 2 ^ e + 2 ^ e := by
  have he := p2_pos e
  constructor
  · rintro rfl
    have h1 := Int.mul_ediv_add_emod x (2 ^ e)
    have h2 := Int.emod_nonneg x (Int.ne_of_gt he)
    have h3 := Int.emod_lt_of_pos x he
    rw [Int.mul_comm] at h1
    omega
  · rintro ⟨h1, h2⟩
    have g1 := (Int.le_ediv_iff_mul_le he).2 h1
    have g2 : x / 2 ^ e < z + 1 := (Int.ediv_lt_iff_lt_mul he).2 (by rw [Int.add_mul, Int.one_mul]; exact h2)
    omega
/-- A zone, told by its cells. -/
structure Zone (n : Nat) (d b p q r s : Int) : Prop where
  val : corF (2 ^ n) (ups d b (cnt d b)) = (p, q, r, s)
  p0 : 0 ≤ p
  q0 : 0 ≤ q
  r0 : 0 < r
  s0 : 0 < s
  pr : p + r ≤ 2 ^ n
  qs : q + s ≤ 2 ^ n
  area : r * s * 2 ^ d.toNat = 2 ^ n * 2 ^ n
  has : ∀ x y, 0 ≤ x → x < 2 ^ n → 0 ≤ y → y < 2 ^ n → (atV n x y d.toNat = b ↔ p ≤ x ∧ x < p + r ∧ q ≤ y ∧ y < q + s)
theorem zone_of {n : Nat} {d b : Int} (h : okP n d b = true) : ∃ p q r s, Zone n d b p q r s := by
  have hf := okP_fine h
  obtain ⟨h1, h2, h3, h4, h5, h6⟩ := (okP_iff _ _ _).1 h
  have hc := cnt_yes hf
  have hd : ((d.toNat : Nat) : Int) = d := by omega
  have hb := xs_bd hf d.toNat (by omega)
  have hle : hx d.toNat ≤ n ∧ hy d.toNat ≤ n := by unfold hx hy; omega
  have b1 := part_bd hb.1 hb.2.1 (show hx d.toNat + (n - hx d.toNat) = n by omega)
  have b2 := part_bd hb.2.2.1 hb.2.2.2 (show hy d.toNat + (n - hy d.toNat) = n by omega)
  refine ⟨_, _, _, _, by rw [hc]; exact corF_val (by omega) (by omega) hf (by omega) _ (by omega), b1.1, b2.1, p2_pos _, p2_pos _, b1.2, b2.2, ?_, ?_⟩
  · rw [← p2_add, ← p2_add, ← p2_add]
    congr 1
    unfold hx hy at *
    omega
  · intro x y x0 x1 y0 y1
    have h7 := at_iff (n := n) (by omega) hf (by omega) ⟨x0, x1⟩ ⟨y0, y1⟩ d.toNat (by omega)
    rw [hd, pv_all, div_iff, div_iff] at h7
    rw [h7]
    constructor
    · rintro ⟨⟨g1, g2⟩, g3, g4⟩; exact ⟨g1, g2, g3, g4⟩
    · rintro ⟨g1, g2, g3, g4⟩; exact ⟨⟨g1, g2⟩, g3, g4⟩
section
variable {n : Nat} {d b e c p q r s p' q' r' s' : Int}
end
end Go.Proofs.YteohkmhndomhgaaGreat
