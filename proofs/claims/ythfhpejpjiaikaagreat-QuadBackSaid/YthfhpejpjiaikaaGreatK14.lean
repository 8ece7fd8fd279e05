/- What the laws of the paths share: num, knows, Some. The laws' Some: a path of any numbers that may be. Families of paths, in numbers; contracts with their values named. The order of paths, in numbers. A path's text, there and back. The zone of a path, in numbers: which cells it has, when two zones have a cell together. -/
import Derived.Test.YthfhpejpjiaikaaGreatK02
import Derived.Test.YthfhpejpjiaikaaGreatK12
import Derived.Test.YthfhpejpjiaikaaGreatK13
namespace Go.Proofs.YthfhpejpjiaikaaGreat
open Go.RowKit
/-- A path of any numbers, of k: how deep, which bits. -/
def smD (k d : Int) : Int := d % (2 * k + 1)
def smB (k d b : Int) : Int := b % 2 ^ (smD k d).toNat
theorem some_fine (k d b : Int) (h : 0 ≤ k ∧ k ≤ 16) : fine (smD k d) (smB k d b) = true := by
  have h1 := Int.emod_nonneg d (show 2 * k + 1 ≠ 0 by omega)
  have h2 := Int.emod_lt_of_pos d (show 0 < 2 * k + 1 by omega)
  have h3 := p2_pos (smD k d).toNat
  exact (fine_iff _ _).2 ⟨h1, by unfold smD; omega, Int.emod_nonneg _ (by omega), Int.emod_lt_of_pos _ h3⟩
theorem some_ok (k d b : Int) (h : 1 ≤ k ∧ k ≤ 16) : okP k (smD k d) (smB k d b) = true := by
  obtain ⟨h1, h2, h3, h4⟩ := (fine_iff _ _).1 (some_fine k d b (by omega))
  have h5 := Int.emod_lt_of_pos d (show 0 < 2 * k + 1 by omega)
  exact (okP_iff _ _ _).2 ⟨h.1, h.2, h1, by unfold smD; omega, h3, h4⟩
theorem tmod_pos (x m : Int) (hm : 0 < m) : (x.tmod m + m).tmod m = x % m := by
  have h := tmod_bd x m hm
  rw [Int.tmod_eq_emod_of_nonneg (by omega), Int.add_emod_right, tmod_emod]
end Go.Proofs.YthfhpejpjiaikaaGreat
namespace Go.Proofs.YthfhpejpjiaikaaGreat
open Go.RowKit
set_option maxHeartbeats 400000 in
theorem some_any (k d b : Int) (w : World) (hk0 : 0 ≤ k) (hk : k ≤ 16) : Calls Tryz.prog 14 #[.int .i64 k, .agg #[.int .i64 d, .int .i64 b]] w fun e w' => e = .returned (.agg #[.int .i64 (smD k d), .int .i64 (smB k d b)]) ∧ Below w.heap.size w w' := by
  have t1 := tmod_bd d (2 * k + 1) (by omega)
  have e0 := tmod_pos d (2 * k + 1) (by omega)
  rw [show d.tmod (2 * k + 1) + (2 * k + 1) = d.tmod (2 * k + 1) + 2 * k + 1 by omega] at e0
  have hfine := (fine_iff _ _).1 (some_fine k d b ⟨hk0, hk⟩)
  obtain ⟨D, hD⟩ : ∃ D, D = smD k d := ⟨_, rfl⟩
  have e1 : (d.tmod (2 * k + 1) + 2 * k + 1).tmod (2 * k + 1) = D := by rw [e0, hD]; rfl
  rw [← hD] at hfine
  obtain ⟨f1, f2, _, _⟩ := hfine
  obtain ⟨N, hN⟩ : ∃ N : Int, N = 2 ^ D.toNat := ⟨_, rfl⟩
  have e2 : wrap64 (2 ^ D.toNat) = N := by rw [p2_wrap f2, hN]
  have n1 : 0 < N := by rw [hN]; exact p2_pos _
  have n2 : N ≤ 4294967296 := by rw [hN]; exact p2_32 (by omega)
  have t2 := tmod_bd b N n1
  have e3 : (b.tmod N + N).tmod N = smB k d b := by rw [tmod_pos b N n1, hN, hD]; rfl
  obtain ⟨B, hB⟩ : ∃ B, B = smB k d b := ⟨_, rfl⟩
  rw [← hB] at e3
  rw [← hD, ← hB]
  clear e0 hD hN hB
  go_enter Tryz.func14, Tryz.ntmps14
  go_wp2
  exact bodyPost_ret (v := .agg #[.int .i64 D, .int .i64 B]) (by simp [results, Tryz.results14, go_sem]) rfl ⟨rfl, ((Since.refl w).alloc _).alloc _⟩
end Go.Proofs.YthfhpejpjiaikaaGreat
namespace Go.Proofs.YthfhpejpjiaikaaGreat
open Go.RowKit
section
variable {d b e c : Int}
theorem half_fine {h : Int} (hf : fine d b = true) (hd : d < 32) (h0 : 0 ≤ h) (h1 : h ≤ 1) : fine (d + 1) (2 * b + h) = true := by
  obtain ⟨g1, g2, g3, g4⟩ := (fine_iff d b).1 hf
  refine (fine_iff _ _).2 ⟨by omega, by omega, by omega, ?_⟩
  rw [show (d + 1).toNat = d.toNat + 1 by omega, p2_add]
  omega
theorem half_pv {h : Int} (h0 : 0 ≤ h) (h1 : h ≤ 1) : pv (d + 1) (2 * b + h) d = b := by
  rw [pv_half (by omega), pv_all]
  omega
theorem half_bit {h : Int} (hf : fine d b = true) (hd : d < 32) (h0 : 0 ≤ h) (h1 : h ≤ 1) : bitI (d + 1) (2 * b + h) d = h := by
  have hd0 := (fine_iff d b).1 hf
  rw [bitI_yes (half_fine hf hd h0 h1) (by omega) (by omega), pv_all]
  omega
theorem abv_half {h : Int} (hf : fine d b = true) (hd : d < 32) (h0 : 0 ≤ h) (h1 : h ≤ 1) : abvB d b (d + 1) (2 * b + h) = true :=
  (abvB_iff _ _ _ _).2 ⟨hf, half_fine hf hd h0 h1, by omega, half_pv h0 h1⟩
end
theorem child_at {d b h D B : Int} (w : World) (hf : fine d b = true) (hd : d < 32) (h0 : 0 ≤ h) (h1 : h ≤ 1) (e1 : d + 1 = D) (e2 : 2 * b + h = B) : Calls Tryz.prog 16 #[.agg #[.int .i64 d, .int .i64 b], .int .i64 h] w fun e w' => e = .returned (.tuple #[.agg #[.int .i64 D, .int .i64 B], .int .i64 0]) ∧ Below w.heap.size w w' := e1 ▸ e2 ▸ child_ok d b h w hf hd h0 h1
theorem parent_at {d b D B : Int} (w : World) (hf : fine d b = true) (hd : 0 < d) (e1 : d - 1 = D) (e2 : b / 2 = B) : Calls Tryz.prog 29 #[.agg #[.int .i64 d, .int .i64 b]] w fun e w' => e = .returned (.tuple #[.agg #[.int .i64 D, .int .i64 B], .bool true]) ∧ Below w.heap.size w w' := e1 ▸ e2 ▸ parent_ok d b w hf hd
theorem sibling_at {d b B : Int} (w : World) (hf : fine d b = true) (hd : 0 < d) (e : b + 1 - 2 * (b % 2) = B) : Calls Tryz.prog 28 #[.agg #[.int .i64 d, .int .i64 b]] w fun e w' => e = .returned (.tuple #[.agg #[.int .i64 d, .int .i64 B], .bool true]) ∧ Below w.heap.size w w' := e ▸ sibling_ok d b w hf hd
theorem some_at {k d b D B : Int} (w : World) (hk0 : 0 ≤ k) (hk : k ≤ 16) (e1 : smD k d = D) (e2 : smB k d b = B) : Calls Tryz.prog 14 #[.int .i64 k, .agg #[.int .i64 d, .int .i64 b]] w fun e w' => e = .returned (.agg #[.int .i64 D, .int .i64 B]) ∧ Below w.heap.size w w' := e1 ▸ e2 ▸ some_any k d b w hk0 hk
end Go.Proofs.YthfhpejpjiaikaaGreat
namespace Go.Proofs.YthfhpejpjiaikaaGreat
open Go.RowKit
section
variable {d b e c f a : Int}
end
end Go.Proofs.YthfhpejpjiaikaaGreat
namespace Go.Proofs.YthfhpejpjiaikaaGreat
open Go.RowKit
end Go.Proofs.YthfhpejpjiaikaaGreat
namespace Go.Proofs.YthfhpejpjiaikaaGreat
open Go.RowKit
/-- How many of the first m halves part by X, by Y. -/
def hx (m : Nat) : Nat := (m + 1) / 2
def hy (m : Nat) : Nat := m / 2
/-- The halves by X among the first m, as one number; those by Y. -/
def xs (d b : Int) : Nat → Int
  | 0 => 0
  | m + 1 => if m % 2 = 0 then 2 * xs d b m + bitI d b m else xs d b m
def ys (d b : Int) : Nat → Int
  | 0 => 0
  | m + 1 => if m % 2 = 0 then ys d b m else 2 * ys d b m + bitI d b m
theorem xs_e {d b : Int} {m : Nat} (h : m % 2 = 0) : xs d b (m + 1) = 2 * xs d b m + bitI d b m ∧ ys d b (m + 1) = ys d b m := ⟨if_pos h, if_pos h⟩
theorem xs_o {d b : Int} {m : Nat} (h : ¬ m % 2 = 0) : xs d b (m + 1) = xs d b m ∧ ys d b (m + 1) = 2 * ys d b m + bitI d b m := ⟨if_neg h, if_neg h⟩
theorem hx_even {m : Nat} (h : m % 2 = 0) : hx (m + 1) = hx m + 1 ∧ hy (m + 1) = hy m := by unfold hx hy; omega
theorem hx_odd {m : Nat} (h : ¬ m % 2 = 0) : hx (m + 1) = hx m ∧ hy (m + 1) = hy m + 1 := by unfold hx hy; omega
theorem p2_succ (n : Nat) : (2 : Int) ^ (n + 1) = 2 * 2 ^ n := by rw [p2_add]; omega
theorem bit01 {d b i : Int} (hf : fine d b = true) (h0 : 0 ≤ i) (h1 : i < d) : 0 ≤ bitI d b i ∧ bitI d b i ≤ 1 := by
  rw [bitI_yes hf h0 h1]; omega
theorem xs_bd {d b : Int} (hf : fine d b = true) : ∀ m : Nat, (m : Int) ≤ d → 0 ≤ xs d b m ∧ xs d b m < 2 ^ hx m ∧ 0 ≤ ys d b m ∧ ys d b m < 2 ^ hy m
  | 0, _ => by unfold xs ys hx hy; decide
  | m + 1, hm => by
    have h := xs_bd hf m (by omega)
    have hb := bit01 (i := m) hf (by omega) (by omega)
    unfold xs ys
    by_cases he : m % 2 = 0
    · rw [if_pos he, if_pos he, (hx_even he).1, (hx_even he).2, p2_succ]
      omega
    · rw [if_neg he, if_neg he, (hx_odd he).1, (hx_odd he).2, p2_succ]
      omega
theorem tdiv_two (n : Nat) : ((2 : Int) ^ (n + 1)).tdiv 2 = 2 ^ n := by
  rw [p2_succ, Int.tdiv_eq_ediv_of_nonneg (by have := p2_pos n; omega)]
  omega
theorem p2_16 {n : Nat} (h : n ≤ 16) : (2 : Int) ^ n ≤ 65536 := p2_le h
/-- A row of cells: so many to each. -/
theorem part_bd {z : Int} {a e n : Nat} (h0 : 0 ≤ z) (h1 : z < 2 ^ a) (hn : a + e = n) : 0 ≤ z * 2 ^ e ∧ z * 2 ^ e + 2 ^ e ≤ 2 ^ n := by
  have he := p2_pos e
  refine ⟨Int.mul_nonneg h0 (by omega), ?_⟩
  have h2 : (z + 1) * 2 ^ e ≤ 2 ^ a * 2 ^ e := Int.mul_le_mul_of_nonneg_right (by omega) (by omega)
  rw [← p2_add, hn, Int.add_mul, Int.one_mul] at h2
  exact h2
theorem step_val {z t : Int} {a e n : Nat} (h0 : 0 ≤ z) (h1 : z < 2 ^ a) (hn : a + (e + 1) = n) (hn2 : n ≤ 16) (t0 : 0 ≤ t) (t1 : t ≤ 1) :
    wrap64 (z * 2 ^ (e + 1) + wrap64 (t * wrap64 (((2 : Int) ^ (e + 1)).tdiv 2))) = (2 * z + t) * 2 ^ e ∧ wrap64 (((2 : Int) ^ (e + 1)).tdiv 2) = 2 ^ e := by
  have b1 := part_bd h0 h1 hn
  have b2 := p2_16 hn2
  have b3 := p2_pos e
  have b4 := p2_succ e
  have w1 : wrap64 ((2 : Int) ^ e) = 2 ^ e := IntWalk.wrap64_in _ ⟨by omega, by omega⟩
  have e1 : z * 2 ^ (e + 1) = 2 * (z * 2 ^ e) := by rw [b4, ← Int.mul_assoc, Int.mul_comm z 2, Int.mul_assoc]
  have e2 : (2 * z + t) * 2 ^ e = 2 * (z * 2 ^ e) + t * 2 ^ e := by rw [Int.add_mul, Int.mul_assoc]
  have e3 : 0 ≤ t * 2 ^ e ∧ t * 2 ^ e ≤ 2 ^ e := by
    rcases (show t = 0 ∨ t = 1 by omega) with rfl | rfl
    · rw [Int.zero_mul]; omega
    · rw [Int.one_mul]; omega
  rw [tdiv_two, w1]
  refine ⟨?_, rfl⟩
  rw [IntWalk.wrap64_in (t * 2 ^ e) ⟨by omega, by omega⟩, e1, e2]
  exact IntWalk.wrap64_in _ ⟨by omega, by omega⟩
theorem tmod_even {m : Nat} (h : m % 2 = 0) : (((m : Int).tmod 2 == 0) = true) := by
  rw [Int.tmod_eq_emod_of_nonneg (by omega)]
  exact beq_iff_eq.2 (by omega)
theorem tmod_odd {m : Nat} (h : ¬ m % 2 = 0) : (((m : Int).tmod 2 == 0) = false) := by
  rw [Int.tmod_eq_emod_of_nonneg (by omega)]
  exact beq_eq_false_iff_ne.2 (by omega)
/-- What Corner comes to behind m halves. -/
theorem corF_val {n : Nat} {d b : Int} (hn0 : 1 ≤ n) (hn : n ≤ 16) (hf : fine d b = true) (hd : d ≤ 2 * n) : ∀ m : Nat, (m : Int) ≤ d →
    corF (2 ^ n) (ups d b m) = (xs d b m * 2 ^ (n - hx m), ys d b m * 2 ^ (n - hy m), 2 ^ (n - hx m), 2 ^ (n - hy m))
  | 0, _ => by
    show ((0 : Int), (0 : Int), (2 : Int) ^ n, (2 : Int) ^ n) = _
    unfold xs ys hx hy
    simp
  | m + 1, hm => by
    have ih := corF_val hn0 hn hf hd m (by omega)
    have hb := bit01 (i := m) hf (by omega) (by omega)
    have hz := xs_bd hf m (by omega)
    rw [ups_succ, corF_snoc, ih]
    by_cases he : m % 2 = 0
    · rw [corStep_x (tmod_even he), (xs_e he).1, (xs_e he).2, (hx_even he).2]
      dsimp only
      have hle : hx (m + 1) ≤ n := by unfold hx; omega
      rw [(hx_even he).1] at hle ⊢
      have hsv := step_val (z := xs d b m) (t := bitI d b m) (a := hx m) (e := n - (hx m + 1)) (n := n) hz.1 hz.2.1 (by omega) hn hb.1 hb.2
      rw [show n - (hx m + 1) + 1 = n - hx m by omega] at hsv
      rw [hsv.1, hsv.2]
    · rw [corStep_y (tmod_odd he), (xs_o he).1, (xs_o he).2, (hx_odd he).1]
      dsimp only
      have hle : hy (m + 1) ≤ n := by unfold hy; omega
      rw [(hx_odd he).2] at hle ⊢
      have hsv := step_val (z := ys d b m) (t := bitI d b m) (a := hy m) (e := n - (hy m + 1)) (n := n) hz.2.2.1 hz.2.2.2 (by omega) hn hb.1 hb.2
      rw [show n - (hy m + 1) + 1 = n - hy m by omega] at hsv
      rw [hsv.1, hsv.2]
theorem div_half (x : Int) (e : Nat) : x / 2 ^ e / 2 = x / 2 ^ (e + 1) := by
  rw [p2_add, Int.ediv_ediv_of_nonneg (Int.le_of_lt (p2_pos _))]; rfl
/-- A cell's halves are the path's just if its X and Y are so. -/
theorem at_iff {n : Nat} {d b x y : Int} (hn0 : 1 ≤ n) (hf : fine d b = true) (hd : d ≤ 2 * n) (hx0 : 0 ≤ x ∧ x < 2 ^ n) (hy0 : 0 ≤ y ∧ y < 2 ^ n) : ∀ m : Nat, (m : Int) ≤ d →
    (atV n x y m = pv d b m ↔ x / 2 ^ (n - hx m) = xs d b m ∧ y / 2 ^ (n - hy m) = ys d b m)
  | 0, _ => by
    have e1 : x / 2 ^ n = 0 := Int.ediv_eq_zero_of_lt hx0.1 hx0.2
    have e2 : y / 2 ^ n = 0 := Int.ediv_eq_zero_of_lt hy0.1 hy0.2
    rw [show ((0 : Nat) : Int) = 0 from rfl, pv_zero hf]
    unfold atV xs ys hx hy
    simp [e1, e2]
  | m + 1, hm => by
    have ih := at_iff hn0 hf hd hx0 hy0 m (by omega)
    have hb := bit01 (i := m) hf (by omega) (by omega)
    have ha := atH_bd n x y m
    rw [show ((m + 1 : Nat) : Int) = (m : Int) + 1 by omega, pv_succ hf (by omega) (by omega)]
    unfold atV xs ys
    have h1 : (2 * atV n x y m + atH n x y m = 2 * pv d b m + bitI d b m) ↔ atV n x y m = pv d b m ∧ atH n x y m = bitI d b m := by omega
    rw [h1, ih]
    unfold atH
    by_cases he : m % 2 = 0
    · rw [if_pos he, if_pos he, if_pos he, (hx_even he).2]
      have hle : hx (m + 1) ≤ n := by unfold hx; omega
      rw [(hx_even he).1] at hle ⊢
      rw [show ((n : Int) - 1 - ((m / 2 : Nat) : Int)).toNat = n - (hx m + 1) by unfold hx; omega, ← show n - (hx m + 1) + 1 = n - hx m by omega, ← div_half]
      constructor
      · rintro ⟨⟨g1, g2⟩, g3⟩; exact ⟨by omega, g2⟩
      · rintro ⟨g1, g2⟩; exact ⟨⟨by omega, g2⟩, by omega⟩
    · rw [if_neg he, if_neg he, if_neg he, (hx_odd he).1]
      have hle : hy (m + 1) ≤ n := by unfold hy; omega
      rw [(hx_odd he).2] at hle ⊢
      rw [show ((n : Int) - 1 - ((m / 2 : Nat) : Int)).toNat = n - (hy m + 1) by unfold hy; omega, ← show n - (hy m + 1) + 1 = n - hy m by omega, ← div_half]
      constructor
      · rintro ⟨⟨g1, g2⟩, g3⟩; exact ⟨g1, by omega⟩
      · rintro ⟨g1, g2⟩; exact ⟨⟨g1, by omega⟩, by omega⟩
theorem div_iff {x z : Int} {e : Nat} : x / 2 ^ e = z ↔ z * 2 ^ e ≤ x ∧ x < z * 2 ^ e + 2 ^ e := by
  have he := p2_pos e
  constructor
  · rintro rfl
    have h1 := Int.mul_ediv_add_emod x (2 ^ e)
    have h2 := Int.emod_nonneg x (Int.ne_of_gt he)
    have h3 := Int.emod_lt_of_pos x he
    rw [Int.mul_comm] at h1
    omega
  · rintro ⟨h1, h2⟩
    have g1 := (Int.le_ediv_iff_mul_le he).2 h1
    have g2 : x / 2 ^ e < z + 1 := (Int.ediv_lt_iff_lt_mul he).2 (by rw [Int.add_mul, Int.one_mul]; exact h2)
    omega
/-- A zone, told by its cells. -/
structure Zone (n : Nat) (d b p q r s : Int) : Prop where
  val : corF (2 ^ n) (ups d b (cnt d b)) = (p, q, r, s)
  p0 : 0 ≤ p
  q0 : 0 ≤ q
  r0 : 0 < r
  s0 : 0 < s
  pr : p + r ≤ 2 ^ n
  qs : q + s ≤ 2 ^ n
  area : r * s * 2 ^ d.toNat = 2 ^ n * 2 ^ n
  has : ∀ x y, 0 ≤ x → x < 2 ^ n → 0 ≤ y → y < 2 ^ n → (atV n x y d.toNat = b ↔ p ≤ x ∧ x < p + r ∧ q ≤ y ∧ y < q + s)
theorem zone_of {n : Nat} {d b : Int} (h : okP n d b = true) : ∃ p q r s, Zone n d b p q r s := by
  have hf := okP_fine h
  obtain ⟨h1, h2, h3, h4, h5, h6⟩ := (okP_iff _ _ _).1 h
  have hc := cnt_yes hf
  have hd : ((d.toNat : Nat) : Int) = d := by omega
  have hb := xs_bd hf d.toNat (by omega)
  have hle : hx d.toNat ≤ n ∧ hy d.toNat ≤ n := by unfold hx hy; omega
  have b1 := part_bd hb.1 hb.2.1 (show hx d.toNat + (n - hx d.toNat) = n by omega)
  have b2 := part_bd hb.2.2.1 hb.2.2.2 (show hy d.toNat + (n - hy d.toNat) = n by omega)
  refine ⟨_, _, _, _, by rw [hc]; exact corF_val (by omega) (by omega) hf (by omega) _ (by omega), b1.1, b2.1, p2_pos _, p2_pos _, b1.2, b2.2, ?_, ?_⟩
  · rw [← p2_add, ← p2_add, ← p2_add]
    congr 1
    unfold hx hy at *
    omega
  · intro x y x0 x1 y0 y1
    have h7 := at_iff (n := n) (by omega) hf (by omega) ⟨x0, x1⟩ ⟨y0, y1⟩ d.toNat (by omega)
    rw [hd, pv_all, div_iff, div_iff] at h7
    rw [h7]
    constructor
    · rintro ⟨⟨g1, g2⟩, g3, g4⟩; exact ⟨g1, g2, g3, g4⟩
    · rintro ⟨g1, g2, g3, g4⟩; exact ⟨⟨g1, g2⟩, g3, g4⟩
section
variable {n : Nat} {d b e c p q r s p' q' r' s' : Int}
end
end Go.Proofs.YthfhpejpjiaikaaGreat
