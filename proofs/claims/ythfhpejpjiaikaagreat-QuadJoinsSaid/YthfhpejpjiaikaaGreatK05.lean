/- torus.Apart, Dist, nearer: how far. torus.Toward: the next cell on the way. torus.away, Ring: how many cells are so far. What distances keep: in numbers. What the laws of the torus share: num, on, at, knows. Rectangles and windows in numbers: areas, what two have together, the plain ones of a window; nothing of the program. What the laws of the paths share: num, knows, Some. The laws' Some: a path of any numbers that may be. Families of paths, in numbers; contracts with their values named. The order of paths, in numbers. A path's text, there and back. The zone of a path, in numbers: which cells it has, when two zones have a cell together. What zones have of a window, in numbers: the sum of the areas, both halves together. gleberef02: sides, cells, moves and numbers, as the document has them. gleberef04: which rectangles may be, areas, what two have together, windows. Lists whose elements take n cells each, in memory: made by a call, or that lie there. Lists of rectangles in memory. How far a cell is from a rectangle: from its nearest cell; in numbers. -/
import Derived.Test.YthfhpejpjiaikaaGreatK02
import Derived.Test.YthfhpejpjiaikaaGreatK03
import Derived.Test.YthfhpejpjiaikaaGreatK04
import Derived.Maps.AppendAt
import Derived.Great.BuildSlice
import Derived.OwnWalk
namespace Go.Proofs.YthfhpejpjiaikaaGreat
open Go.RowKit
/-- How far apart two numbers are; -1 of others. -/
def apart (k a b : Int) : Int := if inB k a && inB k b then min ((b - a) % sd k) ((a - b) % sd k) else -1
end Go.Proofs.YthfhpejpjiaikaaGreat
namespace Go.Proofs.YthfhpejpjiaikaaGreat
open Go.RowKit
end Go.Proofs.YthfhpejpjiaikaaGreat
namespace Go.Proofs.YthfhpejpjiaikaaGreat
open Go.RowKit
end Go.Proofs.YthfhpejpjiaikaaGreat
namespace Go.Proofs.YthfhpejpjiaikaaGreat
open Go.RowKit
end Go.Proofs.YthfhpejpjiaikaaGreat
namespace Go.Proofs.YthfhpejpjiaikaaGreat
open Go.RowKit
end Go.Proofs.YthfhpejpjiaikaaGreat
namespace Go.Proofs.YthfhpejpjiaikaaGreat
open Go.RowKit
/-- A rectangle. -/
structure Rc where
  x : Int
  y : Int
  w : Int
  h : Int
/-- Are its numbers from 0 to 2^30? -/
def fineR (r : Rc) : Bool := decide ((0 ≤ r.x ∧ r.x ≤ 1073741824) ∧ (0 ≤ r.y ∧ r.y ≤ 1073741824) ∧ (0 ≤ r.w ∧ r.w ≤ 1073741824) ∧ (0 ≤ r.h ∧ r.h ≤ 1073741824))
theorem fineR_iff (r : Rc) : fineR r = true ↔ (0 ≤ r.x ∧ r.x ≤ 1073741824) ∧ (0 ≤ r.y ∧ r.y ≤ 1073741824) ∧ (0 ≤ r.w ∧ r.w ≤ 1073741824) ∧ (0 ≤ r.h ∧ r.h ≤ 1073741824) := by unfold fineR; exact decide_eq_true_iff
def areaR (r : Rc) : Int := if fineR r = true then r.w * r.h else 0
def hasR (r : Rc) (a b : Int) : Bool := fineR r && decide (r.x ≤ a ∧ a < r.x + r.w ∧ r.y ≤ b ∧ b < r.y + r.h)
def zeroR : Rc := ⟨0, 0, 0, 0⟩
/-- What both have. -/
def meetR (a b : Rc) : Rc :=
  if fineR a = true ∧ fineR b = true ∧ 1 ≤ min (a.x + a.w) (b.x + b.w) - max a.x b.x ∧ 1 ≤ min (a.y + a.h) (b.y + b.h) - max a.y b.y then
    ⟨max a.x b.x, max a.y b.y, min (a.x + a.w) (b.x + b.w) - max a.x b.x, min (a.y + a.h) (b.y + b.h) - max a.y b.y⟩
  else zeroR
/-- May it be, of k? -/
def rightR (k : Int) (r : Rc) : Bool := decide (0 < side k ∧ 0 ≤ r.x ∧ r.x ≤ side k ∧ 0 ≤ r.y ∧ r.y ≤ side k ∧ 0 ≤ r.w ∧ r.w ≤ side k - r.x ∧ 0 ≤ r.h ∧ r.h ≤ side k - r.y)
theorem rightR_iff (k : Int) (r : Rc) : rightR k r = true ↔ 0 < side k ∧ 0 ≤ r.x ∧ r.x ≤ side k ∧ 0 ≤ r.y ∧ r.y ≤ side k ∧ 0 ≤ r.w ∧ r.w ≤ side k - r.x ∧ 0 ≤ r.h ∧ r.h ≤ side k - r.y := by unfold rightR; exact decide_eq_true_iff
/-- Has it cells? -/
def neR (r : Rc) : Bool := decide (0 < r.w ∧ 0 < r.h)
section
variable {k : Int} {w : Rc}
end
end Go.Proofs.YthfhpejpjiaikaaGreat
namespace Go.Proofs.YthfhpejpjiaikaaGreat
open Go.RowKit
end Go.Proofs.YthfhpejpjiaikaaGreat
namespace Go.Proofs.YthfhpejpjiaikaaGreat
open Go.RowKit
end Go.Proofs.YthfhpejpjiaikaaGreat
namespace Go.Proofs.YthfhpejpjiaikaaGreat
open Go.RowKit
section
variable {d b e c : Int}
end
theorem parent_at {d b D B : Int} (w : World) (hf : fine d b = true) (hd : 0 < d) (e1 : d - 1 = D) (e2 : b / 2 = B) : Calls Tryz.prog 29 #[.agg #[.int .i64 d, .int .i64 b]] w fun e w' => e = .returned (.tuple #[.agg #[.int .i64 D, .int .i64 B], .bool true]) ∧ Below w.heap.size w w' := e1 ▸ e2 ▸ parent_ok d b w hf hd
theorem sibling_at {d b B : Int} (w : World) (hf : fine d b = true) (hd : 0 < d) (e : b + 1 - 2 * (b % 2) = B) : Calls Tryz.prog 28 #[.agg #[.int .i64 d, .int .i64 b]] w fun e w' => e = .returned (.tuple #[.agg #[.int .i64 d, .int .i64 B], .bool true]) ∧ Below w.heap.size w w' := e ▸ sibling_ok d b w hf hd
end Go.Proofs.YthfhpejpjiaikaaGreat
namespace Go.Proofs.YthfhpejpjiaikaaGreat
open Go.RowKit
section
variable {d b e c f a : Int}
end
end Go.Proofs.YthfhpejpjiaikaaGreat
namespace Go.Proofs.YthfhpejpjiaikaaGreat
open Go.RowKit
theorem dig_bit {h : Int} (h0 : 0 ≤ h) (h1 : h ≤ 1) : ((dig h).toNat : Int) = 48 + h := by
  rw [dig_nat, IntWalk.wrap64_in _ ⟨by omega, by omega⟩]; omega
/-- The digits of the first k halves. -/
def digT (d b : Int) (k : Nat) : List UInt8 := (ups d b k).map fun x => dig x.2
theorem digT_succ (d b : Int) (k : Nat) : digT d b (k + 1) = digT d b k ++ [dig (bitI d b k)] := by unfold digT; rw [ups_succ, List.map_append]; rfl
theorem digT_length (d b : Int) (k : Nat) : (digT d b k).length = k := by unfold digT; rw [List.length_map, ups_length]
theorem bit_01 {d b i : Int} (hf : fine d b = true) (h0 : 0 ≤ i) (h1 : i < d) : 0 ≤ bitI d b i ∧ bitI d b i ≤ 1 := by
  rw [bitI_yes hf h0 h1]; omega
theorem digT_digs {d b : Int} (hf : fine d b = true) : ∀ k : Nat, (k : Int) ≤ d → digs (digT d b k) ∧ valT (digT d b k) = pv d b k
  | 0, _ => ⟨fun _ h => absurd h (by unfold digT ups; simp), by rw [show ((0 : Nat) : Int) = 0 from rfl, pv_zero hf]; rfl⟩
  | k + 1, hk => by
    obtain ⟨h1, h2⟩ := digT_digs hf k (by omega)
    have hb := bit_01 (i := k) hf (by omega) (by omega)
    have hd := dig_bit hb.1 hb.2
    rw [digT_succ, digs_snoc, valT_snoc, h2, show ((k + 1 : Nat) : Int) = (k : Int) + 1 by omega, pv_succ hf (by omega) (by omega)]
    exact ⟨⟨h1, by omega⟩, by omega⟩
theorem digT_same {d b e c : Int} (k : Nat) (h : ∀ j : Nat, j < k → bitI d b j = bitI e c j) : digT d b k = digT e c k := by
  unfold digT ups
  rw [List.map_map, List.map_map]
  refine List.map_congr_left fun j hj => ?_
  show dig (bitI d b j) = dig (bitI e c j)
  rw [h j (List.mem_range.1 hj)]
theorem list_arr (l : List UInt8) : (ByteArray.mk l.toArray).toList = l := by rw [ByteArray.toList_eq]
end Go.Proofs.YthfhpejpjiaikaaGreat
namespace Go.Proofs.YthfhpejpjiaikaaGreat
open Go.RowKit
/-- How many of the first m halves part by X, by Y. -/
def hx (m : Nat) : Nat := (m + 1) / 2
def hy (m : Nat) : Nat := m / 2
/-- The halves by X among the first m, as one number; those by Y. -/
def xs (d b : Int) : Nat → Int
  | 0 => 0
  | m + 1 => if m % 2 = 0 then 2 * xs d b m + bitI d b m else xs d b m
def ys (d b : Int) : Nat → Int
  | 0 => 0
  | m + 1 => if m % 2 = 0 then ys d b m else 2 * ys d b m + bitI d b m
theorem xs_e {d b : Int} {m : Nat} (h : m % 2 = 0) : xs d b (m + 1) = 2 * xs d b m + bitI d b m ∧ ys d b (m + 1) = ys d b m := ⟨if_pos h, if_pos h⟩
theorem xs_o {d b : Int} {m : Nat} (h : ¬ m % 2 = 0) : xs d b (m + 1) = xs d b m ∧ ys d b (m + 1) = 2 * ys d b m + bitI d b m := ⟨if_neg h, if_neg h⟩
theorem hx_even {m : Nat} (h : m % 2 = 0) : hx (m + 1) = hx m + 1 ∧ hy (m + 1) = hy m := by unfold hx hy; omega
theorem hx_odd {m : Nat} (h : ¬ m % 2 = 0) : hx (m + 1) = hx m ∧ hy (m + 1) = hy m + 1 := by unfold hx hy; omega
theorem p2_succ (n : Nat) : (2 : Int) ^ (n + 1) = 2 * 2 ^ n := by rw [p2_add]; omega
theorem bit01 {d b i : Int} (hf : fine d b = true) (h0 : 0 ≤ i) (h1 : i < d) : 0 ≤ bitI d b i ∧ bitI d b i ≤ 1 := by
  rw [bitI_yes hf h0 h1]; omega
theorem xs_bd {d b : Int} (hf : fine d b = true) : ∀ m : Nat, (m : Int) ≤ d → 0 ≤ xs d b m ∧ xs d b m < 2 ^ hx m ∧ 0 ≤ ys d b m ∧ ys d b m < 2 ^ hy m
  | 0, _ => by unfold xs ys hx hy; decide
  | m + 1, hm => by
    have h := xs_bd hf m (by omega)
    have hb := bit01 (i := m) hf (by omega) (by omega)
    unfold xs ys
    by_cases he : m % 2 = 0
    · rw [if_pos he, if_pos he, (hx_even he).1, (hx_even he).2, p2_succ]
      omega
    · rw [if_neg he, if_neg he, (hx_odd he).1, (hx_odd he).2, p2_succ]
      omega
theorem tdiv_two (n : Nat) : ((2 : Int) ^ (n + 1)).tdiv 2 = 2 ^ n := by
  rw [p2_succ, Int.tdiv_eq_ediv_of_nonneg (by have := p2_pos n; omega)]
  omega
theorem p2_16 {n : Nat} (h : n ≤ 16) : (2 : Int) ^ n ≤ 65536 := p2_le h
/-- A row of cells: so many to each. -/
theorem part_bd {z : Int} {a e n : Nat} (h0 : 0 ≤ z) (h1 : z < 2 ^ a) (hn : a + e = n) : 0 ≤ z * 2 ^ e ∧ z * 2 ^ e + 2 ^ e ≤ 2 ^ n := by
  have he := p2_pos e
  refine ⟨Int.mul_nonneg h0 (by omega), ?_⟩
  have h2 : (z + 1) * 2 ^ e ≤ 2 ^ a * 2 ^ e := Int.mul_le_mul_of_nonneg_right (by omega) (by omega)
  rw [← p2_add, hn, Int.add_mul, Int.one_mul] at h2
  exact h2
theorem step_val {z t : Int} {a e n : Nat} (h0 : 0 ≤ z) (h1 : z < 2 ^ a) (hn : a + (e + 1) = n) (hn2 : n ≤ 16) (t0 : 0 ≤ t) (t1 : t ≤ 1) :
    wrap64 (z * 2 ^ (e + 1) + wrap64 (t * wrap64 (((2 : Int) ^ (e + 1)).tdiv 2))) = (2 * z + t) * 2 ^ e ∧ wrap64 (((2 : Int) ^ (e + 1)).tdiv 2) = 2 ^ e := by
  have b1 := part_bd h0 h1 hn
  have b2 := p2_16 hn2
  have b3 := p2_pos e
  have b4 := p2_succ e
  have w1 : wrap64 ((2 : Int) ^ e) = 2 ^ e := IntWalk.wrap64_in _ ⟨by omega, by omega⟩
  have e1 : z * 2 ^ (e + 1) = 2 * (z * 2 ^ e) := by rw [b4, ← Int.mul_assoc, Int.mul_comm z 2, Int.mul_assoc]
  have e2 : (2 * z + t) * 2 ^ e = 2 * (z * 2 ^ e) + t * 2 ^ e := by rw [Int.add_mul, Int.mul_assoc]
  have e3 : 0 ≤ t * 2 ^ e ∧ t * 2 ^ e ≤ 2 ^ e := by
    rcases (show t = 0 ∨ t = 1 by omega) with rfl | rfl
    · rw [Int.zero_mul]; omega
    · rw [Int.one_mul]; omega
  rw [tdiv_two, w1]
  refine ⟨?_, rfl⟩
  rw [IntWalk.wrap64_in (t * 2 ^ e) ⟨by omega, by omega⟩, e1, e2]
  exact IntWalk.wrap64_in _ ⟨by omega, by omega⟩
theorem tmod_even {m : Nat} (h : m % 2 = 0) : (((m : Int).tmod 2 == 0) = true) := by
  rw [Int.tmod_eq_emod_of_nonneg (by omega)]
  exact beq_iff_eq.2 (by omega)
theorem tmod_odd {m : Nat} (h : ¬ m % 2 = 0) : (((m : Int).tmod 2 == 0) = false) := by
  rw [Int.tmod_eq_emod_of_nonneg (by omega)]
  exact beq_eq_false_iff_ne.2 (by omega)
/-- What Corner comes to behind m halves. -/
theorem corF_val {n : Nat} {d b : Int} (hn0 : 1 ≤ n) (hn : n ≤ 16) (hf : fine d b = true) (hd : d ≤ 2 * n) : ∀ m : Nat, (m : Int) ≤ d →
    corF (2 ^ n) (ups d b m) = (xs d b m * 2 ^ (n - hx m), ys d b m * 2 ^ (n - hy m), 2 ^ (n - hx m), 2 ^ (n - hy m))
  | 0, _ => by
    show ((0 : Int), (0 : Int), (2 : Int) ^ n, (2 : Int) ^ n) = _
    unfold xs ys hx hy
    simp
  | m + 1, hm => by
    have ih := corF_val hn0 hn hf hd m (by omega)
    have hb := bit01 (i := m) hf (by omega) (by omega)
    have hz := xs_bd hf m (by omega)
    rw [ups_succ, corF_snoc, ih]
    by_cases he : m % 2 = 0
    · rw [corStep_x (tmod_even he), (xs_e he).1, (xs_e he).2, (hx_even he).2]
      dsimp only
      have hle : hx (m + 1) ≤ n := by unfold hx; omega
      rw [(hx_even he).1] at hle ⊢
      have hsv := step_val (z := xs d b m) (t := bitI d b m) (a := hx m) (e := n - (hx m + 1)) (n := n) hz.1 hz.2.1 (by omega) hn hb.1 hb.2
      rw [show n - (hx m + 1) + 1 = n - hx m by omega] at hsv
      rw [hsv.1, hsv.2]
    · rw [corStep_y (tmod_odd he), (xs_o he).1, (xs_o he).2, (hx_odd he).1]
      dsimp only
      have hle : hy (m + 1) ≤ n := by unfold hy; omega
      rw [(hx_odd he).2] at hle ⊢
      have hsv := step_val (z := ys d b m) (t := bitI d b m) (a := hy m) (e := n - (hy m + 1)) (n := n) hz.2.2.1 hz.2.2.2 (by omega) hn hb.1 hb.2
      rw [show n - (hy m + 1) + 1 = n - hy m by omega] at hsv
      rw [hsv.1, hsv.2]
theorem div_half (x : Int) (e : Nat) : x / 2 ^ e / 2 = x / 2 ^ (e + 1) := by
  rw [p2_add, Int.ediv_ediv_of_nonneg (Int.le_of_lt (p2_pos _))]; rfl
/-- A cell's halves are the path's just if its X and Y are so. -/
theorem at_iff {n : Nat} {d b x y : Int} (hn0 : 1 ≤ n) (hf : fine d b = true) (hd : d ≤ 2 * n) (hx0 : 0 ≤ x ∧ x < 2 ^ n) (hy0 : 0 ≤ y ∧ y < 2 ^ n) : ∀ m : Nat, (m : Int) ≤ d →
    (atV n x y m = pv d b m ↔ x / 2 ^ (n - hx m) = xs d b m ∧ y / 2 ^ (n - hy m) = ys d b m)
  | 0, _ => by
    have e1 : x / 2 ^ n = 0 := Int.ediv_eq_zero_of_lt hx0.1 hx0.2
    have e2 : y / 2 ^ n = 0 := Int.ediv_eq_zero_of_lt hy0.1 hy0.2
    rw [show ((0 : Nat) : Int) = 0 from rfl, pv_zero hf]
    unfold atV xs ys hx hy
    simp [e1, e2]
  | m + 1, hm => by
    have ih := at_iff hn0 hf hd hx0 hy0 m (by omega)
    have hb := bit01 (i := m) hf (by omega) (by omega)
    have ha := atH_bd n x y m
    rw [show ((m + 1 : Nat) : Int) = (m : Int) + 1 by omega, pv_succ hf (by omega) (by omega)]
    unfold atV xs ys
    have h1 : (2 * atV n x y m + atH n x y m = 2 * pv d b m + bitI d b m) ↔ atV n x y m = pv d b m ∧ atH n x y m = bitI d b m := by omega
    rw [h1, ih]
    unfold atH
    by_cases he : m % 2 = 0
    · rw [if_pos he, if_pos he, if_pos he, (hx_even he).2]
      have hle : hx (m + 1) ≤ n := by unfold hx; omega
      rw [(hx_even he).1] at hle ⊢
      rw [show ((n : Int) - 1 - ((m / 2 : Nat) : Int)).toNat = n - (hx m + 1) by unfold hx; omega, ← show n - (hx m + 1) + 1 = n - hx m by omega, ← div_half]
      constructor
      · rintro ⟨⟨g1, g2⟩, g3⟩; exact ⟨by omega, g2⟩
      · rintro ⟨g1, g2⟩; exact ⟨⟨by omega, g2⟩, by omega⟩
    · rw [if_neg he, if_neg he, if_neg he, (hx_odd he).1]
      have hle : hy (m + 1) ≤ n := by unfold hy; omega
      rw [(hx_odd he).2] at hle ⊢
      rw [show ((n : Int) - 1 - ((m / 2 : Nat) : Int)).toNat = n - (hy m + 1) by unfold hy; omega, ← show n - (hy m + 1) + 1 = n - hy m by omega, ← div_half]
      constructor
      · rintro ⟨⟨g1, g2⟩, g3⟩; exact ⟨g1, by omega⟩
      · rintro ⟨g1, g2⟩; exact ⟨⟨g1, by omega⟩, by omega⟩
theorem div_iff {x z : Int} {e : Nat} : x / 2 ^ e = z ↔ z * 2 ^ e ≤ x ∧ x < z * 2 ^ e + 2 ^ e := by
  have he := p2_pos e
  constructor
  · rintro rfl
    have h1 := Int.mul_ediv_add_emod x (2 ^ e)
    have h2 := Int.emod_nonneg x (Int.ne_of_gt he)
    have h3 := Int.emod_lt_of_pos x he
    rw [Int.mul_comm] at h1
    omega
  · rintro ⟨h1, h2⟩
    have g1 := (Int.le_ediv_iff_mul_le he).2 h1
    have g2 : x / 2 ^ e < z + 1 := (Int.ediv_lt_iff_lt_mul he).2 (by rw [Int.add_mul, Int.one_mul]; exact h2)
    omega
/-- A zone, told by its cells. -/
structure Zone (n : Nat) (d b p q r s : Int) : Prop where
  val : corF (2 ^ n) (ups d b (cnt d b)) = (p, q, r, s)
  p0 : 0 ≤ p
  q0 : 0 ≤ q
  r0 : 0 < r
  s0 : 0 < s
  pr : p + r ≤ 2 ^ n
  qs : q + s ≤ 2 ^ n
  area : r * s * 2 ^ d.toNat = 2 ^ n * 2 ^ n
  has : ∀ x y, 0 ≤ x → x < 2 ^ n → 0 ≤ y → y < 2 ^ n → (atV n x y d.toNat = b ↔ p ≤ x ∧ x < p + r ∧ q ≤ y ∧ y < q + s)
theorem zone_of {n : Nat} {d b : Int} (h : okP n d b = true) : ∃ p q r s, Zone n d b p q r s := by
  have hf := okP_fine h
  obtain ⟨h1, h2, h3, h4, h5, h6⟩ := (okP_iff _ _ _).1 h
  have hc := cnt_yes hf
  have hd : ((d.toNat : Nat) : Int) = d := by omega
  have hb := xs_bd hf d.toNat (by omega)
  have hle : hx d.toNat ≤ n ∧ hy d.toNat ≤ n := by unfold hx hy; omega
  have b1 := part_bd hb.1 hb.2.1 (show hx d.toNat + (n - hx d.toNat) = n by omega)
  have b2 := part_bd hb.2.2.1 hb.2.2.2 (show hy d.toNat + (n - hy d.toNat) = n by omega)
  refine ⟨_, _, _, _, by rw [hc]; exact corF_val (by omega) (by omega) hf (by omega) _ (by omega), b1.1, b2.1, p2_pos _, p2_pos _, b1.2, b2.2, ?_, ?_⟩
  · rw [← p2_add, ← p2_add, ← p2_add]
    congr 1
    unfold hx hy at *
    omega
  · intro x y x0 x1 y0 y1
    have h7 := at_iff (n := n) (by omega) hf (by omega) ⟨x0, x1⟩ ⟨y0, y1⟩ d.toNat (by omega)
    rw [hd, pv_all, div_iff, div_iff] at h7
    rw [h7]
    constructor
    · rintro ⟨⟨g1, g2⟩, g3, g4⟩; exact ⟨g1, g2, g3, g4⟩
    · rintro ⟨g1, g2, g3, g4⟩; exact ⟨⟨g1, g2⟩, g3, g4⟩
section
variable {n : Nat} {d b e c p q r s p' q' r' s' : Int}
end
end Go.Proofs.YthfhpejpjiaikaaGreat
namespace Go.Proofs.YthfhpejpjiaikaaGreat
open Go.RowKit
/-- A path's zone. -/
def zoneR (k d b : Int) : Rc := ⟨(corF (side k) (ups d b (cnt d b))).1, (corF (side k) (ups d b (cnt d b))).2.1, (corF (side k) (ups d b (cnt d b))).2.2.1, (corF (side k) (ups d b (cnt d b))).2.2.2⟩
section
variable {k d b : Int} {w : Rc}
theorem ok_nat (ho : okP k d b = true) : ∃ n : Nat, k = (n : Int) ∧ 1 ≤ n ∧ n ≤ 16 ∧ side k = 2 ^ n := by
  obtain ⟨h1, h2, _⟩ := (okP_iff k d b).1 ho
  exact ⟨k.toNat, by omega, by omega, by omega, side_yes ((rgt_iff k).2 ⟨h1, h2⟩)⟩
theorem zone_right (ho : okP k d b = true) : rightR k (zoneR k d b) = true ∧ 0 < (zoneR k d b).w ∧ 0 < (zoneR k d b).h ∧ (zoneR k d b).w * (zoneR k d b).h * 2 ^ d.toNat = side k * side k := by
  obtain ⟨n, hk, hn1, hn16, hs⟩ := ok_nat ho
  obtain ⟨p, q, r, s, Z⟩ := zone_of (show okP n d b = true by rw [← hk]; exact ho)
  have hz : zoneR k d b = ⟨p, q, r, s⟩ := by unfold zoneR; rw [hs, Z.val]
  have z1 := Z.p0
  have z2 := Z.q0
  have z3 := Z.r0
  have z4 := Z.s0
  have z5 := Z.pr
  have z6 := Z.qs
  rw [hz, hs, rightR_iff]
  dsimp only
  rw [hs]
  exact ⟨by omega, z3, z4, Z.area⟩
end
end Go.Proofs.YthfhpejpjiaikaaGreat
namespace Go.Proofs.YthfhpejpjiaikaaGreat
open Go.RowKit
theorem refRight_any (k : Int) (w : World) : Calls Tryz.prog 57 #[.int .i64 k] w fun e w' => e = .returned (.bool (rgt k)) ∧ w = w' := by
  cases h : rgt k with
  | true =>
    obtain ⟨h1, h2⟩ := (rgt_iff k).1 h
    clear h
    go_enter Tryz.func57, Tryz.ntmps57
    go_wp2
    go_ret
    exact ⟨rfl, rfl⟩
  | false =>
    have h3 : ¬ (1 ≤ k ∧ k ≤ 16) := fun e => by rw [(rgt_iff k).2 e] at h; cases h
    by_cases h1 : 1 ≤ k
    · have h2 : ¬ k ≤ 16 := fun e => h3 ⟨h1, e⟩
      clear h h3
      go_enter Tryz.func57, Tryz.ntmps57
      go_wp2
      go_ret
      exact ⟨rfl, rfl⟩
    · clear h h3
      go_enter Tryz.func57, Tryz.ntmps57
      go_wp2
      go_ret
      exact ⟨rfl, rfl⟩
theorem refRight_at {k : Int} {b : Bool} (h : rgt k = b) (w : World) : Calls Tryz.prog 57 #[.int .i64 k] w fun e w' => e = .returned (.bool b) ∧ w = w' := h ▸ refRight_any k w
set_option maxHeartbeats 400000 in
theorem refSide_any (k : Int) (w : World) : Calls Tryz.prog 112 #[.int .i64 k] w fun e w' => e = .returned (.int .i64 (side k)) ∧ w = w' := by
  cases h : rgt k with
  | false =>
    rw [side_no h]
    replace h := Lib.hid h
    go_enter Tryz.func112, Tryz.ntmps112
    go_wp2_with (go_at_call 57; (with_reducible refine (refRight_at h.out _).mono ?_); rintro e w' ⟨rfl, rfl⟩)
    go_ret
    exact ⟨rfl, rfl⟩
  | true =>
    obtain ⟨n, hk, hn, hs⟩ := side_nat h
    obtain ⟨S, hS⟩ : ∃ S, side k = S := ⟨_, rfl⟩
    rw [hS] at hs ⊢
    have HS := Lib.hid hs
    replace h := Lib.hid h
    have HK := Lib.hid hk
    clear hs hk hS
    go_enter Tryz.func112, Tryz.ntmps112
    go_wp2_with (go_at_call 57; (with_reducible refine (refRight_at h.out _).mono ?_); rintro e w' ⟨rfl, rfl⟩)
    go_loop [3, 4] (fun s c => ∃ i : Nat, i ≤ n + 1 ∧ c = .int .i64 i ∧ s = .int .i64 ((2 ^ i : Nat) : Int)) (fun _ c => n + 1 - (intOf c).toNat)
    case atStart => exact ⟨0, Nat.zero_le _, rfl, rfl⟩
    case round =>
      obtain ⟨i, hi, rfl, rfl⟩ := hrel
      have hp : 2 ^ i ≤ 65536 := Nat.pow_le_pow_right (n := 2) (by omega) (show i ≤ 16 by omega)
      by_cases hlt : i < n + 1
      · have e1 : (2 : Nat) ^ (i + 1) = 2 ^ i * 2 := Nat.pow_succ 2 i
        have hlt2 : (i : Int) < k := by have := HK.out; omega
        obtain ⟨P, hP⟩ : ∃ P, 2 ^ i = P := ⟨_, rfl⟩
        rw [hP] at hp e1 ⊢
        have E1 := Lib.hid e1
        clear e1 hP
        go_wp2
        go_round
        case rel => exact ⟨i + 1, by omega, by go_num, by rw [E1.out]; go_num⟩
        case measure => simp [intOf]; omega
      · have hlt2 : ¬ (i : Int) < k := by have := HK.out; omega
        obtain ⟨P, hP⟩ : ∃ P, 2 ^ i = P := ⟨_, rfl⟩
        have hPS : (P : Int) = S := by
          have := HS.out
          rw [show n + 1 = i by omega, hP] at this
          exact this.symm
        rw [hP]
        have HPS := Lib.hid hPS
        clear hP hPS
        go_wp2
        go_ret
        exact ⟨ret_int HPS.out, rfl⟩
theorem refSide_at {k s : Int} (h : side k = s) (w : World) : Calls Tryz.prog 112 #[.int .i64 k] w fun e w' => e = .returned (.int .i64 s) ∧ w = w' := h ▸ refSide_any k w
end Go.Proofs.YthfhpejpjiaikaaGreat
namespace Go.Proofs.YthfhpejpjiaikaaGreat
open Go.RowKit
/-- May a rectangle have the number? -/
def nmB (n : Int) : Bool := decide (0 ≤ n ∧ n ≤ 1073741824)
theorem nmB_iff (n : Int) : nmB n = true ↔ 0 ≤ n ∧ n ≤ 1073741824 := by unfold nmB; exact decide_eq_true_iff
theorem fineR_nm (a b c d : Int) : fineR ⟨a, b, c, d⟩ = (nmB a && (nmB b && (nmB c && nmB d))) := by
  rw [Bool.eq_iff_iff, fineR_iff]
  simp only [Bool.and_eq_true, nmB_iff]
theorem wrNum_any (n : Int) (w : World) : Calls Tryz.prog 121 #[.int .i64 n] w fun e w' => e = .returned (.bool (nmB n)) ∧ w = w' := by
  by_cases h1 : 0 ≤ n
  · by_cases h2 : n ≤ 1073741824
    · rw [show nmB n = true from (nmB_iff n).2 ⟨h1, h2⟩]
      go_enter Tryz.func121, Tryz.ntmps121
      go_wp2
      go_ret
      exact ⟨rfl, rfl⟩
    · rw [show nmB n = false from Bool.eq_false_iff.2 fun e => h2 ((nmB_iff n).1 e).2]
      go_enter Tryz.func121, Tryz.ntmps121
      go_wp2
      go_ret
      exact ⟨rfl, rfl⟩
  · rw [show nmB n = false from Bool.eq_false_iff.2 fun e => h1 ((nmB_iff n).1 e).1]
    go_enter Tryz.func121, Tryz.ntmps121
    go_wp2
    go_ret
    exact ⟨rfl, rfl⟩
theorem wrNum_at {n : Int} {b : Bool} (h : nmB n = b) (w : World) : Calls Tryz.prog 121 #[.int .i64 n] w fun e w' => e = .returned (.bool b) ∧ w = w' := h ▸ wrNum_any n w
set_option maxHeartbeats 800000 in
theorem wrFine_any (a b c d : Int) (w : World) : Calls Tryz.prog 111 #[.agg #[.int .i64 a, .int .i64 b, .int .i64 c, .int .i64 d]] w fun e w' => e = .returned (.bool (fineR ⟨a, b, c, d⟩)) ∧ Below w.heap.size w w' := by
  rw [fineR_nm]
  obtain ⟨w0, hw0⟩ : ∃ w0, w0 = w.alloc (.cells #[.int .i64 a, .int .i64 b, .int .i64 c, .int .i64 d] 112) := ⟨_, rfl⟩
  have hs0 : Since w w0 := by rw [hw0]; exact (Since.refl w).alloc _
  have wh0 : Whole w0 (w.heap.size) 112 #[.int .i64 a, .int .i64 b, .int .i64 c, .int .i64 d] := by rw [hw0]; exact Whole.new w _ _
  have HW := Lib.hid hw0
  have c0_0 := box_cell wh0 0 (.int .i64 a) rfl
  have c0_1 := box_cell wh0 1 (.int .i64 b) rfl
  have c0_2 := box_cell wh0 2 (.int .i64 c) rfl
  have c0_3 := box_cell wh0 3 (.int .i64 d) rfl
  have hsr := Since.refl w0
  have hsd := hsr.drew
  clear hw0 wh0
  cases ha : nmB a
  · replace ha := Lib.hid ha
    go_enter Tryz.func111, Tryz.ntmps111
    go_wp2_with fail
    rw [← HW.out]
    go_wp2_with (go_at_call 121; (with_reducible refine (Calls.since_same (by assumption) (wrNum_at (by first | exact ha.out) _)).mono ?_); rintro e w' ⟨rfl, hb⟩)
    go_ret
    exact ⟨rfl, hs0.trans (by assumption)⟩
  · replace ha := Lib.hid ha
    cases hb : nmB b
    · replace hb := Lib.hid hb
      go_enter Tryz.func111, Tryz.ntmps111
      go_wp2_with fail
      rw [← HW.out]
      go_wp2_with (go_at_call 121; (with_reducible refine (Calls.since_same (by assumption) (wrNum_at (by first | exact ha.out | exact hb.out) _)).mono ?_); rintro e w' ⟨rfl, hb1⟩)
      go_ret
      exact ⟨rfl, hs0.trans (by assumption)⟩
    · replace hb := Lib.hid hb
      cases hc : nmB c
      · replace hc := Lib.hid hc
        go_enter Tryz.func111, Tryz.ntmps111
        go_wp2_with fail
        rw [← HW.out]
        go_wp2_with (go_at_call 121; (with_reducible refine (Calls.since_same (by assumption) (wrNum_at (by first | exact ha.out | exact hb.out | exact hc.out) _)).mono ?_); rintro e w' ⟨rfl, hb1⟩)
        go_ret
        exact ⟨rfl, hs0.trans (by assumption)⟩
      · replace hc := Lib.hid hc
        obtain ⟨z, hd⟩ : ∃ z, nmB d = z := ⟨_, rfl⟩
        rw [hd]
        replace hd := Lib.hid hd
        go_enter Tryz.func111, Tryz.ntmps111
        go_wp2_with fail
        rw [← HW.out]
        go_wp2_with (go_at_call 121; (with_reducible refine (Calls.since_same (by assumption) (wrNum_at (by first | exact ha.out | exact hb.out | exact hc.out | exact hd.out) _)).mono ?_); rintro e w' ⟨rfl, hb1⟩)
        go_ret
        exact ⟨rfl, hs0.trans (by assumption)⟩
theorem wrFine_at {a b c d : Int} {z : Bool} (h : fineR ⟨a, b, c, d⟩ = z) (w : World) : Calls Tryz.prog 111 #[.agg #[.int .i64 a, .int .i64 b, .int .i64 c, .int .i64 d]] w fun e w' => e = .returned (.bool z) ∧ Below w.heap.size w w' := h ▸ wrFine_any a b c d w
end Go.Proofs.YthfhpejpjiaikaaGreat
namespace Go.Proofs.YthfhpejpjiaikaaGreat
open Go.RowKit
section
variable {α : Type} (enc : α → List Value) (n : Nat)
/-- A list that a call made: in blocks from base on. -/
def RowE (W : World) (base : Nat) (T : TypeId) (v : Value) (l : List α) : Prop := W.ownsRow base T n v l.length (l.flatMap enc)
/-- A list that lies there, in a block below B. -/
def ListE (B : Nat) (W : World) (v : Value) (l : List α) : Prop :=
  (l = [] ∧ v = .slice none 0 0) ∨ ∃ g cap, v = .slice (some ⟨g, 0, none⟩) l.length cap ∧ g < B ∧ ∀ i (h : i < l.length) j u, (enc l[i])[j]? = some u → W.cell? ⟨g, i * n + j, none⟩ = some u
end
theorem add_at (g j : Nat) : (⟨g, 0, none⟩ : Addr).add j = ⟨g, j, none⟩ := by
  unfold Addr.add
  split
  · next h => rw [h]
  · simp
section
variable {α : Type} {enc : α → List Value} {n : Nat}
theorem enc_get (hn : ∀ x, (enc x).length = n) : ∀ (l : List α) (i : Nat) (h : i < l.length) (j : Nat) (u : Value), (enc l[i])[j]? = some u → (l.flatMap enc)[i * n + j]? = some u
  | r :: l, 0, _, j, u, hu => by
    have hj : j < (enc r).length := (List.getElem?_eq_some_iff.1 hu).1
    rw [List.flatMap_cons, Nat.zero_mul, Nat.zero_add, List.getElem?_append_left hj]
    exact hu
  | r :: l, i + 1, h, j, u, hu => by
    have ih := enc_get hn l i (by simpa using h) j u hu
    rw [List.flatMap_cons, show (i + 1) * n + j = n + (i * n + j) by rw [Nat.add_mul]; omega, List.getElem?_append_right (by rw [hn]; omega), hn]
    rw [show n + (i * n + j) - n = i * n + j by omega]
    exact ih
theorem enc_snoc (l : List α) (r : α) : (l ++ [r]).flatMap enc = l.flatMap enc ++ enc r := by simp
variable {w W W' : World} {base : Nat} {T : TypeId} {v : Value} {l : List α}
theorem RowE.list (hn : ∀ x, (enc x).length = n) (h : RowE enc n W base T v l) : ListE enc n W.heap.size W v l := by
  have hc := fun g hg => World.ownsRow.cells (g := g) h hg
  rcases h.2 with ⟨rfl, h0⟩ | ⟨g, cap, cur, rfl, _, hg, _, _, _, _⟩
  · exact .inl ⟨List.eq_nil_of_length_eq_zero h0, rfl⟩
  · have hlt : g < W.heap.size := (World.ownsRow.lt h g rfl).2
    refine .inr ⟨g, cap, rfl, hlt, fun i hi j u hu => ?_⟩
    rw [← add_at]
    exact hc g rfl _ _ (enc_get hn l i hi j u hu)
theorem ListE.below {B B' : Nat} (h : ListE enc n B W v l) (hs : Below B' W W') (hB : B ≤ B') : ListE enc n B W' v l := by
  rcases h with h | ⟨g, cap, rfl, hlt, hc⟩
  · exact .inl h
  · have e : ∀ j, W'.cell? ⟨g, j, none⟩ = W.cell? ⟨g, j, none⟩ := fun j => World.cell?_of_block (hs.block g (Nat.lt_of_lt_of_le hlt hB))
    exact .inr ⟨g, cap, rfl, hlt, fun i hi j u hu => (e _).trans (hc i hi j u hu)⟩
theorem ListE.since {B : Nat} (h : ListE enc n B W v l) (hs : Since W W') (hB : B ≤ W.heap.size) : ListE enc n B W' v l := h.below hs hB
theorem ListE.mono {B B' : Nat} (h : ListE enc n B W v l) (hB : B ≤ B') : ListE enc n B' W v l :=
  h.imp id fun ⟨g, cap, a, b, c⟩ => ⟨g, cap, a, Nat.lt_of_lt_of_le b hB, c⟩
theorem ListE.form {B : Nat} (h : ListE enc n B W v l) : ∃ a cap, v = .slice a l.length cap ∧ ∀ i (_ : i < l.length), ∃ g, a = some ⟨g, 0, none⟩ ∧ g < B := by
  rcases h with ⟨rfl, rfl⟩ | ⟨g, cap, rfl, hlt, _⟩
  · exact ⟨none, 0, rfl, fun i hi => absurd hi (Nat.not_lt_zero i)⟩
  · exact ⟨_, cap, rfl, fun _ _ => ⟨g, rfl, hlt⟩⟩
/-- A cell of a list's element. -/
theorem ListE.at_ {B g len cap : Nat} (h : ListE enc n B W (.slice (some ⟨g, 0, none⟩) len cap) l) {i : Nat} (hi : i < l.length) (j : Nat) {u : Value} (hu : (enc l[i])[j]? = some u) : W.cell? ⟨g, i * n + j, none⟩ = some u := by
  rcases h with ⟨rfl, _⟩ | ⟨g', cap', e, _, hc⟩
  · exact absurd hi (Nat.not_lt_zero i)
  · injection e with e1 e2 e3
    injection e1 with e1
    injection e1 with e1
    subst e1
    exact hc i hi j u hu
theorem RowE.nil (W : World) (base : Nat) (T : TypeId) : RowE enc n W base T (.slice none 0 0) [] := World.ownsRow_nil _ _ _ _
theorem RowE.since (h : RowE enc n W base T v l) (hs : Since W W') : RowE enc n W' base T v l :=
  World.ownsRow.kept h (row := none) ⟨hs.os, hs.tape, hs.output, hs.size, fun k hk _ => hs.block k hk⟩ (by cases e : v.ownBlock with | none => exact .inl rfl | some _ => exact .inr (by simp))
theorem RowE.mono {base' : Nat} (h : RowE enc n W base T v l) (hb : base' ≤ base) : RowE enc n W base' T v l :=
  ⟨h.1, h.2.imp id fun ⟨g, cap, cur, a, b, rest⟩ => ⟨g, cap, cur, a, Nat.le_trans hb b, rest⟩⟩
theorem RowE.alloc (h : RowE enc n W base T v l) (o : Obj) : RowE enc n (W.alloc o) base T v l := World.ownsRow.alloc h o
theorem RowE.far (h : RowE enc n W base T v l) {p : Addr} (hp : p.block < base) (u : Value) : RowE enc n (W.setCell p u) base T v l :=
  have hs := Below.setCell (Below.refl p.block W) (Nat.le_refl p.block) u
  World.ownsRow.kept h (row := some p.block) ⟨hs.os, hs.tape, hs.output, hs.size, fun k _ hk => Below.heap_setCell W p u k (fun e => hk (by rw [e]))⟩ (by
    cases e : v.ownBlock with
    | none => exact .inl rfl
    | some g => exact .inr (fun e2 => by have := (World.ownsRow.lt h g e).1; injection e2 with e2; omega))
theorem RowE.more {r : α} (h : W.ownsRow base T n v (l.length + 1) (l.flatMap enc ++ enc r)) : RowE enc n W base T v (l ++ [r]) := by
  unfold RowE
  rw [enc_snoc, List.length_append]
  exact h
/-- The cells of an element that was just laid. -/
theorem enc_new (w : World) (xs : List Value) (t : TypeId) : ∀ j u, xs[j]? = some u → (w.alloc (.cells xs.toArray t)).cell? ((⟨w.heap.size, 0, none⟩ : Addr).add j) = some u := by
  intro j u hj
  rw [add_at, (Whole.new w t xs.toArray).cell j, List.getElem?_toArray]
  exact hj
end
/-- A list that was handed in: in one block below B, at whatever place of it. -/
def LentE {α : Type} (enc : α → List Value) (n B : Nat) (W : World) (v : Value) (l : List α) : Prop :=
  ∃ a cap, v = .slice a l.length cap ∧ (l.length = 0 ∨ ∃ b off, a = some ⟨b, off, none⟩ ∧ b < B ∧ ∀ i (h : i < l.length) j u, (enc l[i])[j]? = some u → W.cell? ⟨b, off + i * n + j, none⟩ = some u)
theorem LentE.below {α : Type} {enc : α → List Value} {n B B' : Nat} {W W' : World} {v : Value} {l : List α} (h : LentE enc n B W v l) (hs : Below B' W W') (hB : B ≤ B') : LentE enc n B W' v l := by
  obtain ⟨a, cap, e, h⟩ := h
  refine ⟨a, cap, e, h.imp id fun ⟨b, off, h1, h2, h3⟩ => ⟨b, off, h1, h2, fun i hi j u hu => ?_⟩⟩
  exact (World.cell?_of_block (hs.block b (Nat.lt_of_lt_of_le h2 hB))).trans (h3 i hi j u hu)
theorem LentE.since {α : Type} {enc : α → List Value} {n B : Nat} {W W' : World} {v : Value} {l : List α} (h : LentE enc n B W v l) (hs : Since W W') (hB : B ≤ W.heap.size) : LentE enc n B W' v l := h.below hs hB
end Go.Proofs.YthfhpejpjiaikaaGreat
namespace Go.Proofs.YthfhpejpjiaikaaGreat
open Go.RowKit
/-- A rectangle's cells. -/
def encR (r : Rc) : List Value := [.int .i64 r.x, .int .i64 r.y, .int .i64 r.w, .int .i64 r.h]
theorem encR_len (r : Rc) : (encR r).length = 4 := rfl
/-- A list of rectangles that a call made; one that lies there. -/
abbrev RowR := RowE encR 4
end Go.Proofs.YthfhpejpjiaikaaGreat
namespace Go.Proofs.YthfhpejpjiaikaaGreat
open Go.RowKit
/-- The lesser one, if there is one already. -/
def upd (u v : Int) : Int := if u < 0 ∨ v < u then v else u
/-- .. going on from u. -/
def inn (u : Int) (g : Nat → Int) : Nat → Int
  | 0 => u
  | n + 1 => upd (inn u g n) (g n)
section
variable {k a : Int}
end
end Go.Proofs.YthfhpejpjiaikaaGreat
