/- Tilings as trees of halves: tiles and gaps in order, none of which meets another one; each cell in one of them; areas; deepest pairs. Nothing of the program. -/
import Derived.Test.YtbbnojfecmocgaaK08
namespace Go.Proofs.Ytbbnojfecmocgaa
open Go.RowKit
/-- A tile: a path, a number. -/
structure Tl where
  d : Int
  b : Int
  who : Int
/-- What is below a path: nothing, a tile, or what is below its two halves. -/
inductive Tr
  | gap : Tr
  | leaf : Int → Tr
  | node : Tr → Tr → Tr
def Tr.tiles : Tr → Int → Int → List Tl
  | .gap, _, _ => []
  | .leaf w, d, b => [⟨d, b, w⟩]
  | .node l r, d, b => l.tiles (d + 1) (2 * b) ++ r.tiles (d + 1) (2 * b + 1)
def Tr.high : Tr → Nat
  | .gap => 0
  | .leaf _ => 0
  | .node l r => max l.high r.high + 1
/-- Is there no tile? -/
def Tr.bare : Tr → Bool
  | .gap => true
  | .leaf _ => false
  | .node l r => l.bare && r.bare
def Tr.gaps : Tr → Int → Int → List (Int × Int)
  | .gap, d, b => [(d, b)]
  | .leaf _, _, _ => []
  | .node l r, d, b => if l.bare && r.bare then [(d, b)] else l.gaps (d + 1) (2 * b) ++ r.gaps (d + 1) (2 * b + 1)
theorem Tr.bare_tiles : ∀ (t : Tr) (d b : Int), t.bare = true ↔ t.tiles d b = []
  | .gap, _, _ => by simp [Tr.bare, Tr.tiles]
  | .leaf _, _, _ => by simp [Tr.bare, Tr.tiles]
  | .node l r, d, b => by
    have h1 := Tr.bare_tiles l (d + 1) (2 * b)
    have h2 := Tr.bare_tiles r (d + 1) (2 * b + 1)
    simp [Tr.bare, Tr.tiles, h1, h2]
section
variable {d b e c f a : Int}
theorem fine_l (hf : fine d b = true) (hd : d < 32) : fine (d + 1) (2 * b) = true := by
  have h := half_fine (h := 0) hf hd (by omega) (by omega)
  rwa [Int.add_zero] at h
theorem fine_r (hf : fine d b = true) (hd : d < 32) : fine (d + 1) (2 * b + 1) = true := half_fine hf hd (by omega) (by omega)
theorem abv_l (hf : fine d b = true) (hd : d < 32) : abvB d b (d + 1) (2 * b) = true := by
  have h := abv_half (h := 0) hf hd (by omega) (by omega)
  rwa [Int.add_zero] at h
theorem abv_r (hf : fine d b = true) (hd : d < 32) : abvB d b (d + 1) (2 * b + 1) = true := abv_half hf hd (by omega) (by omega)
theorem abv_self (hf : fine d b = true) : abvB d b d b = true := (abvB_iff _ _ _ _).2 ⟨hf, hf, Int.le_refl _, pv_all d b⟩
theorem abv_trans (h : abvB d b e c = true) (g : abvB e c f a = true) : abvB d b f a = true := by
  obtain ⟨h1, h2, h3, h4⟩ := (abvB_iff _ _ _ _).1 h
  obtain ⟨g1, g2, g3, g4⟩ := (abvB_iff _ _ _ _).1 g
  refine (abvB_iff _ _ _ _).2 ⟨h1, g2, by omega, ?_⟩
  rw [← h4, ← g4, pv_pv h3 g3]
theorem bit_l (hf : fine d b = true) (hd : d < 32) : bitI (d + 1) (2 * b) d = 0 := by
  have h := half_bit (h := 0) hf hd (by omega) (by omega)
  rwa [Int.add_zero] at h
theorem bit_r (hf : fine d b = true) (hd : d < 32) : bitI (d + 1) (2 * b + 1) d = 1 := half_bit hf hd (by omega) (by omega)
/-- What is below the lower half stands ahead of what is below the upper one, and does not meet it. -/
theorem halves_apart (hf : fine d b = true) (hd : d < 32) (h : abvB (d + 1) (2 * b) e c = true) (g : abvB (d + 1) (2 * b + 1) f a = true) :
    cmpP e c f a < 0 ∧ metB e c f a = false := by
  obtain ⟨h1, h2, h3, h4⟩ := abv_bits h
  obtain ⟨g1, g2, g3, g4⟩ := abv_bits g
  obtain ⟨f1, f2, _⟩ := (fine_iff d b).1 hf
  have ed : ((d.toNat : Nat) : Int) = d := by omega
  have x1 := h4 d.toNat (by omega)
  have x2 := g4 d.toNat (by omega)
  rw [ed, bit_l hf hd] at x1
  rw [ed, bit_r hf hd] at x2
  have hsame : ∀ j : Nat, j < d.toNat → bitI e c j = bitI f a j := by
    intro j hj
    obtain ⟨_, _, _, y1⟩ := abv_bits (abv_l hf hd)
    obtain ⟨_, _, _, y2⟩ := abv_bits (abv_r hf hd)
    rw [← h4 j (by omega), ← g4 j (by omega), ← y1 j (by omega), ← y2 j (by omega)]
  constructor
  · rw [cmpP_first h2 g2 hsame (by rw [ed, ← x1, ← x2]; decide), ed, ← x1, ← x2]
    decide
  · unfold metB
    rw [Bool.or_eq_false_iff]
    constructor
    · refine Bool.eq_false_iff.2 fun z => ?_
      obtain ⟨_, _, _, z4⟩ := abv_bits z
      have := z4 d.toNat (by omega)
      rw [ed, ← x1, ← x2] at this
      exact absurd this (by decide)
    · refine Bool.eq_false_iff.2 fun z => ?_
      obtain ⟨_, _, _, z4⟩ := abv_bits z
      have := z4 d.toNat (by omega)
      rw [ed, ← x1, ← x2] at this
      exact absurd this (by decide)
end
theorem metB_comm (d b e c : Int) : metB d b e c = metB e c d b := by unfold metB; exact Bool.or_comm _ _
/-- Tiles stand below their tree's path, not deeper than it is high. -/
theorem Tr.tiles_abv : ∀ (t : Tr) (d b : Int), fine d b = true → d + t.high ≤ 32 → ∀ s ∈ t.tiles d b, abvB d b s.d s.b = true ∧ s.d ≤ d + t.high
  | .gap, _, _, _, _, s, hs => by simp [Tr.tiles] at hs
  | .leaf w, d, b, hf, _, s, hs => by
    simp [Tr.tiles] at hs
    subst hs
    exact ⟨abv_self hf, by simp [Tr.high]⟩
  | .node l r, d, b, hf, hh, s, hs => by
    simp only [Tr.high] at hh ⊢
    simp only [Tr.tiles, List.mem_append] at hs
    have hd : d < 32 := by omega
    rcases hs with hs | hs
    · obtain ⟨h1, h2⟩ := Tr.tiles_abv l (d + 1) (2 * b) (fine_l hf hd) (by omega) s hs
      exact ⟨abv_trans (abv_l hf hd) h1, by omega⟩
    · obtain ⟨h1, h2⟩ := Tr.tiles_abv r (d + 1) (2 * b + 1) (fine_r hf hd) (by omega) s hs
      exact ⟨abv_trans (abv_r hf hd) h1, by omega⟩
/-- Of two tiles: the one stands ahead of the other one, and they do not meet. -/
def Tl.ltB (s u : Tl) : Prop := cmpP s.d s.b u.d u.b < 0 ∧ metB s.d s.b u.d u.b = false
theorem Tr.tiles_pair : ∀ (t : Tr) (d b : Int), fine d b = true → d + t.high ≤ 32 → (t.tiles d b).Pairwise Tl.ltB
  | .gap, _, _, _, _ => List.Pairwise.nil
  | .leaf w, _, _, _, _ => by simp [Tr.tiles]
  | .node l r, d, b, hf, hh => by
    simp only [Tr.high] at hh
    have hd : d < 32 := by omega
    rw [Tr.tiles, List.pairwise_append]
    refine ⟨Tr.tiles_pair l _ _ (fine_l hf hd) (by omega), Tr.tiles_pair r _ _ (fine_r hf hd) (by omega), fun s hs u hu => ?_⟩
    exact halves_apart hf hd (Tr.tiles_abv l _ _ (fine_l hf hd) (by omega) s hs).1 (Tr.tiles_abv r _ _ (fine_r hf hd) (by omega) u hu).1
/-- Has the zone the cell? -/
def hitB (k x y d b : Int) : Bool := atV k x y d.toNat == b
theorem hit_half (k x y : Int) {d b : Int} (h0 : 0 ≤ d) : (if hitB k x y (d + 1) (2 * b) = true then (1 : Nat) else 0) + (if hitB k x y (d + 1) (2 * b + 1) = true then 1 else 0) = if hitB k x y d b = true then 1 else 0 := by
  have e : (d + 1).toNat = d.toNat + 1 := by omega
  unfold hitB
  rw [e]
  have hb := atH_bd k x y d.toNat
  have hs : atV k x y (d.toNat + 1) = 2 * atV k x y d.toNat + atH k x y d.toNat := rfl
  rw [hs]
  simp only [beq_iff_eq]
  split <;> split <;> split <;> omega
/-- Each cell is in just one zone, of a tile or of a gap. -/
theorem Tr.count (k x y : Int) : ∀ (t : Tr) (d b : Int), 0 ≤ d →
    (t.tiles d b).countP (fun s => hitB k x y s.d s.b) + (t.gaps d b).countP (fun s => hitB k x y s.1 s.2) = if hitB k x y d b = true then 1 else 0
  | .gap, d, b, _ => by
    simp only [Tr.tiles, Tr.gaps, List.countP_nil, List.countP_cons, Nat.zero_add]
  | .leaf w, d, b, _ => by
    simp only [Tr.tiles, Tr.gaps, List.countP_nil, List.countP_cons, Nat.zero_add, Nat.add_zero]
  | .node l r, d, b, h0 => by
    have h1 := Tr.count k x y l (d + 1) (2 * b) (by omega)
    have h2 := Tr.count k x y r (d + 1) (2 * b + 1) (by omega)
    have h3 := hit_half k x y (d := d) (b := b) h0
    unfold Tr.tiles Tr.gaps
    split
    · next hb =>
      rw [Bool.and_eq_true] at hb
      rw [(Tr.bare_tiles l (d + 1) (2 * b)).1 hb.1, (Tr.bare_tiles r (d + 1) (2 * b + 1)).1 hb.2]
      simp only [List.append_nil, List.countP_nil, List.countP_cons, Nat.zero_add]
    · rw [List.countP_append, List.countP_append]
      omega
/-- A sum over a list. -/
def sumG {α : Type} (f : α → Int) : List α → Int
  | [] => 0
  | r :: l => f r + sumG f l
theorem sumG_app {α : Type} (f : α → Int) (l m : List α) : sumG f (l ++ m) = sumG f l + sumG f m := by
  induction l with
  | nil => exact (Int.zero_add _).symm
  | cons r l ih => show f r + sumG f (l ++ m) = f r + sumG f l + sumG f m; rw [ih]; omega
/-- How many cells a zone of depth d has. -/
def zA (k d : Int) : Int := 2 ^ (2 * k - d).toNat
theorem zA_half {k d : Int} (h : d < 2 * k) : zA k (d + 1) + zA k (d + 1) = zA k d := by
  unfold zA
  rw [show (2 * k - d).toNat = (2 * k - (d + 1)).toNat + 1 by omega, p2_succ]
  omega
theorem Tr.area (k : Int) : ∀ (t : Tr) (d b : Int), d + t.high ≤ 2 * k → sumG (fun s => zA k s.d) (t.tiles d b) + sumG (fun s => zA k s.1) (t.gaps d b) = zA k d
  | .gap, d, b, _ => by show 0 + (zA k d + 0) = zA k d; omega
  | .leaf w, d, b, _ => by show zA k d + 0 + 0 = zA k d; omega
  | .node l r, d, b, hh => by
    simp only [Tr.high] at hh
    have h1 := Tr.area k l (d + 1) (2 * b) (by omega)
    have h2 := Tr.area k r (d + 1) (2 * b + 1) (by omega)
    have h3 := zA_half (k := k) (d := d) (by omega)
    unfold Tr.tiles Tr.gaps
    split
    · next hb =>
      rw [Bool.and_eq_true] at hb
      rw [(Tr.bare_tiles l (d + 1) (2 * b)).1 hb.1, (Tr.bare_tiles r (d + 1) (2 * b + 1)).1 hb.2]
      show 0 + (zA k d + 0) = zA k d
      omega
    · rw [sumG_app, sumG_app]
      omega
end Go.Proofs.Ytbbnojfecmocgaa
