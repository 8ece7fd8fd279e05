/- The document's shape of a tree: quarters, column by column; pure. gleberef08: shape, Shape. -/
import Derived.Test.YthfhpejpjiaikaaGreatK05
import Derived.Test.YthfhpejpjiaikaaGreatK24
import Derived.Test.YthfhpejpjiaikaaGreatK25
import Derived.Test.YthfhpejpjiaikaaGreatK36
namespace Go.Proofs.YthfhpejpjiaikaaGreat
set_option linter.unusedVariables false
set_option linter.unusedSimpArgs false
def P2 (n : Int) : Prop := ∃ m : Nat, n = 2 ^ m
theorem P2.pos {n : Int} (h : P2 n) : 1 ≤ n := by
  obtain ⟨m, rfl⟩ := h
  have := p2_pos m
  omega
theorem P2.cut {n : Int} (h : P2 n) : n = 1 ∨ ∃ u, n = 2 * u ∧ P2 u := by
  obtain ⟨m, rfl⟩ := h
  cases m with
  | zero => exact .inl rfl
  | succ m => exact .inr ⟨2 ^ m, by rw [Int.pow_succ, Int.mul_comm], m, rfl⟩
theorem P2.one : P2 1 := ⟨0, rfl⟩
theorem zone_p2 {k d b : Int} (ho : okP k d b = true) : P2 (zoneR k d b).w ∧ P2 (zoneR k d b).h := by
  obtain ⟨n, hk, hn1, hn16, hs⟩ := ok_nat ho
  obtain ⟨h1, h2, h3, h4, h5, h6⟩ := (okP_iff k d b).1 ho
  have hf := okP_fine ho
  obtain ⟨m, hm⟩ : ∃ m : Nat, d = (m : Int) := ⟨d.toNat, by omega⟩
  have v1 := corF_val (n := n) hn1 hn16 hf (by omega) m (by omega)
  have hz : zoneR k d b = ⟨xs d b m * 2 ^ (n - hx m), ys d b m * 2 ^ (n - hy m), 2 ^ (n - hx m), 2 ^ (n - hy m)⟩ := by
    unfold zoneR; rw [cnt_yes hf, show d.toNat = m by omega, hs, v1]
  rw [hz]
  exact ⟨⟨_, rfl⟩, ⟨_, rfl⟩⟩
/-- How a rectangle is cut: nx columns, ny rows, of u times t. -/
structure Cut (a : Rc) (nx ny : Nat) (u t : Int) : Prop where
  hx : (nx = 1 ∧ a.w = 1 ∧ u = 1) ∨ (nx = 2 ∧ a.w = 2 * u)
  hy : (ny = 1 ∧ a.h = 1 ∧ t = 1) ∨ (ny = 2 ∧ a.h = 2 * t)
  pu : P2 u
  pt : P2 t
theorem cut_of {a : Rc} (hw : P2 a.w) (hh : P2 a.h) : ∃ nx ny u t, Cut a nx ny u t := by
  rcases hw.cut with e1 | ⟨u, e1, p1⟩
  · rcases hh.cut with e2 | ⟨t, e2, p2⟩
    · exact ⟨1, 1, 1, 1, .inl ⟨rfl, e1, rfl⟩, .inl ⟨rfl, e2, rfl⟩, P2.one, P2.one⟩
    · exact ⟨1, 2, 1, t, .inl ⟨rfl, e1, rfl⟩, .inr ⟨rfl, e2⟩, P2.one, p2⟩
  · rcases hh.cut with e2 | ⟨t, e2, p2⟩
    · exact ⟨2, 1, u, 1, .inr ⟨rfl, e1⟩, .inl ⟨rfl, e2, rfl⟩, p1, P2.one⟩
    · exact ⟨2, 2, u, t, .inr ⟨rfl, e1⟩, .inr ⟨rfl, e2⟩, p1, p2⟩
section
variable {a : Rc} {nx ny : Nat} {u t : Int}
theorem Cut.sub (c : Cut a nx ny u t) {i j : Nat} (hi : i < nx) (hj : j < ny) : qtr a (i + 2 * j) = ⟨a.x + i * u, a.y + j * t, u, t⟩ := by
  have hu := c.pu.pos
  have ht := c.pt.pos
  obtain ⟨ax, ay, aw, ah⟩ := a
  have h1 : (i + 2 * j) % 2 = i % 2 := by omega
  have h2 : (i + 2 * j) / 2 = i / 2 + j := by omega
  have e1 := c.hx
  have e2 := c.hy
  dsimp only at e1 e2
  unfold qtr
  rw [h1, h2]
  have hi2 : i / 2 = 0 := by omega
  have hi3 : i % 2 = i := by omega
  rw [hi2, hi3, Nat.zero_add]
  have k1 : aw - aw / 2 = u := by omega
  have k2 : ah - ah / 2 = t := by omega
  have k3 : (if i = 0 then aw - aw / 2 else aw / 2) = u := by split <;> omega
  have k4 : (if j = 0 then ah - ah / 2 else ah / 2) = t := by split <;> omega
  dsimp only
  rw [k3, k4, k1, k2]
theorem Cut.ne (c : Cut a nx ny u t) {i j : Nat} (hi : i < nx) (hj : j < ny) : neR (qtr a (i + 2 * j)) = true := by
  have hu := c.pu.pos
  have ht := c.pt.pos
  rw [c.sub hi hj]
  unfold neR
  exact decide_eq_true (by dsimp only; omega)
theorem Cut.emX (c : Cut a 1 ny u t) {m : Nat} (hm : m % 2 = 1) : neR (qtr a m) = false := by
  have h1 : a.w = 1 := by have := c.hx; omega
  unfold neR qtr
  rw [hm, h1]
  exact decide_eq_false (by simp)
theorem Cut.emY (c : Cut a nx 1 u t) {m : Nat} (hm : m / 2 = 1) : neR (qtr a m) = false := by
  have h1 : a.h = 1 := by have := c.hy; omega
  unfold neR qtr
  rw [hm, h1]
  exact decide_eq_false (by simp)
end
abbrev T3 := Int × Int × Int
def stepQ (dep : Int) (s p : T3) : T3 := (s.1 + p.1, s.2.1 + p.2.1, max s.2.2 (dep + 1 + p.2.2))
def innerQ (dep : Int) (p : Nat → T3) (s : T3) : Nat → T3
  | 0 => s
  | j + 1 => stepQ dep (innerQ dep p s j) (p j)
def outerQ (dep : Int) (p : Nat → Nat → T3) (ny : Nat) : Nat → T3
  | 0 => (1, 0, dep)
  | i + 1 => innerQ dep (p i) (outerQ dep p ny i) ny
/-- The four quarters' shapes, with what stands for an empty one. -/
def quadP (f : Nat) (a : Rc) (L : List Rq) (i : Nat) : T3 := if neR (qtr a i) = true then shQ f (qtr a i) (L.filter (inQ (qtr a i))) else (0, 0, -1)
theorem shQ_quad {f : Nat} {a : Rc} {L : List Rq} (h : ¬ (L.length ≤ 4 ∨ a.w * a.h ≤ 1)) : shQ (f + 1) a L = shP (quadP f a L) := by
  show (if L.length ≤ 4 ∨ a.w * a.h ≤ 1 then _ else _) = _
  rw [if_neg h]; rfl
theorem shQ_leaf {f : Nat} {a : Rc} {L : List Rq} (h : L.length ≤ 4 ∨ a.w * a.h ≤ 1) : shQ f a L = (1, 1, 0) := by
  cases f with
  | zero => rfl
  | succ f =>
    show (if L.length ≤ 4 ∨ a.w * a.h ≤ 1 then _ else _) = _
    rw [if_pos h]
/-- Which sizes a shape's numbers have. -/
def BdQ (w h : Int) (s : T3) : Prop := (1 ≤ s.1 ∧ s.1 ≤ 2 * (w * h) - 1) ∧ (0 ≤ s.2.1 ∧ s.2.1 ≤ s.1) ∧ (0 ≤ s.2.2 ∧ s.2.2 ≤ w + h)
theorem mul_pos1 {w h : Int} (hw : 1 ≤ w) (hh : 1 ≤ h) : 1 ≤ w * h := by
  have := Int.mul_le_mul hw hh (by omega) (by omega)
  omega
theorem shQ_bd : ∀ (f : Nat) (a : Rc) (L : List Rq), P2 a.w → P2 a.h → BdQ a.w a.h (shQ f a L)
  | 0, a, L, hw, hh => by
    have h1 := hw.pos; have h2 := hh.pos; have h3 := mul_pos1 h1 h2
    show BdQ a.w a.h (1, 1, 0)
    unfold BdQ; dsimp only; omega
  | f + 1, a, L, hw, hh => by
    have h1 := hw.pos; have h2 := hh.pos; have h3 := mul_pos1 h1 h2
    by_cases hl : L.length ≤ 4 ∨ a.w * a.h ≤ 1
    · rw [shQ_leaf hl]
      unfold BdQ; dsimp only; omega
    · rw [shQ_quad hl]
      obtain ⟨nx, ny, u, t, c⟩ := cut_of hw hh
      have hu := c.pu.pos; have ht := c.pt.pos; have hut := mul_pos1 hu ht
      have key : ∀ i j, i < nx → j < ny → BdQ u t (quadP f a L (i + 2 * j)) := fun i j hi hj => by
        unfold quadP
        rw [if_pos (c.ne hi hj), c.sub hi hj]
        exact shQ_bd f _ _ c.pu c.pt
      unfold BdQ at key ⊢
      rcases c.hx with ⟨rfl, w1, rfl⟩ | ⟨rfl, w1⟩
      · have e1 : quadP f a L 1 = (0, 0, -1) := if_neg (by rw [c.emX rfl]; exact Bool.false_ne_true)
        have e3 : quadP f a L 3 = (0, 0, -1) := if_neg (by rw [c.emX rfl]; exact Bool.false_ne_true)
        rcases c.hy with ⟨rfl, g1, rfl⟩ | ⟨rfl, g1⟩
        · exact absurd (.inr (by rw [w1, g1]; decide)) hl
        · have k0 := key 0 0 (by decide) (by decide)
          have k2 := key 0 1 (by decide) (by decide)
          simp only [shP, e1, e3, w1, g1, Int.one_mul] at k0 k2 ⊢
          simp only [Nat.mul_one, Nat.mul_zero, Nat.add_zero, Nat.zero_add] at k0 k2
          omega
      · rcases c.hy with ⟨rfl, g1, rfl⟩ | ⟨rfl, g1⟩
        · have e2 : quadP f a L 2 = (0, 0, -1) := if_neg (by rw [c.emY rfl]; exact Bool.false_ne_true)
          have e3 : quadP f a L 3 = (0, 0, -1) := if_neg (by rw [c.emY rfl]; exact Bool.false_ne_true)
          have k0 := key 0 0 (by decide) (by decide)
          have k1 := key 1 0 (by decide) (by decide)
          simp only [shP, e2, e3, w1, g1, Int.mul_one] at k0 k1 ⊢
          simp only [Nat.mul_one, Nat.mul_zero, Nat.add_zero, Nat.zero_add] at k0 k1
          omega
        · have k0 := key 0 0 (by decide) (by decide)
          have k1 := key 1 0 (by decide) (by decide)
          have k2 := key 0 1 (by decide) (by decide)
          have k3 := key 1 1 (by decide) (by decide)
          have e4 : 2 * u * (2 * t) = 2 * (2 * (u * t)) := by rw [Int.mul_assoc, Int.mul_left_comm u 2 t]
          simp only [shP, w1, g1, e4] at k0 k1 k2 k3 ⊢
          simp only [Nat.mul_one, Nat.mul_zero, Nat.add_zero, Nat.zero_add, Nat.reduceAdd] at k0 k1 k2 k3
          generalize u * t = A at *
          omega
/-- The doc's loops come to the shape. -/
theorem outer_sh {f : Nat} {a : Rc} {L : List Rq} {nx ny : Nat} {u t : Int} (c : Cut a nx ny u t) (hl : ¬ (L.length ≤ 4 ∨ a.w * a.h ≤ 1)) (dep : Int) :
    outerQ dep (fun i j => shQ f (qtr a (i + 2 * j)) (L.filter (inQ (qtr a (i + 2 * j))))) ny nx = ((shQ (f + 1) a L).1, (shQ (f + 1) a L).2.1, dep + (shQ (f + 1) a L).2.2) := by
  have key : ∀ i j, i < nx → j < ny → quadP f a L (i + 2 * j) = shQ f (qtr a (i + 2 * j)) (L.filter (inQ (qtr a (i + 2 * j)))) := fun i j hi hj => if_pos (c.ne hi hj)
  have bd : ∀ i j, i < nx → j < ny → 0 ≤ (quadP f a L (i + 2 * j)).2.2 := fun i j hi hj => by
    rw [key i j hi hj]
    have := (shQ_bd f (qtr a (i + 2 * j)) (L.filter (inQ (qtr a (i + 2 * j)))) (by rw [c.sub hi hj]; exact c.pu) (by rw [c.sub hi hj]; exact c.pt)).2.2.1
    exact this
  rw [shQ_quad hl]
  rcases c.hx with ⟨rfl, w1, rfl⟩ | ⟨rfl, w1⟩
  · have e1 : quadP f a L 1 = (0, 0, -1) := if_neg (by rw [c.emX rfl]; exact Bool.false_ne_true)
    have e3 : quadP f a L 3 = (0, 0, -1) := if_neg (by rw [c.emX rfl]; exact Bool.false_ne_true)
    rcases c.hy with ⟨rfl, g1, rfl⟩ | ⟨rfl, g1⟩
    · exact absurd (.inr (by rw [w1, g1]; decide)) hl
    · have k0 := key 0 0 (by decide) (by decide)
      have k2 := key 0 1 (by decide) (by decide)
      have b0 := bd 0 0 (by decide) (by decide)
      have b2 := bd 0 1 (by decide) (by decide)
      simp only [outerQ, innerQ, stepQ, ← k0, ← k2, shP, e1, e3]
      simp only [Nat.mul_one, Nat.mul_zero, Nat.add_zero, Nat.zero_add] at b0 b2 ⊢
      refine Prod.ext ?_ (Prod.ext ?_ ?_) <;> dsimp only <;> omega
  · rcases c.hy with ⟨rfl, g1, rfl⟩ | ⟨rfl, g1⟩
    · have e2 : quadP f a L 2 = (0, 0, -1) := if_neg (by rw [c.emY rfl]; exact Bool.false_ne_true)
      have e3 : quadP f a L 3 = (0, 0, -1) := if_neg (by rw [c.emY rfl]; exact Bool.false_ne_true)
      have k0 := key 0 0 (by decide) (by decide)
      have k1 := key 1 0 (by decide) (by decide)
      have b0 := bd 0 0 (by decide) (by decide)
      have b1 := bd 1 0 (by decide) (by decide)
      simp only [outerQ, innerQ, stepQ, ← k0, ← k1, shP, e2, e3]
      simp only [Nat.mul_one, Nat.mul_zero, Nat.add_zero, Nat.zero_add] at b0 b1 ⊢
      refine Prod.ext ?_ (Prod.ext ?_ ?_) <;> dsimp only <;> omega
    · have k0 := key 0 0 (by decide) (by decide)
      have k1 := key 1 0 (by decide) (by decide)
      have k2 := key 0 1 (by decide) (by decide)
      have k3 := key 1 1 (by decide) (by decide)
      have b0 := bd 0 0 (by decide) (by decide)
      have b1 := bd 1 0 (by decide) (by decide)
      have b2 := bd 0 1 (by decide) (by decide)
      have b3 := bd 1 1 (by decide) (by decide)
      simp only [outerQ, innerQ, stepQ, ← k0, ← k1, ← k2, ← k3, shP]
      simp only [Nat.mul_one, Nat.mul_zero, Nat.add_zero, Nat.zero_add, Nat.reduceAdd] at b0 b1 b2 b3 ⊢
      refine Prod.ext ?_ (Prod.ext ?_ ?_) <;> dsimp only <;> omega
/-- No sum on the way is great. -/
theorem inner_bd {dep C : Int} {p : Nat → T3} {s : T3} : ∀ j : Nat, (∀ m, m < j → (0 ≤ (p m).1 ∧ (p m).1 ≤ C) ∧ (0 ≤ (p m).2.1 ∧ (p m).2.1 ≤ C)) → (s.1 ≤ (innerQ dep p s j).1 ∧ (innerQ dep p s j).1 ≤ s.1 + j * C) ∧ (s.2.1 ≤ (innerQ dep p s j).2.1 ∧ (innerQ dep p s j).2.1 ≤ s.2.1 + j * C)
  | 0, _ => by simp [innerQ]
  | j + 1, h => by
    have ih := inner_bd (dep := dep) (s := s) j (fun m hm => h m (by omega))
    have hj := h j (by omega)
    have e : ((j + 1 : Nat) : Int) * C = j * C + C := by rw [Int.natCast_add, Int.add_mul]; simp
    simp only [innerQ, stepQ]
    rw [e]
    omega
theorem outer_bd {dep C : Int} {p : Nat → Nat → T3} {ny : Nat} (hC : 0 ≤ C) : ∀ i : Nat, (∀ m n, m < i → n < ny → (0 ≤ (p m n).1 ∧ (p m n).1 ≤ C) ∧ (0 ≤ (p m n).2.1 ∧ (p m n).2.1 ≤ C)) → (1 ≤ (outerQ dep p ny i).1 ∧ (outerQ dep p ny i).1 ≤ 1 + i * (ny * C)) ∧ (0 ≤ (outerQ dep p ny i).2.1 ∧ (outerQ dep p ny i).2.1 ≤ i * (ny * C))
  | 0, _ => by simp [outerQ]
  | i + 1, h => by
    have ih := outer_bd (dep := dep) hC i (fun m n hm hn => h m n (by omega) hn)
    have hi := inner_bd (dep := dep) (C := C) (p := p i) (s := outerQ dep p ny i) ny (fun m hm => h i m (by omega) hm)
    have e : ((i + 1 : Nat) : Int) * (ny * C) = i * (ny * C) + ny * C := by rw [Int.natCast_add, Int.add_mul]; simp
    simp only [outerQ]
    rw [e]
    omega
theorem sums_bd {dep C : Int} {p : Nat → Nat → T3} {nx ny i j : Nat} (hC : 0 ≤ C) (hp : ∀ m n, m < nx → n < ny → (0 ≤ (p m n).1 ∧ (p m n).1 ≤ C) ∧ (0 ≤ (p m n).2.1 ∧ (p m n).2.1 ≤ C)) (hnx : nx ≤ 2) (hny : ny ≤ 2) (hi : i < nx) (hj : j ≤ ny) :
    (1 ≤ (innerQ dep (p i) (outerQ dep p ny i) j).1 ∧ (innerQ dep (p i) (outerQ dep p ny i) j).1 ≤ 1 + 6 * C) ∧ (0 ≤ (innerQ dep (p i) (outerQ dep p ny i) j).2.1 ∧ (innerQ dep (p i) (outerQ dep p ny i) j).2.1 ≤ 6 * C) := by
  have h1 := outer_bd (dep := dep) (p := p) (ny := ny) hC i (fun m n hm hn => hp m n (by omega) hn)
  have h2 := inner_bd (dep := dep) (C := C) (p := p i) (s := outerQ dep p ny i) j (fun m hm => hp i m hi (by omega))
  have a1 : (ny : Int) * C ≤ 2 * C := Int.mul_le_mul_of_nonneg_right (by omega) hC
  have a2 : (j : Int) * C ≤ 2 * C := Int.mul_le_mul_of_nonneg_right (by omega) hC
  have a3 : (0 : Int) ≤ (ny : Int) * C := Int.mul_nonneg (by omega) hC
  have a4 : (i : Int) * ((ny : Int) * C) ≤ 2 * ((ny : Int) * C) := Int.mul_le_mul_of_nonneg_right (by omega) a3
  omega
theorem Cut.two {a : Rc} {nx ny : Nat} {u t : Int} (c : Cut a nx ny u t) : (1 ≤ nx ∧ nx ≤ 2) ∧ (1 ≤ ny ∧ ny ≤ 2) := by
  have := c.hx; have := c.hy; omega
theorem Cut.col {a : Rc} {nx ny : Nat} {u t : Int} (c : Cut a nx ny u t) {i : Nat} (hi : i ≤ nx) : 0 ≤ (i : Int) * u ∧ (i < nx → (i : Int) * u + u ≤ a.w) ∧ (i = nx → (i : Int) * u = a.w) ∧ ((i + 1 : Nat) : Int) * u = (i : Int) * u + u := by
  have hu := c.pu.pos
  have e : ((i + 1 : Nat) : Int) * u = (i : Int) * u + u := by rw [Int.natCast_add, Int.add_mul]; simp
  refine ⟨Int.mul_nonneg (by omega) (by omega), ?_, ?_, e⟩
  · rcases c.hx with ⟨rfl, h1, h2⟩ | ⟨rfl, h1⟩
    · intro h; obtain rfl : i = 0 := by omega
      simp; omega
    · intro h
      rcases (show i = 0 ∨ i = 1 by omega) with rfl | rfl <;> simp <;> omega
  · rcases c.hx with ⟨rfl, h1, h2⟩ | ⟨rfl, h1⟩
    · rintro rfl; simp; omega
    · rintro rfl; simp; omega
theorem Cut.row {a : Rc} {nx ny : Nat} {u t : Int} (c : Cut a nx ny u t) {j : Nat} (hj : j ≤ ny) : 0 ≤ (j : Int) * t ∧ (j < ny → (j : Int) * t + t ≤ a.h) ∧ (j = ny → (j : Int) * t = a.h) ∧ ((j + 1 : Nat) : Int) * t = (j : Int) * t + t := by
  have ht := c.pt.pos
  have e : ((j + 1 : Nat) : Int) * t = (j : Int) * t + t := by rw [Int.natCast_add, Int.add_mul]; simp
  refine ⟨Int.mul_nonneg (by omega) (by omega), ?_, ?_, e⟩
  · rcases c.hy with ⟨rfl, h1, h2⟩ | ⟨rfl, h1⟩
    · intro h; obtain rfl : j = 0 := by omega
      simp; omega
    · intro h
      rcases (show j = 0 ∨ j = 1 by omega) with rfl | rfl <;> simp <;> omega
  · rcases c.hy with ⟨rfl, h1, h2⟩ | ⟨rfl, h1⟩
    · rintro rfl; simp; omega
    · rintro rfl; simp; omega
end Go.Proofs.YthfhpejpjiaikaaGreat
namespace Go.Proofs.YthfhpejpjiaikaaGreat
open Go.RowKit
attribute [local go_sem] Oper.semAt_some
set_option linter.unusedVariables false
set_option linter.unusedSimpArgs false
/-- What shape answers, of rectangles that f steps part. -/
def DShC (f : Nat) : Prop := ∀ (gr : Nat) (k d b : Int) (L : List Rq) (v : Value) (W : World) (ax ay aw ah dep : Int), DocO gr k d b L v W → Good ⟨ax, ay, aw, ah⟩ → P2 aw → P2 ah → L.length ≤ 900 → 0 ≤ dep → dep + (aw + ah) ≤ 200000 → (aw + ah).toNat ≤ f → ∀ x y z : Int, shQ f ⟨ax, ay, aw, ah⟩ (L.filter (inQ ⟨ax, ay, aw, ah⟩)) = (x, y, z) →
  Calls Tryz.prog 66 #[.pointer (some ⟨gr, 0, none⟩), .agg #[.int .i64 ax, .int .i64 ay, .int .i64 aw, .int .i64 ah], .int .i64 dep] W fun e W' => e = .returned (.tuple #[.int .i64 x, .int .i64 y, .int .i64 (dep + z)]) ∧ Below W.heap.size W W'
set_option maxRecDepth 100000 in
set_option maxHeartbeats 6400000 in
theorem dshape_step {f : Nat} (ih : DShC f) : DShC (f + 1) := by
  intro gr k d b L v w ax ay aw ah dep h hg hpw hph hl hd0 hd1 hf x y z hS
  obtain ⟨M, hM⟩ : ∃ M, L.filter (inQ ⟨ax, ay, aw, ah⟩) = M := ⟨_, rfl⟩
  rw [hM] at hS
  obtain ⟨nM, hnM⟩ : ∃ n, M.length = n := ⟨_, rfl⟩
  have HM := Lib.hid hnM
  obtain ⟨w0, hw0⟩ : ∃ w0, w0 = w.alloc (.cells #[.int .i64 ax, .int .i64 ay, .int .i64 aw, .int .i64 ah] 112) := ⟨_, rfl⟩
  have hs0 : Since w w0 := by rw [hw0]; exact (Since.refl w).alloc _
  have wh0 : Whole w0 (w.heap.size) 112 #[.int .i64 ax, .int .i64 ay, .int .i64 aw, .int .i64 ah] := by rw [hw0]; exact Whole.new w _ _
  have HW := Lib.hid hw0
  have c0_0 := box_cell wh0 0 (.int .i64 ax) rfl
  have c0_1 := box_cell wh0 1 (.int .i64 ay) rfl
  have c0_2 := box_cell wh0 2 (.int .i64 aw) rfl
  have c0_3 := box_cell wh0 3 (.int .i64 ah) rfl
  have hsr := Since.refl w0
  have hsd := hsr.drew
  clear hw0 wh0
  have hin := fun W (hW : Since w0 W) => din_any (h.since (hs0.trans hW)) hl ax ay aw ah
  rw [hM] at hin
  have HI := Lib.hid hin
  have HS0 := Lib.hid hs0
  have w1' := hg.w1
  have h1' := hg.h1
  dsimp only at w1' h1'
  by_cases c1 : nM ≤ 4
  · have e := shQ_leaf (f := f + 1) (a := ⟨ax, ay, aw, ah⟩) (L := M) (.inl (by rw [hnM]; exact c1))
    rw [hS] at e
    injection e with e1 e2
    injection e2 with e2 e3
    subst e1 e2 e3
    have d1 : (nM : Int) ≤ 4 := by omega
    have d2 : decide ((nM : Int) ≤ 4) = true := decide_eq_true d1
    clear h hg hpw hph hS hf hM hnM hs0 hin
    go_enter Tryz.func66, Tryz.ntmps66
    go_wp2_with fail
    rw [← HW.out]
    go_wp2_with (go_at_call 95; (with_reducible refine (HI.out _ hsr).mono ?_); rintro e w1 ⟨vM, rfl, hrM, hb1⟩; obtain ⟨xm, xc, rfl⟩ := RowE.shp hrM; (have hs1 : Since w0 w1 := hb1); rw [HM.out])
    go_ret3
    exact ⟨by rw [Int.add_zero]; rfl, HS0.out.trans hs1⟩
  · have d1 : ¬ ((nM : Int) ≤ 4) := by omega
    have d2 : decide ((nM : Int) ≤ 4) = false := decide_eq_false d1
    by_cases c2 : aw * ah ≤ 1
    · have e := shQ_leaf (f := f + 1) (a := ⟨ax, ay, aw, ah⟩) (L := M) (.inr c2)
      rw [hS] at e
      injection e with e1 e2
      injection e2 with e2 e3
      subst e1 e2 e3
      have hw1 : aw = 1 := by
        have h3 := Int.mul_le_mul (Int.le_refl aw) h1' (by omega) (by omega)
        omega
      have hh1 : ah = 1 := by
        rw [hw1, Int.one_mul] at c2
        omega
      subst hw1 hh1
      clear h hg hpw hph hS hf hM hnM hs0 hin c2 w1' h1'
      go_enter Tryz.func66, Tryz.ntmps66
      go_wp2_with fail
      rw [← HW.out]
      go_wp2_with (go_at_call 95; (with_reducible refine (HI.out _ hsr).mono ?_); rintro e w1 ⟨vM, rfl, hrM, hb1⟩; obtain ⟨xm, xc, rfl⟩ := RowE.shp hrM; (have hs1 : Since w0 w1 := hb1); rw [HM.out])
      go_ret3
      exact ⟨by rw [Int.add_zero]; rfl, HS0.out.trans hs1⟩
    · have hnl : ¬ (M.length ≤ 4 ∨ (⟨ax, ay, aw, ah⟩ : Rc).w * (⟨ax, ay, aw, ah⟩ : Rc).h ≤ 1) := by rw [hnM]; exact fun z => z.elim c1 c2
      obtain ⟨nx, ny, u, t, c⟩ := cut_of (a := ⟨ax, ay, aw, ah⟩) hpw hph
      have hcc := c.hx
      have hcr := c.hy
      dsimp only at hcc hcr
      have hu := c.pu.pos
      have ht := c.pt.pos
      obtain ⟨B1, hB1⟩ : ∃ B, (aw == 1) = B := ⟨_, rfl⟩
      obtain ⟨B2, hB2⟩ : ∃ B, (ah == 1) = B := ⟨_, rfl⟩
      have hBB : (B1 && B2) = false := by
        rw [← hB1, ← hB2, Bool.and_eq_false_iff, beq_eq_false_iff_ne, beq_eq_false_iff_ne]
        by_cases q1 : aw = 1
        · refine .inr (fun q2 => c2 ?_)
          rw [q1, q2]; decide
        · exact .inl q1
      have hos := outer_sh (f := f) c hnl dep
      rw [hS] at hos
      dsimp only at hos
      obtain ⟨p, hp⟩ : ∃ p, (fun i j => shQ f (qtr ⟨ax, ay, aw, ah⟩ (i + 2 * j)) (M.filter (inQ (qtr ⟨ax, ay, aw, ah⟩ (i + 2 * j))))) = p := ⟨_, rfl⟩
      rw [hp] at hos
      have g1 := hg.x0; have g2 := hg.y0; have g3 := hg.x1; have g4 := hg.y1
      dsimp only at g1 g2 g3 g4
      have hsd1 : IntKind.i64.wrap (dep + 1) = dep + 1 := IntWalk.i64_in _ (by omega)
      have hsx : IntKind.i64.wrap (ax + aw) = ax + aw := IntWalk.i64_in _ (by omega)
      have hsy : IntKind.i64.wrap (ay + ah) = ay + ah := IntWalk.i64_in _ (by omega)
      have hu2 : max 1 (aw / 2) = u := by omega
      have ht2 : max 1 (ah / 2) = t := by omega
      have HIH := Lib.hid (fun (i j : Nat) (hi : i < nx) (hj : j < ny) W (hW : Since w0 W) => (show Calls Tryz.prog 66 #[.pointer (some ⟨gr, 0, none⟩), .agg #[.int .i64 (ax + i * u), .int .i64 (ay + j * t), .int .i64 u, .int .i64 t], .int .i64 (dep + 1)] W fun e W' => e = .returned (.tuple #[.int .i64 (p i j).1, .int .i64 (p i j).2.1, .int .i64 (dep + 1 + (p i j).2.2)]) ∧ Below W.heap.size W W' from by
        have hq := c.sub hi hj
        have hn := c.ne hi hj
        have hgq := qtr_good hg (i := i + 2 * j) (by omega) hn
        have hless := qtr_less hg (by dsimp only; omega) (i := i + 2 * j) (by omega)
        have hfl : M.filter (inQ (qtr ⟨ax, ay, aw, ah⟩ (i + 2 * j))) = L.filter (inQ (qtr ⟨ax, ay, aw, ah⟩ (i + 2 * j))) := by
          rw [← hM, List.filter_filter]
          refine List.filter_congr (fun s _ => ?_)
          cases hs : inQ (qtr ⟨ax, ay, aw, ah⟩ (i + 2 * j)) s with
          | false => rfl
          | true => rw [show inQ ⟨ax, ay, aw, ah⟩ s = true from qtr_sub hg (by omega) hn hs]; rfl
        have hpv : p i j = shQ f (qtr ⟨ax, ay, aw, ah⟩ (i + 2 * j)) (L.filter (inQ (qtr ⟨ax, ay, aw, ah⟩ (i + 2 * j)))) := by rw [← hp, ← hfl]
        rw [hq] at hgq hless hpv
        dsimp only at hless
        exact ih gr k d b L v W _ _ _ _ _ (h.since (hs0.trans hW)) hgq c.pu c.pt hl (by omega) (by omega) (by omega) _ _ _ hpv.symm))
      have hpb : ∀ i j, i < nx → j < ny → (0 ≤ (p i j).1 ∧ (p i j).1 ≤ 8589934592) ∧ (0 ≤ (p i j).2.1 ∧ (p i j).2.1 ≤ 8589934592) ∧ (0 ≤ (p i j).2.2 ∧ (p i j).2.2 ≤ 131072) := fun i j hi hj => by
        have hb := shQ_bd f (qtr ⟨ax, ay, aw, ah⟩ (i + 2 * j)) (M.filter (inQ (qtr ⟨ax, ay, aw, ah⟩ (i + 2 * j)))) (by rw [c.sub hi hj]; exact c.pu) (by rw [c.sub hi hj]; exact c.pt)
        rw [show shQ f (qtr ⟨ax, ay, aw, ah⟩ (i + 2 * j)) (M.filter (inQ (qtr ⟨ax, ay, aw, ah⟩ (i + 2 * j)))) = p i j by rw [← hp], c.sub hi hj] at hb
        obtain ⟨⟨h1, h2⟩, ⟨h3, h4⟩, h5, h6⟩ := hb
        dsimp only at h2 h6
        have hut : u * t ≤ 65536 * 65536 := Int.mul_le_mul (by omega) (by omega) (by omega) (by omega)
        omega
      have HPB := Lib.hid hpb
      have HC := Lib.hid (And.intro c hos)
      obtain ⟨rfl, hB3⟩ | ⟨rfl, rfl⟩ : (B1 = false ∧ True) ∨ (B1 = true ∧ B2 = false) := by
        cases B1 with
        | false => exact .inl ⟨rfl, trivial⟩
        | true => exact .inr ⟨rfl, by simpa using hBB⟩
      all_goals
        clear h hg hpw hph hS hf hM hnM hs0 hin c2 hnl hos hp hpb c hBB
        go_enter Tryz.func66, Tryz.ntmps66
        go_wp2_with fail
        rw [← HW.out]
        go_wp2_with (go_at_call 95; (with_reducible refine (HI.out _ hsr).mono ?_); rintro e w1 ⟨vM, rfl, hrM, hb1⟩; obtain ⟨xm, xc, rfl⟩ := RowE.shp hrM; (have hs1 : Since w0 w1 := hb1); rw [HM.out])
        have HS1 := Lib.hid (HS0.out.trans hs1)
        have h0 := hs1
        clear hrM hb1 hs1 HI
        go_loopw [9, 10, 11, 14] (fun nn ll dd xx wr => ∃ i : Nat, i ≤ nx ∧ nn = .int .i64 (outerQ dep p ny i).1 ∧ ll = .int .i64 (outerQ dep p ny i).2.1 ∧ dd = .int .i64 (outerQ dep p ny i).2.2 ∧ xx = .int .i64 (ax + i * u) ∧ Since w0 wr) (fun _ _ _ xx _ => (ax + aw - intOf xx).toNat)
        case atStart => exact ⟨0, Nat.zero_le _, rfl, rfl, rfl, by simp, h0⟩
        case round =>
          obtain ⟨i, hi, rfl, rfl, rfl, rfl, hwr⟩ := hrel
          clear h0
          obtain ⟨⟨sn, sl, sd⟩, hS⟩ : ∃ S, outerQ dep p ny i = S := ⟨_, rfl⟩
          obtain ⟨X, hX⟩ : ∃ X, ax + i * u = X := ⟨_, rfl⟩
          have hcol := HC.out.1.col hi
          dsimp only at hcol
          rw [hX]
          have HSX := Lib.hid (And.intro hS (And.intro hX hcol))
          by_cases hlt : i < nx
          · have hx1 : X < ax + aw := by have := hcol.2.1 hlt; omega
            have hx2 : decide (X < ax + aw) = true := decide_eq_true hx1
            have hx3 : IntKind.i64.wrap (X + u) = X + u := IntWalk.i64_in _ (by have := hcol.2.1 hlt; omega)
            have hnn : innerQ dep (p i) (outerQ dep p ny i) 0 = (sn, sl, sd) := hS
            rw [hS]
            have HWR := Lib.hid hwr
            clear hS hX hcol
            go_wp2_with fail
            go_loopw [9, 10, 11, 15] (fun nn ll dd yy wr => ∃ j : Nat, j ≤ ny ∧ nn = .int .i64 (innerQ dep (p i) (outerQ dep p ny i) j).1 ∧ ll = .int .i64 (innerQ dep (p i) (outerQ dep p ny i) j).2.1 ∧ dd = .int .i64 (innerQ dep (p i) (outerQ dep p ny i) j).2.2 ∧ yy = .int .i64 (ay + j * t) ∧ Since w0 wr) (fun _ _ _ yy _ => (ay + ah - intOf yy).toNat)
            case atStart => exact ⟨0, Nat.zero_le _, by rw [hnn], by rw [hnn], by rw [hnn], by simp, hwr⟩
            case round =>
              obtain ⟨j, hj, rfl, rfl, rfl, rfl, hwr2⟩ := hrel
              clear hwr hnn
              have hsb := sums_bd (dep := dep) (C := 8589934592) (p := p) (i := i) (j := j) (by decide) (fun m n hm hn => ⟨(HPB.out m n hm hn).1, (HPB.out m n hm hn).2.1⟩) HC.out.1.two.1.2 HC.out.1.two.2.2 hlt hj
              obtain ⟨⟨rn, rl, rd⟩, hR⟩ : ∃ R, innerQ dep (p i) (outerQ dep p ny i) j = R := ⟨_, rfl⟩
              obtain ⟨Y, hY⟩ : ∃ Y, ay + j * t = Y := ⟨_, rfl⟩
              have hrow := HC.out.1.row hj
              dsimp only at hrow
              rw [hR] at hsb ⊢
              rw [hY]
              have HRY := Lib.hid (And.intro hR (And.intro hY hrow))
              by_cases hlt2 : j < ny
              · have hy1 : Y < ay + ah := by have := hrow.2.1 hlt2; omega
                have hy2 : decide (Y < ay + ah) = true := decide_eq_true hy1
                have hy3 : IntKind.i64.wrap (Y + t) = Y + t := IntWalk.i64_in _ (by have := hrow.2.1 hlt2; omega)
                have hpb2 := HPB.out i j hlt hlt2
                have hcall := HIH.out i j hlt hlt2
                obtain ⟨⟨pn, pl, pd⟩, hP⟩ : ∃ P, p i j = P := ⟨_, rfl⟩
                rw [HSX.out.2.1, hY, hP] at hcall
                rw [hP] at hpb2
                dsimp only at hsb hpb2 hcall
                have hv1 : IntKind.i64.wrap (rn + pn) = rn + pn := IntWalk.i64_in _ (by omega)
                have hv2 : IntKind.i64.wrap (rl + pl) = rl + pl := IntWalk.i64_in _ (by omega)
                have HCL := Lib.hid hcall
                have HP := Lib.hid hP
                have HWR2 := Lib.hid hwr2
                clear hR hY hrow hsb hpb2 hcall hP
                go_wp2_with (go_at_call 66; (with_reducible refine (HCL.out _ HWR2.out).mono ?_); rintro e w9 ⟨rfl, hb9⟩)
                go_roundw
                case rel =>
                  have hin : innerQ dep (p i) (outerQ dep p ny i) (j + 1) = (rn + pn, rl + pl, max rd (dep + 1 + pd)) := by
                    show stepQ dep (innerQ dep (p i) (outerQ dep p ny i) j) (p i j) = _
                    rw [HRY.out.1, HP.out]
                    rfl
                  refine ⟨j + 1, hlt2, by rw [hin], by rw [hin], by rw [hin], ?_, HWR2.out.trans hb9⟩
                  rw [HRY.out.2.2.2.2.2, ← HRY.out.2.1, Int.add_assoc]
                case measure => simp [intOf]; omega
              · obtain rfl : j = ny := by omega
                have hy1 : ¬ (Y < ay + ah) := by have := hrow.2.2.1 rfl; omega
                have hy2 : decide (Y < ay + ah) = false := decide_eq_false hy1
                have HWR2 := Lib.hid hwr2
                clear hR hY hrow hsb
                go_wp2_with fail
                go_roundw
                case rel =>
                  have hin : outerQ dep p j (i + 1) = (rn, rl, rd) := HRY.out.1
                  refine ⟨i + 1, hlt, by rw [hin], by rw [hin], by rw [hin], ?_, HWR2.out⟩
                  rw [HSX.out.2.2.2.2.2, ← HSX.out.2.1, Int.add_assoc]
                case measure => simp [intOf]; omega
          · obtain rfl : i = nx := by omega
            have hx1 : ¬ (X < ax + aw) := by have := hcol.2.2.1 rfl; omega
            have hx2 : decide (X < ax + aw) = false := decide_eq_false hx1
            have hfin := HC.out.2
            have HWR := Lib.hid hwr
            clear hS hX hcol
            rw [hfin]
            dsimp only
            go_wp2_with fail
            go_ret3
            exact ⟨rfl, HS0.out.trans HWR.out⟩
theorem dshape_all : ∀ f : Nat, DShC f
  | 0 => fun gr k d b L v w ax ay aw ah dep h hg hpw hph hl hd0 hd1 hf => by
    have h1 := hg.w1; have h2 := hg.h1
    dsimp only at h1 h2
    omega
  | f + 1 => dshape_step (dshape_all f)
end Go.Proofs.YthfhpejpjiaikaaGreat
