/- quad: the shape of a tree: how many nodes, leaves, how deep: what the rectangle and the records ask: pure. -/
import Derived.Test.YthfhpejpjiaikaaGreatK28
import Derived.Test.YthfhpejpjiaikaaGreatK29
namespace Go.Proofs.YthfhpejpjiaikaaGreat
set_option linter.unusedVariables false
set_option linter.unusedSimpArgs false
def dpV (l : List (Int × QN)) : Int := l.foldl (fun m x => max m x.1) 0
def lvV (l : List (Int × QN)) : Nat := l.countP fun x => x.2.isLeaf
theorem dp_fold : ∀ (l : List (Int × QN)) (m : Int), 0 ≤ m → l.foldl (fun m x => max m x.1) m = max m (dpV l)
  | [], m, h => by simp [dpV]; omega
  | x :: l, m, h => by
    unfold dpV
    simp only [List.foldl_cons]
    rw [dp_fold l (max m x.1) (by omega), dp_fold l (max 0 x.1) (by omega)]
    omega
theorem dpV_nonneg (l : List (Int × QN)) : 0 ≤ dpV l := by
  have := dp_fold l 0 (Int.le_refl _)
  unfold dpV at this ⊢
  omega
theorem dpV_cons (x : Int × QN) (l : List (Int × QN)) : dpV (x :: l) = max (max 0 x.1) (dpV l) := by
  show (x :: l).foldl _ _ = _
  rw [List.foldl_cons, dp_fold l _ (by omega)]
theorem dpV_append (a b : List (Int × QN)) : dpV (a ++ b) = max (dpV a) (dpV b) := by
  show (a ++ b).foldl _ _ = _
  rw [List.foldl_append]
  exact dp_fold b (dpV a) (dpV_nonneg a)
theorem dpV_snoc (a : List (Int × QN)) (x : Int × QN) (h : 0 ≤ x.1) : dpV (a ++ [x]) = max (dpV a) x.1 := by
  rw [dpV_append, dpV_cons]
  have := dpV_nonneg a
  simp only [dpV, List.foldl_nil] at *
  omega
theorem dpV_sub : ∀ (l : List (Int × QN)), l ≠ [] → (∀ x ∈ l, 0 ≤ x.1) → dpV (l.map subN) = dpV l + 1
  | [], h, _ => absurd rfl h
  | [x], _, h => by
    have := h x List.mem_cons_self
    rw [List.map_cons, List.map_nil, dpV_cons, dpV_cons]
    simp only [subN, dpV, List.foldl_nil]
    omega
  | x :: y :: l, _, h => by
    have h0 := h x List.mem_cons_self
    have ih := dpV_sub (y :: l) (by simp) (fun z hz => h z (List.mem_cons_of_mem _ hz))
    rw [List.map_cons, dpV_cons, dpV_cons x, ih]
    have := dpV_nonneg (y :: l)
    simp only [subN]
    omega
/-- The shape that a rectangle and its records ask for. -/
def shP (p : Nat → Int × Int × Int) : Int × Int × Int := (1 + ((p 0).1 + (p 1).1 + (p 2).1 + (p 3).1), (p 0).2.1 + (p 1).2.1 + (p 2).2.1 + (p 3).2.1, 1 + max (max (p 0).2.2 (p 1).2.2) (max (p 2).2.2 (p 3).2.2))
def shQ : Nat → Rc → List Rq → Int × Int × Int
  | 0, _, _ => (1, 1, 0)
  | f + 1, a, L => if L.length ≤ 4 ∨ a.w * a.h ≤ 1 then (1, 1, 0) else shP fun i => if neR (qtr a i) = true then shQ f (qtr a i) (L.filter (inQ (qtr a i))) else (0, 0, -1)
def shV (l : List (Int × QN)) : Int × Int × Int := ((l.length : Nat), (lvV l : Nat), dpV l)
theorem corner_in {a : Rc} (h : Good a) : hasR a a.x a.y = true := by
  have := h.w1; have := h.h1
  exact (h.has _ _).2 (by omega)
theorem qtr_sub {a : Rc} (h : Good a) {i : Nat} (hi : i < 4) (hn : neR (qtr a i) = true) {x y : Int} (hx : hasR (qtr a i) x y = true) : hasR a x y = true := by
  have hx := ((qtr_good h hi hn).has x y).1 hx
  refine (h.has x y).2 ?_
  have h3 := h.w1; have h4 := h.h1
  rcases (show i = 0 ∨ i = 1 ∨ i = 2 ∨ i = 3 by omega) with rfl | rfl | rfl | rfl <;> (simp [qtr] at hx ⊢; omega)
theorem shape_ok (r : Rc) : ∀ (q : QN) (a : Rc) (L : List Rq) (f : Nat), q.Ok a L → Good a → q.isNil = false → (∀ x y, hasR a x y = true → hasR r x y = true) → q.high ≤ f → shV (q.visit r) = shQ f a L
  | .nil, a, L, f, _, _, h, _, _ => by cases h
  | .leaf g v b M, a, L, f, hO, hg, _, hs, _ => by
    obtain ⟨rfl, rfl, h3, h4⟩ := hO
    have hm := touc_of (corner_in hg) (hs _ _ (corner_in hg))
    have e : shV ((QN.leaf g v b M).visit r) = (1, 1, 0) := by
      simp only [QN.visit, hm, if_true]
      rfl
    rw [e]
    cases f with
    | zero => rfl
    | succ f =>
      unfold shQ
      rw [if_pos]
      by_cases c : M.length ≤ 4
      · exact .inl c
      · exact .inr (h4 (by omega))
  | .quad g n b q, a, L, f, hO, hg, _, hs, hf => by
    obtain ⟨rfl, _, h3, h4, h5, h6⟩ := hO
    have hm := touc_of (corner_in hg) (hs _ _ (corner_in hg))
    simp only [QN.high] at hf
    cases f with
    | zero => omega
    | succ f =>
      unfold shQ
      rw [if_neg (by omega)]
      have key : ∀ i, i < 4 → (((q i).visit r).length : Int) = (if neR (qtr b i) = true then shQ f (qtr b i) (L.filter (inQ (qtr b i))) else (0, 0, -1)).1 ∧ ((lvV ((q i).visit r) : Nat) : Int) = (if neR (qtr b i) = true then shQ f (qtr b i) (L.filter (inQ (qtr b i))) else (0, 0, -1)).2.1 ∧ dpV (((q i).visit r).map subN) = (if neR (qtr b i) = true then shQ f (qtr b i) (L.filter (inQ (qtr b i))) else (0, 0, -1)).2.2 + 1 := by
        intro i hi
        have hhi : (q i).high ≤ f := by
          rcases (show i = 0 ∨ i = 1 ∨ i = 2 ∨ i = 3 by omega) with rfl | rfl | rfl | rfl <;> omega
        cases hn : neR (qtr b i) with
        | false =>
          have hz := (h6 i hi).nil_iff
          rw [hn] at hz
          rw [visit_nil hz, if_neg Bool.false_ne_true]
          exact ⟨rfl, rfl, rfl⟩
        | true =>
          have hz := (h6 i hi).nil_iff
          rw [hn] at hz
          have hgi := qtr_good hg hi hn
          have hsi : ∀ x y, hasR (qtr b i) x y = true → hasR r x y = true := fun x y hx => hs x y (qtr_sub hg hi hn hx)
          have ih := shape_ok r (q i) (qtr b i) _ f (h6 i hi) hgi hz hsi hhi
          rw [if_pos rfl, ← ih]
          refine ⟨rfl, rfl, ?_⟩
          refine dpV_sub _ ?_ (fun x hx => (visit_high r (q i) x hx).1)
          have hmi := touc_of (corner_in hgi) (hsi _ _ (corner_in hgi))
          have ha := (h6 i hi).area_eq hn
          intro he
          cases hqi : q i with
          | nil => rw [hqi] at hz; cases hz
          | leaf g2 v2 a2 L2 =>
            rw [hqi] at he ha
            simp only [QN.area] at ha
            simp only [QN.visit, ha, hmi, if_true] at he
            cases he
          | quad g2 n2 a2 q2 =>
            rw [hqi] at he ha
            simp only [QN.area] at ha
            simp only [QN.visit, ha, hmi, if_true] at he
            cases he
      obtain ⟨a1, a2, a3⟩ := key 0 (by decide)
      obtain ⟨b1, b2, b3⟩ := key 1 (by decide)
      obtain ⟨c1, c2, c3⟩ := key 2 (by decide)
      obtain ⟨d1, d2, d3⟩ := key 3 (by decide)
      unfold shP
      rw [← a1, ← a2, ← b1, ← b2, ← c1, ← c2, ← d1, ← d2]
      simp only [QN.visit, hm, if_true, shV, List.map_append]
      refine Prod.ext ?_ (Prod.ext ?_ ?_)
      · simp only [List.length_cons, List.length_append, List.length_map]
        push_cast
        omega
      · simp only [lvV, List.countP_cons, List.countP_append, List.countP_map, QN.isLeaf]
        push_cast
        simp only [Function.comp_def]
        simp
      · show dpV ((0, QN.quad g n b q) :: (((q 0).visit r).map subN ++ ((q 1).visit r).map subN ++ ((q 2).visit r).map subN ++ ((q 3).visit r).map subN)) = _
        rw [dpV_cons, dpV_append, dpV_append, dpV_append, a3, b3, c3, d3]
        have z0 := dpV_nonneg (((q 0).visit r).map subN)
        rw [a3] at z0
        dsimp only
        omega
/-- How many nodes there are at most. -/
theorem visit_count (r : Rc) : ∀ (q : QN) (a : Rc) (L : List Rq), q.Ok a L → (neR a = true → Good a) → (∀ s ∈ L, inQ a s = true) → (q.visit r).length ≤ 1 + 4 * (L.length * q.high)
  | .nil, a, L, _, _, _ => by simp [QN.visit]
  | .leaf g v b M, a, L, _, _, _ => by
    simp only [QN.visit]
    split <;> simp
  | .quad g n b q, a, L, hO, hgd, hL => by
    obtain ⟨rfl, _, h3, h4, h5, h6⟩ := hO
    have hg := hgd h3
    have ih := fun i (hi : i < 4) => visit_count r (q i) (qtr b i) _ (h6 i hi) (fun hn => qtr_good hg hi hn) filt_sub
    have hp := (four_parts (fun s => qix b s.x s.y) L (fun s _ => qix_lt _ _ _)).length_eq
    rw [← part_eq hg hL (show 0 < 4 by decide), ← part_eq hg hL (show 1 < 4 by decide), ← part_eq hg hL (show 2 < 4 by decide), ← part_eq hg hL (show 3 < 4 by decide)] at hp
    simp only [List.length_append] at hp
    obtain ⟨H, hH⟩ : ∃ H, max (max (q 0).high (q 1).high) (max (q 2).high (q 3).high) = H := ⟨_, rfl⟩
    have i0 := Nat.le_trans (ih 0 (by decide)) (Nat.add_le_add_left (Nat.mul_le_mul_left 4 (Nat.mul_le_mul_left _ (show (q 0).high ≤ H by omega))) 1)
    have i1 := Nat.le_trans (ih 1 (by decide)) (Nat.add_le_add_left (Nat.mul_le_mul_left 4 (Nat.mul_le_mul_left _ (show (q 1).high ≤ H by omega))) 1)
    have i2 := Nat.le_trans (ih 2 (by decide)) (Nat.add_le_add_left (Nat.mul_le_mul_left 4 (Nat.mul_le_mul_left _ (show (q 2).high ≤ H by omega))) 1)
    have i3 := Nat.le_trans (ih 3 (by decide)) (Nat.add_le_add_left (Nat.mul_le_mul_left 4 (Nat.mul_le_mul_left _ (show (q 3).high ≤ H by omega))) 1)
    have e1 : L.length * H = (L.filter (inQ (qtr b 0))).length * H + (L.filter (inQ (qtr b 1))).length * H + (L.filter (inQ (qtr b 2))).length * H + (L.filter (inQ (qtr b 3))).length * H := by rw [← Nat.add_mul, ← Nat.add_mul, ← Nat.add_mul, hp]
    have e2 : L.length * (1 + H) = L.length + L.length * H := by rw [Nat.mul_add, Nat.mul_one]
    simp only [QN.visit]
    split
    · simp only [List.length_cons, List.length_map, List.length_append, QN.high, hH]
      rw [e2, e1]
      omega
    · simp
end Go.Proofs.YthfhpejpjiaikaaGreat
