/- quad: the records that a rectangle has, leaf by leaf; which they are: pure. quad: the shape of a tree: how many nodes, leaves, how deep: what the rectangle and the records ask: pure. A list of records in memory, sorted by slices.SortFunc: what it is, and where; in the kit's words and in ours. -/
import Derived.Test.YthfhpejpjiaikaaGreatK10
import Derived.Test.YthfhpejpjiaikaaGreatK13
import Derived.Test.YthfhpejpjiaikaaGreatK22
import Derived.Test.YthfhpejpjiaikaaGreatK23
import Derived.Shelf.SlSortCmp.InsertionK
namespace Go.Proofs.YthfhpejpjiaikaaGreat
set_option linter.unusedVariables false
set_option linter.unusedSimpArgs false
/-- A node's own records. -/
def QN.own : QN → List Rq
  | .leaf _ _ _ L => L
  | _ => []
/-- The records inside a rectangle, as they come. -/
def QN.inner (r : Rc) (q : QN) : List Rq := ((q.visit r).flatMap fun x => x.2.own).filter (inQ r)
theorem touc_of {a r : Rc} {x y : Int} (h1 : hasR a x y = true) (h2 : hasR r x y = true) : toucR a r = true := by
  unfold hasR at h1 h2
  rw [Bool.and_eq_true, decide_eq_true_iff] at h1 h2
  obtain ⟨f1, c1⟩ := h1
  obtain ⟨f2, c2⟩ := h2
  have hm : meetR a r = ⟨max a.x r.x, max a.y r.y, min (a.x + a.w) (r.x + r.w) - max a.x r.x, min (a.y + a.h) (r.y + r.h) - max a.y r.y⟩ := if_pos ⟨f1, f2, by omega, by omega⟩
  have g1 := of_decide_eq_true f1
  have g2 := of_decide_eq_true f2
  have hf : fineR (meetR a r) = true := by
    rw [hm]; unfold fineR; refine decide_eq_true ?_; dsimp only; omega
  have hne : areaR (meetR a r) ≠ 0 := by
    unfold areaR
    rw [if_pos hf, hm]
    dsimp only
    have e1 : 0 < min (a.x + a.w) (r.x + r.w) - max a.x r.x := by omega
    have e2 : 0 < min (a.y + a.h) (r.y + r.h) - max a.y r.y := by omega
    have := Int.mul_pos e1 e2
    omega
  unfold toucR
  rw [Bool.not_eq_true', beq_eq_false_iff_ne]
  exact hne
theorem out_none {a r : Rc} (h : toucR a r = false) {L : List Rq} (hL : ∀ s ∈ L, inQ a s = true) : L.filter (inQ r) = [] := by
  rw [List.filter_eq_nil_iff]
  intro s hs hr
  have := touc_of (hL s hs) hr
  rw [h] at this; cases this
theorem four_parts : ∀ (k : Rq → Nat) (L : List Rq), (∀ s ∈ L, k s < 4) → (L.filter (fun s => k s == 0) ++ L.filter (fun s => k s == 1) ++ L.filter (fun s => k s == 2) ++ L.filter (fun s => k s == 3)).Perm L
  | k, [], _ => List.Perm.refl _
  | k, s :: L, h => by
    have ih := four_parts k L (fun t ht => h t (List.mem_cons_of_mem _ ht))
    have h4 := h s List.mem_cons_self
    refine List.Perm.trans ?_ (List.Perm.cons s ih)
    rcases (show k s = 0 ∨ k s = 1 ∨ k s = 2 ∨ k s = 3 by omega) with e | e | e | e
    · simp [List.filter_cons, e]
    · simp only [List.filter_cons, e]
      simp only [show ((1 : Nat) == 0) = false from rfl, show ((1 : Nat) == 1) = true from rfl, show ((1 : Nat) == 2) = false from rfl, show ((1 : Nat) == 3) = false from rfl, if_true, Bool.false_eq_true, if_false, List.append_assoc]
      exact List.perm_middle
    · simp only [List.filter_cons, e]
      simp only [show ((2 : Nat) == 0) = false from rfl, show ((2 : Nat) == 1) = false from rfl, show ((2 : Nat) == 2) = true from rfl, show ((2 : Nat) == 3) = false from rfl, if_true, Bool.false_eq_true, if_false]
      rw [List.append_assoc _ (s :: _)]
      refine List.perm_middle.trans ?_
      simp only [List.append_assoc, List.cons_append]
      exact List.Perm.refl _
    · simp only [List.filter_cons, e]
      simp only [show ((3 : Nat) == 0) = false from rfl, show ((3 : Nat) == 1) = false from rfl, show ((3 : Nat) == 2) = false from rfl, show ((3 : Nat) == 3) = true from rfl, if_true, Bool.false_eq_true, if_false]
      exact List.perm_middle
theorem visit_map (r : Rc) (l : List (Int × QN)) : (l.map fun x => (x.1 + 1, x.2)).flatMap (fun x => x.2.own) = l.flatMap fun x => x.2.own := by
  rw [List.flatMap_map]
theorem part_eq {a : Rc} (hg : Good a) {L : List Rq} (hL : ∀ s ∈ L, inQ a s = true) {i : Nat} (hi : i < 4) : L.filter (inQ (qtr a i)) = L.filter (fun s => qix a s.x s.y == i) := by
  refine List.filter_congr (fun s hs => ?_)
  have hr := hL s hs
  rw [Bool.eq_iff_iff, beq_iff_eq]
  cases hn : neR (qtr a i) with
  | true =>
    rw [inQ_qix hg hr hi hn, decide_eq_true_iff]
    exact eq_comm
  | false =>
    constructor
    · intro hq
      exfalso
      unfold inQ hasR at hq
      rw [Bool.and_eq_true, decide_eq_true_iff] at hq
      unfold neR at hn
      have hn := of_decide_eq_false hn
      omega
    · intro e
      have := ((qtr_has hg hr hi).2 e.symm).1
      rw [hn] at this; cases this
theorem filt_sub {a : Rc} {L : List Rq} {i : Nat} : ∀ s ∈ L.filter (inQ (qtr a i)), inQ (qtr a i) s = true := fun s hs => (List.mem_filter.1 hs).2
theorem inner_quad (r : Rc) {g n : Nat} {b : Rc} {q : Nat → QN} {L : List Rq} (hg : Good b) (hL : ∀ s ∈ L, inQ b s = true) (ih : ∀ i, i < 4 → ((q i).inner r).Perm ((L.filter (inQ (qtr b i))).filter (inQ r))) : ((QN.quad g n b q).inner r).Perm (L.filter (inQ r)) := by
  have hp : ∀ i, i < 4 → (L.filter (inQ (qtr b i))).filter (inQ r) = (L.filter (inQ r)).filter (fun s => qix b s.x s.y == i) := fun i hi => by
    rw [part_eq hg hL hi, List.filter_filter, List.filter_filter]
    exact List.filter_congr (fun s _ => Bool.and_comm _ _)
  have h4 := four_parts (fun s => qix b s.x s.y) (L.filter (inQ r)) (fun s _ => qix_lt _ _ _)
  rw [← hp 0 (by decide), ← hp 1 (by decide), ← hp 2 (by decide), ← hp 3 (by decide)] at h4
  unfold QN.inner
  simp only [QN.visit]
  split
  · have e : (((0 : Int), QN.quad g n b q) :: ((q 0).visit r ++ (q 1).visit r ++ (q 2).visit r ++ (q 3).visit r).map (fun x => (x.1 + 1, x.2))).flatMap (fun x => x.2.own) = (((q 0).visit r).flatMap fun x => x.2.own) ++ (((q 1).visit r).flatMap fun x => x.2.own) ++ (((q 2).visit r).flatMap fun x => x.2.own) ++ (((q 3).visit r).flatMap fun x => x.2.own) := by
      rw [List.flatMap_cons, visit_map r]
      simp [QN.own]
    rw [e, List.filter_append, List.filter_append, List.filter_append]
    exact ((((ih 0 (by decide)).append (ih 1 (by decide))).append (ih 2 (by decide))).append (ih 3 (by decide))).trans h4
  · next hm =>
    rw [out_none (by simpa using hm) hL]
    simp
/-- What is inside: the tree's records that the rectangle has, in some order. -/
theorem inner_perm (r : Rc) : ∀ (q : QN) (a : Rc) (L : List Rq), q.Ok a L → (neR a = true → Good a) → (∀ s ∈ L, inQ a s = true) → (q.inner r).Perm (L.filter (inQ r))
  | .nil, a, L, h, _, _ => by rw [h.2]; exact List.Perm.refl _
  | .leaf g v b M, a, L, h, _, hL => by
    obtain ⟨rfl, rfl, _, _⟩ := h
    unfold QN.inner
    simp only [QN.visit]
    split
    · simp [QN.own]
    · next hm =>
      rw [out_none (by simpa using hm) hL]
      simp
  | .quad g n b q, a, L, h, hgd, hL => by
    obtain ⟨rfl, _, h3, _, h5, h6⟩ := h
    have hg := hgd h3
    exact inner_quad r hg hL (fun i hi => inner_perm r (q i) (qtr b i) (L.filter (inQ (qtr b i))) (h6 i hi) (fun hn => qtr_good hg hi hn) filt_sub)
/-- A node's own records are not more than the tree's. -/
theorem visit_own (r : Rc) (N : Nat) : ∀ (q : QN) (a : Rc) (L : List Rq), q.Ok a L → L.length ≤ N → ∀ x ∈ q.visit r, x.2.own.length ≤ N
  | .nil, a, L, _, _, x, h => by cases h
  | .leaf g v b M, a, L, hO, hN, x, h => by
    simp only [QN.visit] at h
    split at h
    · simp only [List.mem_singleton] at h
      subst h
      simp only [QN.own]
      rw [hO.2.1]; exact hN
    · cases h
  | .quad g n b q, a, L, hO, hN, x, h => by
    obtain ⟨rfl, _, _, _, _, h6⟩ := hO
    simp only [QN.visit] at h
    split at h
    · rcases List.mem_cons.1 h with rfl | h
      · exact Nat.zero_le _
      · obtain ⟨y, hy, rfl⟩ := List.mem_map.1 h
        simp only [List.mem_append] at hy
        have key : ∀ i, i < 4 → y ∈ (q i).visit r → y.2.own.length ≤ N := fun i hi hm => visit_own r N (q i) (qtr b i) _ (h6 i hi) (Nat.le_trans (List.length_filter_le _ _) hN) y hm
        rcases hy with ((hy | hy) | hy) | hy
        · exact key 0 (by decide) hy
        · exact key 1 (by decide) hy
        · exact key 2 (by decide) hy
        · exact key 3 (by decide) hy
    · cases h
end Go.Proofs.YthfhpejpjiaikaaGreat
namespace Go.Proofs.YthfhpejpjiaikaaGreat
set_option linter.unusedVariables false
set_option linter.unusedSimpArgs false
def dpV (l : List (Int × QN)) : Int := l.foldl (fun m x => max m x.1) 0
def lvV (l : List (Int × QN)) : Nat := l.countP fun x => x.2.isLeaf
theorem dp_fold : ∀ (l : List (Int × QN)) (m : Int), 0 ≤ m → l.foldl (fun m x => max m x.1) m = max m (dpV l)
  | [], m, h => by simp [dpV]; omega
  | x :: l, m, h => by
    unfold dpV
    simp only [List.foldl_cons]
    rw [dp_fold l (max m x.1) (by omega), dp_fold l (max 0 x.1) (by omega)]
    omega
theorem dpV_nonneg (l : List (Int × QN)) : 0 ≤ dpV l := by
  have := dp_fold l 0 (Int.le_refl _)
  unfold dpV at this ⊢
  omega
theorem dpV_cons (x : Int × QN) (l : List (Int × QN)) : dpV (x :: l) = max (max 0 x.1) (dpV l) := by
  show (x :: l).foldl _ _ = _
  rw [List.foldl_cons, dp_fold l _ (by omega)]
theorem dpV_append (a b : List (Int × QN)) : dpV (a ++ b) = max (dpV a) (dpV b) := by
  show (a ++ b).foldl _ _ = _
  rw [List.foldl_append]
  exact dp_fold b (dpV a) (dpV_nonneg a)
theorem dpV_snoc (a : List (Int × QN)) (x : Int × QN) (h : 0 ≤ x.1) : dpV (a ++ [x]) = max (dpV a) x.1 := by
  rw [dpV_append, dpV_cons]
  have := dpV_nonneg a
  simp only [dpV, List.foldl_nil] at *
  omega
theorem dpV_sub : ∀ (l : List (Int × QN)), l ≠ [] → (∀ x ∈ l, 0 ≤ x.1) → dpV (l.map subN) = dpV l + 1
  | [], h, _ => absurd rfl h
  | [x], _, h => by
    have := h x List.mem_cons_self
    rw [List.map_cons, List.map_nil, dpV_cons, dpV_cons]
    simp only [subN, dpV, List.foldl_nil]
    omega
  | x :: y :: l, _, h => by
    have h0 := h x List.mem_cons_self
    have ih := dpV_sub (y :: l) (by simp) (fun z hz => h z (List.mem_cons_of_mem _ hz))
    rw [List.map_cons, dpV_cons, dpV_cons x, ih]
    have := dpV_nonneg (y :: l)
    simp only [subN]
    omega
/-- The shape that a rectangle and its records ask for. -/
def shP (p : Nat → Int × Int × Int) : Int × Int × Int := (1 + ((p 0).1 + (p 1).1 + (p 2).1 + (p 3).1), (p 0).2.1 + (p 1).2.1 + (p 2).2.1 + (p 3).2.1, 1 + max (max (p 0).2.2 (p 1).2.2) (max (p 2).2.2 (p 3).2.2))
def shQ : Nat → Rc → List Rq → Int × Int × Int
  | 0, _, _ => (1, 1, 0)
  | f + 1, a, L => if L.length ≤ 4 ∨ a.w * a.h ≤ 1 then (1, 1, 0) else shP fun i => if neR (qtr a i) = true then shQ f (qtr a i) (L.filter (inQ (qtr a i))) else (0, 0, -1)
def shV (l : List (Int × QN)) : Int × Int × Int := ((l.length : Nat), (lvV l : Nat), dpV l)
theorem corner_in {a : Rc} (h : Good a) : hasR a a.x a.y = true := by
  have := h.w1; have := h.h1
  exact (h.has _ _).2 (by omega)
theorem qtr_sub {a : Rc} (h : Good a) {i : Nat} (hi : i < 4) (hn : neR (qtr a i) = true) {x y : Int} (hx : hasR (qtr a i) x y = true) : hasR a x y = true := by
  have hx := ((qtr_good h hi hn).has x y).1 hx
  refine (h.has x y).2 ?_
  have h3 := h.w1; have h4 := h.h1
  rcases (show i = 0 ∨ i = 1 ∨ i = 2 ∨ i = 3 by omega) with rfl | rfl | rfl | rfl <;> (simp [qtr] at hx ⊢; omega)
theorem shape_ok (r : Rc) : ∀ (q : QN) (a : Rc) (L : List Rq) (f : Nat), q.Ok a L → Good a → q.isNil = false → (∀ x y, hasR a x y = true → hasR r x y = true) → q.high ≤ f → shV (q.visit r) = shQ f a L
  | .nil, a, L, f, _, _, h, _, _ => by cases h
  | .leaf g v b M, a, L, f, hO, hg, _, hs, _ => by
    obtain ⟨rfl, rfl, h3, h4⟩ := hO
    have hm := touc_of (corner_in hg) (hs _ _ (corner_in hg))
    have e : shV ((QN.leaf g v b M).visit r) = (1, 1, 0) := by
      simp only [QN.visit, hm, if_true]
      rfl
    rw [e]
    cases f with
    | zero => rfl
    | succ f =>
      unfold shQ
      rw [if_pos]
      by_cases c : M.length ≤ 4
      · exact .inl c
      · exact .inr (h4 (by omega))
  | .quad g n b q, a, L, f, hO, hg, _, hs, hf => by
    obtain ⟨rfl, _, h3, h4, h5, h6⟩ := hO
    have hm := touc_of (corner_in hg) (hs _ _ (corner_in hg))
    simp only [QN.high] at hf
    cases f with
    | zero => omega
    | succ f =>
      unfold shQ
      rw [if_neg (by omega)]
      have key : ∀ i, i < 4 → (((q i).visit r).length : Int) = (if neR (qtr b i) = true then shQ f (qtr b i) (L.filter (inQ (qtr b i))) else (0, 0, -1)).1 ∧ ((lvV ((q i).visit r) : Nat) : Int) = (if neR (qtr b i) = true then shQ f (qtr b i) (L.filter (inQ (qtr b i))) else (0, 0, -1)).2.1 ∧ dpV (((q i).visit r).map subN) = (if neR (qtr b i) = true then shQ f (qtr b i) (L.filter (inQ (qtr b i))) else (0, 0, -1)).2.2 + 1 := by
        intro i hi
        have hhi : (q i).high ≤ f := by
          rcases (show i = 0 ∨ i = 1 ∨ i = 2 ∨ i = 3 by omega) with rfl | rfl | rfl | rfl <;> omega
        cases hn : neR (qtr b i) with
        | false =>
          have hz := (h6 i hi).nil_iff
          rw [hn] at hz
          rw [visit_nil hz, if_neg Bool.false_ne_true]
          exact ⟨rfl, rfl, rfl⟩
        | true =>
          have hz := (h6 i hi).nil_iff
          rw [hn] at hz
          have hgi := qtr_good hg hi hn
          have hsi : ∀ x y, hasR (qtr b i) x y = true → hasR r x y = true := fun x y hx => hs x y (qtr_sub hg hi hn hx)
          have ih := shape_ok r (q i) (qtr b i) _ f (h6 i hi) hgi hz hsi hhi
          rw [if_pos rfl, ← ih]
          refine ⟨rfl, rfl, ?_⟩
          refine dpV_sub _ ?_ (fun x hx => (visit_high r (q i) x hx).1)
          have hmi := touc_of (corner_in hgi) (hsi _ _ (corner_in hgi))
          have ha := (h6 i hi).area_eq hn
          intro he
          cases hqi : q i with
          | nil => rw [hqi] at hz; cases hz
          | leaf g2 v2 a2 L2 =>
            rw [hqi] at he ha
            simp only [QN.area] at ha
            simp only [QN.visit, ha, hmi, if_true] at he
            cases he
          | quad g2 n2 a2 q2 =>
            rw [hqi] at he ha
            simp only [QN.area] at ha
            simp only [QN.visit, ha, hmi, if_true] at he
            cases he
      obtain ⟨a1, a2, a3⟩ := key 0 (by decide)
      obtain ⟨b1, b2, b3⟩ := key 1 (by decide)
      obtain ⟨c1, c2, c3⟩ := key 2 (by decide)
      obtain ⟨d1, d2, d3⟩ := key 3 (by decide)
      unfold shP
      rw [← a1, ← a2, ← b1, ← b2, ← c1, ← c2, ← d1, ← d2]
      simp only [QN.visit, hm, if_true, shV, List.map_append]
      refine Prod.ext ?_ (Prod.ext ?_ ?_)
      · simp only [List.length_cons, List.length_append, List.length_map]
        push_cast
        omega
      · simp only [lvV, List.countP_cons, List.countP_append, List.countP_map, QN.isLeaf]
        push_cast
        simp only [Function.comp_def]
        simp
      · show dpV ((0, QN.quad g n b q) :: (((q 0).visit r).map subN ++ ((q 1).visit r).map subN ++ ((q 2).visit r).map subN ++ ((q 3).visit r).map subN)) = _
        rw [dpV_cons, dpV_append, dpV_append, dpV_append, a3, b3, c3, d3]
        have z0 := dpV_nonneg (((q 0).visit r).map subN)
        rw [a3] at z0
        dsimp only
        omega
/-- How many nodes there are at most. -/
theorem visit_count (r : Rc) : ∀ (q : QN) (a : Rc) (L : List Rq), q.Ok a L → (neR a = true → Good a) → (∀ s ∈ L, inQ a s = true) → (q.visit r).length ≤ 1 + 4 * (L.length * q.high)
  | .nil, a, L, _, _, _ => by simp [QN.visit]
  | .leaf g v b M, a, L, _, _, _ => by
    simp only [QN.visit]
    split <;> simp
  | .quad g n b q, a, L, hO, hgd, hL => by
    obtain ⟨rfl, _, h3, h4, h5, h6⟩ := hO
    have hg := hgd h3
    have ih := fun i (hi : i < 4) => visit_count r (q i) (qtr b i) _ (h6 i hi) (fun hn => qtr_good hg hi hn) filt_sub
    have hp := (four_parts (fun s => qix b s.x s.y) L (fun s _ => qix_lt _ _ _)).length_eq
    rw [← part_eq hg hL (show 0 < 4 by decide), ← part_eq hg hL (show 1 < 4 by decide), ← part_eq hg hL (show 2 < 4 by decide), ← part_eq hg hL (show 3 < 4 by decide)] at hp
    simp only [List.length_append] at hp
    obtain ⟨H, hH⟩ : ∃ H, max (max (q 0).high (q 1).high) (max (q 2).high (q 3).high) = H := ⟨_, rfl⟩
    have i0 := Nat.le_trans (ih 0 (by decide)) (Nat.add_le_add_left (Nat.mul_le_mul_left 4 (Nat.mul_le_mul_left _ (show (q 0).high ≤ H by omega))) 1)
    have i1 := Nat.le_trans (ih 1 (by decide)) (Nat.add_le_add_left (Nat.mul_le_mul_left 4 (Nat.mul_le_mul_left _ (show (q 1).high ≤ H by omega))) 1)
    have i2 := Nat.le_trans (ih 2 (by decide)) (Nat.add_le_add_left (Nat.mul_le_mul_left 4 (Nat.mul_le_mul_left _ (show (q 2).high ≤ H by omega))) 1)
    have i3 := Nat.le_trans (ih 3 (by decide)) (Nat.add_le_add_left (Nat.mul_le_mul_left 4 (Nat.mul_le_mul_left _ (show (q 3).high ≤ H by omega))) 1)
    have e1 : L.length * H = (L.filter (inQ (qtr b 0))).length * H + (L.filter (inQ (qtr b 1))).length * H + (L.filter (inQ (qtr b 2))).length * H + (L.filter (inQ (qtr b 3))).length * H := by rw [← Nat.add_mul, ← Nat.add_mul, ← Nat.add_mul, hp]
    have e2 : L.length * (1 + H) = L.length + L.length * H := by rw [Nat.mul_add, Nat.mul_one]
    simp only [QN.visit]
    split
    · simp only [List.length_cons, List.length_map, List.length_append, QN.high, hH]
      rw [e2, e1]
      omega
    · simp
end Go.Proofs.YthfhpejpjiaikaaGreat
namespace Go.Proofs.YthfhpejpjiaikaaGreat
open Go.RowKit
set_option linter.unusedVariables false
set_option linter.unusedSimpArgs false
instance : Inhabited Rq := ⟨⟨0, 0, ByteArray.empty, ByteArray.empty, 0⟩⟩
theorem ltQ (x y : Rq) : ltOf cmpQ x y = decide (cmpQ x y < 0) := rfl
theorem swoQ : Go.Sort.SWO (ltOf cmpQ) where
  irrefl x := by rw [ltQ, cmpQ_self]; rfl
  trans x y z h1 h2 := by
    rw [ltQ, decide_eq_true_iff] at *
    exact cmpQ_lt_trans h1 h2
  ntrans x y z h1 h2 := by
    rw [ltQ, decide_eq_false_iff_not] at *
    have a1 : cmpQ y x ≤ 0 := by rw [cmpQ_anti]; omega
    have a2 : cmpQ z y ≤ 0 := by rw [cmpQ_anti]; omega
    have a3 : cmpQ z x ≤ 0 := cmpK_trans a2 a1
    rw [cmpQ_anti] at a3
    omega
/-- One list alone is sorted, and has just these records. -/
theorem sorted_is {d d' : Array Rq} {M : List Rq} (hp : Go.Sort.PermIn 0 d.size d d') (hs : Go.Sort.SortedIn (ltOf cmpQ) 0 d.size d') (hM : SortQ M) (hd : d.toList.Perm M) : d'.toList = M := by
  obtain ⟨h1, _, h3⟩ := hp
  have e1 : d'.extract 0 d.size = d' := by rw [← h1]; simp
  have e2 : d.extract 0 d.size = d := by simp
  rw [e1, e2] at h3
  refine List.Perm.eq_of_pairwise (le := fun a b => ¬ cmpQ b a < 0) ?_ ?_ ?_ (h3.trans hd)
  · intro a b ha hb h4 h5
    have hz : cmpQ a b = 0 := by
      have := cmpQ_anti a b
      omega
    have ha' := (h3.trans hd).subset ha
    obtain ⟨i, hi, rfl⟩ := List.getElem_of_mem ha'
    obtain ⟨j, hj, rfl⟩ := List.getElem_of_mem hb
    rcases Nat.lt_trichotomy i j with c | c | c
    · have := List.pairwise_iff_getElem.1 hM i j hi hj c; omega
    · subst c; rfl
    · have := List.pairwise_iff_getElem.1 hM j i hj hi c
      rw [cmpQ_anti] at this
      omega
  · refine List.pairwise_iff_getElem.2 (fun i j hi hj hij => ?_)
    have hi' : i < d'.size := by simpa using hi
    have hj' : j < d'.size := by simpa using hj
    have := hs i j (Nat.zero_le _) hij (by omega)
    rw [getElem!_pos d' i hi', getElem!_pos d' j hj', ltQ, decide_eq_false_iff_not] at this
    simpa using this
  · exact hM.imp (fun {a b} h => by
      rw [cmpQ_anti]; omega)
theorem flatK_list {α : Type} [Inhabited α] {enc : α → List Value} {k : Nat} (hk : ∀ x, (enc x).length = k) (d : Array α) : (Go.Sort.flatK enc k d).toList = d.toList.flatMap enc := by
  have hl : (d.toList.flatMap enc).length = d.size * k := by rw [rows_len hk]; simp
  refine List.ext_getElem? (fun t => ?_)
  by_cases ht : t < d.size * k
  · have k0 : 0 < k := by
      rcases Nat.eq_zero_or_pos k with h | h
      · subst h; simp at ht
      · exact h
    have hq : t / k < d.size := (Nat.div_lt_iff_lt_mul k0).2 ht
    have hr : t % k < (enc d[t / k]!).length := by rw [hk]; exact Nat.mod_lt _ k0
    have h1 := Go.Sort.get_flatK enc k d t ht
    have hs : t < (Go.Sort.flatK enc k d).size := by rw [Go.Sort.size_flatK]; exact ht
    have hql : t / k < d.toList.length := by simpa using hq
    have e1 : d.toList[t / k] = d[t / k]! := by rw [getElem!_pos d (t / k) hq]; simp
    have h2 := enc_get hk d.toList (t / k) hql (t % k) ((enc d[t / k]!)[t % k]) (by rw [e1]; exact List.getElem?_eq_getElem hr)
    rw [Nat.div_add_mod'] at h2
    rw [h2, Array.getElem?_toList, Array.getElem?_eq_getElem hs]
    rw [getElem!_pos _ t hs] at h1
    rw [h1, getElem!_pos (enc d[t / k]!) (t % k) hr]
  · rw [List.getElem?_eq_none (by rw [Array.length_toList, Go.Sort.size_flatK]; omega), List.getElem?_eq_none (by omega)]
theorem putCells_row (F : Array Value) (X S : List Value) (h : F.size = X.length) : Go.Sort.putCells id 0 F (X ++ S).toArray = (F.toList ++ S).toArray := by
  apply Array.ext_getElem?
  intro t
  simp only [Go.Sort.putCells, Array.getElem?_mapIdx, List.getElem?_toArray, List.getElem?_append, Array.length_toList, ← h]
  by_cases ht : t < F.size
  · have hx : t < X.length := by omega
    simp [ht, hx, getElem!_pos F t ht]
  · simp only [ht, if_false, Nat.zero_add, and_false]
    cases (S[t - F.size]?) <;> rfl
/-- The world behind the sort. -/
theorem row_sorted {W : World} {base g cap n : Nat} {T : TypeId} {os : Array Obj} {l : List Rq} {d' : Array Rq} (h : RowE encQ 5 W base T (.slice (some ⟨g, 0, none⟩) l.length cap) l) (hd : d'.size = l.length) :
    RowE encQ 5 (sortWorldK encQ 5 W g 0 n d' os) base T (.slice (some ⟨g, 0, none⟩) l.length cap) d'.toList ∧ Off (fun b => b = g) W (sortWorldK encQ 5 W g 0 n d' os) := by
  obtain ⟨g2, cap2, S, hve, hg1, hg2, hc1, hc2, hl, hS⟩ := (RowE.cur h).resolve_left (fun z => by cases z.1)
  obtain ⟨rfl, rfl⟩ : g = g2 ∧ cap = cap2 := by
    injection hve with e1 e2 e3
    injection e1 with e1
    injection e1 with e1
    exact ⟨e1, e3⟩
  have hgl : g < W.heap.size := (Array.getElem?_eq_some_iff.1 hg2).1
  have hlen : d'.toList.length = l.length := by simpa using hd
  have hF : (Go.Sort.flatK encQ 5 d').size = (l.flatMap encQ).length := by rw [Go.Sort.size_flatK, hl, hd]
  have hheap : ∀ b, (sortWorldK encQ 5 W g 0 n d' os).heap[b]? = if b < W.heap.size then (if g = b then (W.heap[b]?).map (Go.Sort.onCells (Go.Sort.putCells id 0 (Go.Sort.flatK encQ 5 d'))) else W.heap[b]?) else os[b - W.heap.size]? := by
    intro b
    unfold sortWorldK Go.Sort.grow Go.Sort.putRowK Go.Sort.putRow Go.Sort.mapBlock Go.Sort.ahead
    simp only [Array.getElem?_append, Array.size_modify, Array.getElem?_modify]
  refine ⟨?_, ?_⟩
  · rw [← hlen]
    refine RowE.of (S := S) hg1 ?_ (by omega) hc2 (by rw [rows_len encQ_len]) (by rw [hS, hlen])
    rw [hheap g, if_pos hgl, if_pos rfl, hg2]
    simp only [Option.map_some, Go.Sort.onCells]
    rw [putCells_row _ _ _ hF, flatK_list encQ_len]
  · refine ⟨rfl, rfl, rfl, ?_, fun b hb hne => ?_⟩
    · unfold sortWorldK Go.Sort.grow Go.Sort.putRowK Go.Sort.putRow Go.Sort.mapBlock Go.Sort.ahead
      simp
    · rw [hheap b, if_pos hb, if_neg (fun e => hne e.symm)]
theorem row_holds {W : World} {base g cap : Nat} {T : TypeId} {l : List Rq} (h : RowE encQ 5 W base T (.slice (some ⟨g, 0, none⟩) l.length cap) l) : Go.Sort.HoldsK encQ 5 W g 0 l.toArray ∧ g < W.heap.size := by
  obtain ⟨g2, cap2, S, hve, hg1, hg2, hc1, hc2, hl, hS⟩ := (RowE.cur h).resolve_left (fun z => by cases z.1)
  obtain ⟨rfl, rfl⟩ : g = g2 ∧ cap = cap2 := by
    injection hve with e1 e2 e3
    injection e1 with e1
    injection e1 with e1
    exact ⟨e1, e3⟩
  refine ⟨fun j hj => ?_, (Array.getElem?_eq_some_iff.1 hg2).1⟩
  have hfl := flatK_list encQ_len l.toArray
  have hj2 : j < (l.flatMap encQ).length := by rw [hl]; simpa using hj
  have e : (l.flatMap encQ)[j] = (Go.Sort.flatK encQ 5 l.toArray)[j]! := by
    rw [getElem!_pos _ j hj]
    have : (Go.Sort.flatK encQ 5 l.toArray).toList[j]? = (l.flatMap encQ)[j]? := by rw [hfl]
    rw [Array.getElem?_toList, Array.getElem?_eq_getElem hj, List.getElem?_eq_getElem hj2] at this
    injection this with this
    exact this.symm
  constructor
  · simp only [World.cell?, Nat.zero_add, hg2, Option.isSome_none, Bool.false_eq_true, if_false, List.getElem?_toArray]
    rw [List.getElem?_append_left hj2, List.getElem?_eq_getElem hj2, e]
    rfl
  · simp [World.frozen?, hg2]
end Go.Proofs.YthfhpejpjiaikaaGreat
