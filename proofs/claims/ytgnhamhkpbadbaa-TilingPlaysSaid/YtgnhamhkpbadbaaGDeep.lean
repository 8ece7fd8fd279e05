/- Deepest pairs of tiles; a split and a merge of a list of tiles. Nothing of the program. -/
import Derived.Test.YtgnhamhkpbadbaaGTree
namespace Go.Proofs.Ytgnhamhkpbadbaa
open Go.RowKit
/-- Is the path a tile's? -/
def hasT (L : List Tl) (d b : Int) : Bool := L.any fun s => s.d == d && s.b == b
theorem hasT_iff (L : List Tl) (d b : Int) : hasT L d b = true ↔ ∃ s ∈ L, s.d = d ∧ s.b = b := by
  unfold hasT
  rw [List.any_eq_true]
  constructor
  · rintro ⟨s, h1, h2⟩
    rw [Bool.and_eq_true, beq_iff_eq, beq_iff_eq] at h2
    exact ⟨s, h1, h2.1, h2.2⟩
  · rintro ⟨s, h1, h2, h3⟩
    exact ⟨s, h1, by rw [h2, h3]; simp⟩
/-- Is it a lower half whose sibling is a tile, too? -/
def candB (L : List Tl) (s : Tl) : Bool := decide (0 < s.d ∧ s.b % 2 = 0) && hasT L s.d (s.b + 1)
/-- The first one of the greatest depth. -/
def deeperB : Option Tl → Tl → Bool
  | none, _ => true
  | some u, s => decide (u.d < s.d)
def deepStep (L : List Tl) (o : Option Tl) (s : Tl) : Option Tl := if (candB L s && deeperB o s) = true then some s else o
theorem deepStep_some (L : List Tl) (o : Option Tl) (s : Tl) (h : candB L s = true) : ∃ u, deepStep L o s = some u ∧ s.d ≤ u.d := by
  unfold deepStep
  rw [h, Bool.true_and]
  split
  · exact ⟨s, rfl, Int.le_refl _⟩
  · next hn =>
    cases o with
    | none => exact absurd rfl hn
    | some v =>
      refine ⟨v, rfl, ?_⟩
      rcases Int.lt_or_le v.d s.d with c | c
      · exact absurd (decide_eq_true c) hn
      · exact c
theorem deepStep_keeps (L : List Tl) (o : Option Tl) (s u : Tl) (h : o = some u) : ∃ v, deepStep L o s = some v ∧ u.d ≤ v.d := by
  subst h
  unfold deepStep
  split
  · next hy =>
    rw [Bool.and_eq_true] at hy
    exact ⟨s, rfl, Int.le_of_lt (of_decide_eq_true hy.2)⟩
  · exact ⟨u, rfl, Int.le_refl _⟩
def deepF (L : List Tl) (l : List Tl) (o : Option Tl) : Option Tl := l.foldl (deepStep L) o
theorem deepF_keeps (L : List Tl) : ∀ (l : List Tl) (o : Option Tl) (u : Tl), o = some u → ∃ v, deepF L l o = some v ∧ u.d ≤ v.d
  | [], _, u, h => ⟨u, h, Int.le_refl _⟩
  | s :: l, o, u, h => by
    obtain ⟨v, h1, h2⟩ := deepStep_keeps L o s u h
    obtain ⟨x, h3, h4⟩ := deepF_keeps L l _ v h1
    exact ⟨x, h3, by omega⟩
theorem deepF_all (L : List Tl) : ∀ (l : List Tl) (o : Option Tl) (s : Tl), s ∈ l → candB L s = true → ∃ v, deepF L l o = some v ∧ s.d ≤ v.d
  | x :: l, o, s, hs, hc => by
    rcases List.mem_cons.1 hs with rfl | hs
    · obtain ⟨v, h1, h2⟩ := deepStep_some L o s hc
      obtain ⟨u, h3, h4⟩ := deepF_keeps L l _ v h1
      exact ⟨u, h3, by omega⟩
    · exact deepF_all L l _ s hs hc
theorem deepF_mem (L : List Tl) : ∀ (l : List Tl) (o : Option Tl) (v : Tl), deepF L l o = some v → o = some v ∨ (v ∈ l ∧ candB L v = true)
  | [], _, _, h => .inl h
  | s :: l, o, v, h => by
    rcases deepF_mem L l _ v h with h1 | h1
    · unfold deepStep at h1
      split at h1
      · next hy =>
        rw [Bool.and_eq_true] at hy
        injection h1 with e; subst e; exact .inr ⟨List.mem_cons_self, hy.1⟩
      · exact .inl h1
    · exact .inr ⟨List.mem_cons_of_mem _ h1.1, h1.2⟩
def deepL (L : List Tl) : Option Tl := deepF L L none
theorem deepL_some {L : List Tl} {v : Tl} (h : deepL L = some v) : v ∈ L ∧ candB L v = true ∧ ∀ s ∈ L, candB L s = true → s.d ≤ v.d := by
  rcases deepF_mem L L none v h with h1 | h1
  · cases h1
  · refine ⟨h1.1, h1.2, fun s hs hc => ?_⟩
    obtain ⟨u, h3, h4⟩ := deepF_all L L none s hs hc
    rw [show deepF L L none = some v from h] at h3
    injection h3 with e
    rw [e]
    exact h4
theorem deepL_none {L : List Tl} (h : deepL L = none) : ∀ s ∈ L, candB L s = false := by
  intro s hs
  refine Bool.eq_false_iff.2 fun hc => ?_
  obtain ⟨u, h3, _⟩ := deepF_all L L none s hs hc
  rw [show deepF L L none = none from h] at h3
  cases h3
theorem Tr.full_node {l r : Tr} {d b : Int} (h : (Tr.node l r).gaps d b = []) : l.gaps (d + 1) (2 * b) = [] ∧ r.gaps (d + 1) (2 * b + 1) = [] := by
  unfold Tr.gaps at h
  split at h
  · cases h
  · exact List.append_eq_nil_iff.1 h
theorem Tr.full_flat {t : Tr} {d b : Int} (h : t.gaps d b = []) (h0 : t.high = 0) : ∃ w, t = .leaf w := by
  cases t with
  | gap => cases h
  | leaf w => exact ⟨w, rfl⟩
  | node l r => simp [Tr.high] at h0
theorem candB_mono {L M : List Tl} (h : ∀ s ∈ L, s ∈ M) {s : Tl} (hc : candB L s = true) : candB M s = true := by
  unfold candB at hc ⊢
  rw [Bool.and_eq_true] at hc ⊢
  refine ⟨hc.1, ?_⟩
  rw [hasT_iff] at hc ⊢
  obtain ⟨u, h1, h2⟩ := hc.2
  exact ⟨u, h u h1, h2⟩
/-- In a full tree of more than one tile a lower half as deep as the tree is high has a tile beside it. -/
theorem Tr.deep_ex : ∀ (t : Tr) (d b : Int), 0 ≤ d → t.gaps d b = [] → 0 < t.high → ∃ s ∈ t.tiles d b, candB (t.tiles d b) s = true ∧ s.d = d + t.high
  | .gap, _, _, _, h, _ => by cases h
  | .leaf w, _, _, _, _, h => by simp [Tr.high] at h
  | .node l r, d, b, hd, h, _ => by
    obtain ⟨h1, h2⟩ := Tr.full_node h
    by_cases c1 : l.high < r.high
    · obtain ⟨s, s1, s2, s3⟩ := Tr.deep_ex r (d + 1) (2 * b + 1) (by omega) h2 (by omega)
      refine ⟨s, List.mem_append.2 (.inr s1), candB_mono (fun u hu => List.mem_append.2 (.inr hu)) s2, ?_⟩
      simp only [Tr.high]
      omega
    · by_cases c2 : 0 < l.high
      · obtain ⟨s, s1, s2, s3⟩ := Tr.deep_ex l (d + 1) (2 * b) (by omega) h1 c2
        refine ⟨s, List.mem_append.2 (.inl s1), candB_mono (fun u hu => List.mem_append.2 (.inl hu)) s2, ?_⟩
        simp only [Tr.high]
        omega
      · obtain ⟨w1, rfl⟩ := Tr.full_flat h1 (by omega)
        obtain ⟨w2, rfl⟩ := Tr.full_flat h2 (by simp only [Tr.high] at *; omega)
        refine ⟨⟨d + 1, 2 * b, w1⟩, by simp [Tr.tiles], ?_, by simp [Tr.high]⟩
        unfold candB
        rw [Bool.and_eq_true, decide_eq_true_iff, hasT_iff]
        exact ⟨by dsimp only; omega, ⟨d + 1, 2 * b + 1, w2⟩, by simp [Tr.tiles], rfl, rfl⟩
theorem Tr.high_len : ∀ (t : Tr) (d b : Int), t.gaps d b = [] → (0 < t.high ↔ 1 < (t.tiles d b).length) ∧ 0 < (t.tiles d b).length
  | .gap, _, _, h => by cases h
  | .leaf w, _, _, _ => by simp [Tr.high, Tr.tiles]
  | .node l r, d, b, h => by
    obtain ⟨h1, h2⟩ := Tr.full_node h
    have i1 := (Tr.high_len l _ _ h1).2
    have i2 := (Tr.high_len r _ _ h2).2
    simp only [Tr.high, Tr.tiles, List.length_append]
    omega
/-- In a list in order, none of which meets another one, what is below a path whose halves are there is just these. -/
theorem pair_under {L : List Tl} (hp : L.Pairwise Tl.ltB) {x y : Tl} {d b : Int} (hf : fine d b = true) (hd : d < 32) (hx : x ∈ L) (hy : y ∈ L) (ex : x.d = d + 1 ∧ x.b = 2 * b) (ey : y.d = d + 1 ∧ y.b = 2 * b + 1) :
    L.filter (fun s => abvB d b s.d s.b) = [x, y] := by
  have hirr : ∀ s u : Tl, s ∈ L → u ∈ L → metB s.d s.b u.d u.b = true → s = u := by
    intro s u hs hu hm
    obtain ⟨i, hi, rfl⟩ := List.getElem_of_mem hs
    obtain ⟨j, hj, rfl⟩ := List.getElem_of_mem hu
    rcases Nat.lt_trichotomy i j with h | h | h
    · have := (List.pairwise_iff_getElem.1 hp i j hi hj h).2
      rw [hm] at this; cases this
    · subst h; rfl
    · have := (List.pairwise_iff_getElem.1 hp j i hj hi h).2
      rw [metB_comm, hm] at this; cases this
  have hall : ∀ s ∈ L, abvB d b s.d s.b = true → s = x ∨ s = y := by
    intro s hs ha
    obtain ⟨a1, a2, a3, a4⟩ := (abvB_iff _ _ _ _).1 ha
    rcases Int.lt_or_eq_of_le a3 with h | h
    · have e := pv_half (b := s.b) h
      rw [a4] at e
      obtain ⟨f1, f2, f3, f4⟩ := (fine_iff _ _).1 a1
      have hfp := pv_fine (b := s.b) (m := d + 1) a2 (by omega) (by omega)
      rcases (show pv s.d s.b (d + 1) = 2 * b ∨ pv s.d s.b (d + 1) = 2 * b + 1 by omega) with e1 | e1
      · refine .inl (hirr s x hs hx ?_)
        rw [metB_comm, ex.1, ex.2]
        unfold metB
        rw [(abvB_iff _ _ _ _).2 ⟨fine_l hf hd, a2, by omega, e1⟩]
        rfl
      · refine .inr (hirr s y hs hy ?_)
        rw [metB_comm, ey.1, ey.2]
        unfold metB
        rw [(abvB_iff _ _ _ _).2 ⟨fine_r hf hd, a2, by omega, e1⟩]
        rfl
    · have eb : s.b = b := by rw [← a4, h, pv_all]
      refine .inl (hirr s x hs hx ?_)
      unfold metB
      rw [ex.1, ex.2, ← h, eb, abv_l hf hd]
      rfl
  have hlt : ∀ s u : Tl, Tl.ltB s u → s ≠ u := by
    rintro s u h rfl
    have := h.1
    by_cases hs : fine s.d s.b = true
    · rw [cmpP_same hs] at this; omega
    · rw [cmpP_no (fun z => hs z.1)] at this; omega
  have hne : x ≠ y := fun e => by rw [e] at ex; omega
  have hxy : ¬ Tl.ltB y x := by
    intro h
    have h1 := (halves_apart hf hd (abv_self (fine_l hf hd)) (abv_self (fine_r hf hd))).1
    have h2 := h.1
    rw [ex.1, ex.2, ey.1, ey.2, cmpP_anti (fine_l hf hd) (fine_r hf hd)] at h2
    omega
  have ax : abvB d b x.d x.b = true := by rw [ex.1, ex.2]; exact abv_l hf hd
  have ay : abvB d b y.d y.b = true := by rw [ey.1, ey.2]; exact abv_r hf hd
  have hF := hp.filter (fun s => abvB d b s.d s.b)
  have mx : x ∈ L.filter (fun s => abvB d b s.d s.b) := List.mem_filter.2 ⟨hx, ax⟩
  have my : y ∈ L.filter (fun s => abvB d b s.d s.b) := List.mem_filter.2 ⟨hy, ay⟩
  have hm : ∀ s ∈ L.filter (fun s => abvB d b s.d s.b), s = x ∨ s = y := fun s hs => hall s (List.mem_filter.1 hs).1 (List.mem_filter.1 hs).2
  generalize L.filter (fun s => abvB d b s.d s.b) = F at hF mx my hm
  match F with
  | [] => cases mx
  | [u] =>
    rw [List.mem_singleton] at mx my
    exact absurd (mx.trans my.symm) hne
  | u :: v :: rest =>
    rw [List.pairwise_cons] at hF
    obtain ⟨p1, p2⟩ := hF
    rw [List.pairwise_cons] at p2
    have huv := p1 v List.mem_cons_self
    rcases hm u List.mem_cons_self with rfl | rfl
    · rcases hm v (List.mem_cons_of_mem _ List.mem_cons_self) with rfl | rfl
      · exact absurd rfl (hlt _ _ huv)
      · cases rest with
        | nil => rfl
        | cons z rest =>
          have hz1 := p2.1 z List.mem_cons_self
          have hz2 := p1 z (List.mem_cons_of_mem _ List.mem_cons_self)
          rcases hm z (List.mem_cons_of_mem _ (List.mem_cons_of_mem _ List.mem_cons_self)) with rfl | rfl
          · exact absurd rfl (hlt _ _ hz2)
          · exact absurd rfl (hlt _ _ hz1)
    · rcases hm v (List.mem_cons_of_mem _ List.mem_cons_self) with rfl | rfl
      · exact absurd huv hxy
      · exact absurd rfl (hlt _ _ huv)
/-- A tile that becomes its two halves; two halves that become one tile. -/
def splT (L : List Tl) (d b who : Int) : List Tl := L.flatMap fun s => if s.d = d ∧ s.b = b then [⟨d + 1, 2 * b, s.who⟩, ⟨d + 1, 2 * b + 1, who⟩] else [s]
def mrgT (L : List Tl) (d b : Int) : List Tl := L.flatMap fun s => if s.d = d + 1 ∧ s.b = 2 * b then [⟨d, b, s.who⟩] else if s.d = d + 1 ∧ s.b = 2 * b + 1 then [] else [s]
theorem flat_self {α : Type} : ∀ (L : List α) (f : α → List α), (∀ s ∈ L, f s = [s]) → L.flatMap f = L
  | [], _, _ => rfl
  | x :: L, f, h => by rw [List.flatMap_cons, h x List.mem_cons_self, flat_self L f (fun s hs => h s (List.mem_cons_of_mem _ hs))]; rfl
theorem spl_mrg {L : List Tl} {d b : Int} (who : Int) (h : ∀ s ∈ L, ¬ (s.d = d + 1 ∧ (s.b = 2 * b ∨ s.b = 2 * b + 1))) : mrgT (splT L d b who) d b = L := by
  unfold mrgT splT
  rw [List.flatMap_assoc]
  apply flat_self
  intro s hs
  have h1 := h s hs
  split
  · next e =>
    obtain ⟨e1, e2⟩ := e
    simp only [List.flatMap_cons, List.flatMap_nil, List.append_nil]
    rw [if_pos ⟨trivial, trivial⟩, if_neg (by rintro ⟨_, z⟩; omega), if_pos ⟨trivial, trivial⟩, ← e1, ← e2]
    rfl
  · simp only [List.flatMap_cons, List.flatMap_nil, List.append_nil]
    rw [if_neg (fun z => h1 ⟨z.1, .inl z.2⟩), if_neg (fun z => h1 ⟨z.1, .inr z.2⟩)]
theorem spl_len {L : List Tl} (hp : L.Pairwise Tl.ltB) {s : Tl} (hs : s ∈ L) (hf : fine s.d s.b = true) (who : Int) : (splT L s.d s.b who).length = L.length + 1 := by
  induction L with
  | nil => cases hs
  | cons x L ih =>
    rw [List.pairwise_cons] at hp
    unfold splT at ih ⊢
    rw [List.flatMap_cons, List.length_append, List.length_cons]
    have hself : ∀ u v : Tl, Tl.ltB u v → u.d = s.d → u.b = s.b → v.d = s.d → v.b = s.b → False := by
      intro u v h a1 a2 a3 a4
      have := h.1
      rw [a1, a2, a3, a4, cmpP_same hf] at this
      omega
    rcases List.mem_cons.1 hs with rfl | hs
    · rw [if_pos ⟨rfl, rfl⟩, flat_self L _ (fun u hu => if_neg (fun z => hself s u (hp.1 u hu) rfl rfl z.1 z.2))]
      show 2 + _ = _
      omega
    · rw [if_neg (fun z => hself x s (hp.1 s hs) z.1 z.2 rfl rfl), ih hp.2 hs]
      show 1 + _ = _
      omega
end Go.Proofs.Ytgnhamhkpbadbaa
