/- QuadOrder: lists of records behind Puts and Dels, in whichever order. -/
import Derived.Test.YteohkmhndomhgaaK41
import Derived.Test.YteohkmhndomhgaaK43
namespace Go.Proofs.Yteohkmhndomhgaa
open Go.RowKit
set_option linter.unusedVariables false
/-- No two records of one cell and key. -/
def OneK (l : List Rq) : Prop := ∀ a ∈ l, ∀ b ∈ l, cmpQ a b = 0 → a = b
theorem sort_oneK : ∀ {L : List Rq}, SortQ L → OneK L
  | [], _ => fun a h => by cases h
  | c :: L, hs => by
    obtain ⟨h1, h2⟩ := List.pairwise_cons.1 hs
    have ih := sort_oneK h2
    intro a ha b hb e
    rcases List.mem_cons.1 ha with ha1 | ha1
    · rcases List.mem_cons.1 hb with hb1 | hb1
      · rw [ha1, hb1]
      · subst ha1; have := h1 b hb1; omega
    · rcases List.mem_cons.1 hb with hb1 | hb1
      · subst hb1; have := h1 a ha1; rw [cmpQ_anti] at e; omega
      · exact ih a ha1 b hb1 e
theorem puts_sort : ∀ (l : List Rq) {L : List Rq}, SortQ L → SortQ (putsQ L l)
  | [], _, h => h
  | r :: l, L, h => show SortQ (putsQ (putQ L r) l) from puts_sort l (putQ_sort h r)
theorem puts_mem : ∀ (l : List Rq) {L : List Rq}, SortQ L → OneK l → ∀ r, r ∈ putsQ L l ↔ r ∈ l ∨ (r ∈ L ∧ ∀ s ∈ l, cmpQ r s ≠ 0)
  | [], L, _, _, r => by simp [putsQ]
  | a :: l, L, hs, ho, r => by
    have ih := puts_mem l (putQ_sort hs a) (fun x hx y hy => ho x (List.mem_cons_of_mem _ hx) y (List.mem_cons_of_mem _ hy)) r
    show r ∈ putsQ (putQ L a) l ↔ _
    rw [ih, putQ_mem hs]
    constructor
    · rintro (h | ⟨rfl | ⟨h1, h2⟩, h3⟩)
      · exact .inl (List.mem_cons_of_mem _ h)
      · exact .inl List.mem_cons_self
      · refine .inr ⟨h1, fun s hs' => ?_⟩
        rcases List.mem_cons.1 hs' with rfl | hs'
        · exact h2
        · exact h3 s hs'
    · rintro (h | ⟨h1, h2⟩)
      · rcases List.mem_cons.1 h with rfl | h
        · by_cases hr : r ∈ l
          · exact .inl hr
          · refine .inr ⟨.inl rfl, fun s hs' e => hr ?_⟩
            rw [ho r List.mem_cons_self s (List.mem_cons_of_mem _ hs') e]
            exact hs'
        · exact .inl h
      · exact .inr ⟨.inr ⟨h1, h2 a List.mem_cons_self⟩, fun s hs' => h2 s (List.mem_cons_of_mem _ hs')⟩
theorem puts_sub : ∀ (l : List Rq) {L : List Rq}, SortQ L → ∀ r, r ∈ putsQ L l → r ∈ l ∨ r ∈ L
  | [], L, _, r, h => .inr h
  | a :: l, L, hs, r, h => by
    rcases puts_sub l (putQ_sort hs a) r h with h | h
    · exact .inl (List.mem_cons_of_mem _ h)
    · rcases (putQ_mem hs a r).1 h with rfl | ⟨h, _⟩
      · exact .inl List.mem_cons_self
      · exact .inr h
/-- Of a list's records, those that T has not are taken out. -/
def dropQ (T : List Rq) (U : List Rq) (g : Rq) : List Rq := if hasQ T g.x g.y g.key = true then U else delQ U g.x g.y g.key
def dropsQ (T U G : List Rq) : List Rq := G.foldl (dropQ T) U
theorem dropQ_sort {T U : List Rq} (h : SortQ U) (g : Rq) : SortQ (dropQ T U g) := by
  unfold dropQ
  split
  · exact h
  · exact delQ_sort h _ _ _
theorem drops_sort {T : List Rq} : ∀ (G : List Rq) {U : List Rq}, SortQ U → SortQ (dropsQ T U G)
  | [], _, h => h
  | g :: G, U, h => show SortQ (dropsQ T (dropQ T U g) G) from drops_sort (T := T) G (dropQ_sort (T := T) h g)
theorem drops_mem {T : List Rq} : ∀ (G : List Rq) {U : List Rq}, SortQ U → ∀ r, r ∈ dropsQ T U G ↔ r ∈ U ∧ ∀ g ∈ G, hasQ T g.x g.y g.key = false → cmpQ r g ≠ 0
  | [], U, _, r => by simp [dropsQ]
  | g :: G, U, hs, r => by
    have ih := drops_mem (T := T) G (dropQ_sort (T := T) hs g) r
    show r ∈ dropsQ T (dropQ T U g) G ↔ _
    rw [ih]
    cases hh : hasQ T g.x g.y g.key with
    | true =>
      rw [show dropQ T U g = U from if_pos hh]
      constructor
      · rintro ⟨h1, h2⟩
        refine ⟨h1, fun s hs' e => ?_⟩
        rcases List.mem_cons.1 hs' with rfl | hs'
        · rw [hh] at e; cases e
        · exact h2 s hs' e
      · rintro ⟨h1, h2⟩
        exact ⟨h1, fun s hs' e => h2 s (List.mem_cons_of_mem _ hs') e⟩
    | false =>
      rw [show dropQ T U g = delQ U g.x g.y g.key from if_neg (by rw [hh]; exact Bool.false_ne_true), delQ_mem hs]
      constructor
      · rintro ⟨⟨h1, h0⟩, h2⟩
        refine ⟨h1, fun s hs' e => ?_⟩
        rcases List.mem_cons.1 hs' with rfl | hs'
        · exact h0
        · exact h2 s hs' e
      · rintro ⟨h1, h2⟩
        exact ⟨⟨h1, h2 g List.mem_cons_self hh⟩, fun s hs' e => h2 s (List.mem_cons_of_mem _ hs') e⟩
theorem dropsQ_snoc (T U G : List Rq) (g : Rq) : dropsQ T U (G ++ [g]) = dropQ T (dropsQ T U G) g := by unfold dropsQ; rw [List.foldl_append]; rfl
theorem sortQ_nil : SortQ [] := List.Pairwise.nil
/-- The two trees of QuadOrder have the same records. -/
theorem order_same {A G P : List Rq} (hP : ∀ r, r ∈ P ↔ r ∈ putsQ [] A) : dropsQ (putsQ [] A) (putsQ (putsQ [] G) P) G = putsQ [] A := by
  have hT : SortQ (putsQ [] A) := puts_sort A sortQ_nil
  have hU : SortQ (putsQ [] G) := puts_sort G sortQ_nil
  have hoT := sort_oneK hT
  have hoP : OneK P := fun a ha b hb e => hoT a ((hP a).1 ha) b ((hP b).1 hb) e
  refine sort_ext (drops_sort G (puts_sort P hU)) hT (fun r => ?_)
  rw [drops_mem G (puts_sort P hU), puts_mem P hU hoP]
  constructor
  · rintro ⟨h | ⟨h1, h2⟩, h3⟩
    · exact (hP r).1 h
    · rcases puts_sub G sortQ_nil r h1 with h1 | h1
      · refine absurd (cmpQ_self r) (h3 r h1 ?_)
        cases hh : hasQ (putsQ [] A) r.x r.y r.key with
        | false => rfl
        | true =>
          obtain ⟨s, hs, e⟩ := hasQ_mem.1 hh
          exact absurd (show cmpQ r s = 0 by rw [cmpQ_anti]; have : cmpQ s r = 0 := e; omega) (h2 s ((hP s).2 hs))
      · cases h1
  · intro h
    refine ⟨.inl ((hP r).2 h), fun g hg hh e => ?_⟩
    have : hasQ (putsQ [] A) g.x g.y g.key = true := hasQ_mem.2 ⟨r, h, e⟩
    rw [hh] at this
    cases this
/-- Two records change places. -/
def swapQ (L : List Rq) (p q : Nat) : List Rq := if h : p < L.length ∧ q < L.length then (L.set p (L[q]'h.2)).set q (L[p]'h.1) else L
theorem swap_len (L : List Rq) (p q : Nat) : (swapQ L p q).length = L.length := by unfold swapQ; split <;> simp
theorem swap_mem (L : List Rq) (p q : Nat) (r : Rq) : r ∈ swapQ L p q ↔ r ∈ L := by
  unfold swapQ
  split
  · rename_i h
    obtain ⟨hp, hq⟩ := h
    constructor
    · intro hr
      obtain ⟨i, hi, e⟩ := List.getElem_of_mem hr
      simp only [List.length_set] at hi
      rw [List.getElem_set] at e
      split at e
      · rw [← e]; exact List.getElem_mem hp
      · rw [List.getElem_set] at e
        split at e
        · rw [← e]; exact List.getElem_mem hq
        · rw [← e]; exact List.getElem_mem hi
    · intro hr
      obtain ⟨i, hi, e⟩ := List.getElem_of_mem hr
      by_cases h1 : i = p
      · subst h1
        refine List.mem_of_getElem (i := q) (h := by simpa using hq) ?_
        rw [List.getElem_set, if_pos rfl]
        exact e
      · by_cases h2 : i = q
        · subst h2
          refine List.mem_of_getElem (i := p) (h := by simpa using hp) ?_
          rw [List.getElem_set, if_neg (fun z => h1 z), List.getElem_set, if_pos rfl]
          exact e
        · refine List.mem_of_getElem (i := i) (h := by simpa using hi) ?_
          rw [List.getElem_set, if_neg (fun z => h2 z.symm), List.getElem_set, if_neg (fun z => h1 z.symm)]
          exact e
  · exact Iff.rfl
theorem ListE.lent {α : Type} {enc : α → List Value} {n B : Nat} {W : World} {v : Value} {l : List α} (h : ListE enc n B W v l) : LentE enc n B W v l := by
  rcases h with ⟨rfl, rfl⟩ | ⟨g, cap, rfl, hlt, hc⟩
  · exact ⟨none, 0, rfl, .inl rfl⟩
  · exact ⟨_, cap, rfl, .inr ⟨g, 0, rfl, hlt, fun i hi j u hu => by rw [Nat.zero_add]; exact hc i hi j u hu⟩⟩
theorem ListE.root {α : Type} {enc : α → List Value} {n B : Nat} {W : World} {a : Option Addr} {len cap : Nat} {l : List α} (h : ListE enc n B W (.slice a len cap) l) {i : Nat} (hi : i < l.length) : ∃ g, a = some ⟨g, 0, none⟩ ∧ g < B := by
  rcases h with ⟨rfl, _⟩ | ⟨g, c, e, hlt, _⟩
  · exact absurd hi (Nat.not_lt_zero i)
  · injection e with e1
    exact ⟨g, e1, hlt⟩
/-- Two trees of one zone, apart from each other; F1, F2: where their blocks lie. -/
def TwoT (F1 F2 : Nat → Prop) (g g2 : Nat) (k d b : Int) (T U : List Rq) (W : World) : Prop :=
  ∃ q q2, TreeO g q k d b T W ∧ TreeO g2 q2 k d b U W ∧ (∀ c ∈ g :: q.bl, F1 c) ∧ (∀ c ∈ g2 :: q2.bl, F2 c) ∧ ∀ c ∈ g :: q.bl, c ∉ g2 :: q2.bl
section
variable {F1 F2 : Nat → Prop} {g g2 : Nat} {k d b : Int} {T U : List Rq} {W W' : World}
theorem TwoT.since (h : TwoT F1 F2 g g2 k d b T U W) (hs : Since W W') : TwoT F1 F2 g g2 k d b T U W' := by
  obtain ⟨q, q2, h1, h2, h3⟩ := h
  exact ⟨q, q2, h1.since hs, h2.since hs, h3⟩
theorem TwoT.mono {G1 G2 : Nat → Prop} (h : TwoT F1 F2 g g2 k d b T U W) (n1 : ∀ c, F1 c → G1 c) (n2 : ∀ c, F2 c → G2 c) : TwoT G1 G2 g g2 k d b T U W := by
  obtain ⟨q, q2, h1, h2, h3, h4, h5⟩ := h
  exact ⟨q, q2, h1, h2, fun c hc => n1 c (h3 c hc), fun c hc => n2 c (h4 c hc), h5⟩
theorem TwoT.off {F : Nat → Prop} (h : TwoT F1 F2 g g2 k d b T U W) (ho : Off F W W') (n1 : ∀ c, F c → ¬ F1 c) (n2 : ∀ c, F c → ¬ F2 c) : TwoT F1 F2 g g2 k d b T U W' := by
  obtain ⟨q, q2, h1, h2, h3, h4, h5⟩ := h
  exact ⟨q, q2, h1.keep (fun c hc => ho.block c (h1.lt c hc) (fun z => n1 c z (h3 c hc))), h2.keep (fun c hc => ho.block c (h2.lt c hc) (fun z => n2 c z (h4 c hc))), h3, h4, h5⟩
theorem TwoT.fresh (h : TwoT F1 F2 g g2 k d b T U W) {v : Value} (hx : ∀ a, v.ownBlock = some a → W.heap.size ≤ a) : TwoT (fun c => F1 c ∧ v.ownBlock ≠ some c) (fun c => F2 c ∧ v.ownBlock ≠ some c) g g2 k d b T U W := by
  obtain ⟨q, q2, h1, h2, h3, h4, h5⟩ := h
  exact ⟨q, q2, h1, h2, fun c hc => ⟨h3 c hc, fun z => by have := hx c z; have := h1.lt c hc; omega⟩, fun c hc => ⟨h4 c hc, fun z => by have := hx c z; have := h2.lt c hc; omega⟩, h5⟩
theorem two_put1 {q q2 : QN} {T' : List Rq} (h1 : TreeO g q k d b T W) (h2 : TreeO g2 q2 k d b U W) (h3 : ∀ c ∈ g :: q.bl, F1 c) (h4 : ∀ c ∈ g2 :: q2.bl, F2 c) (h5 : ∀ c ∈ g :: q.bl, c ∉ g2 :: q2.bl) (hF : ∀ c, W.heap.size ≤ c → F1 c)
    (hp : TreeP g q k d b T' W W') : TwoT F1 F2 g g2 k d b T' U W' ∧ Off F1 W W' := by
  obtain ⟨q', p1, p2, p3, p4⟩ := hp
  refine ⟨⟨q', q2, p2, h2.keep (fun c hc => p3.block c (h2.lt c hc) (fun z => h5 c (List.mem_cons_of_mem _ z) hc)), fun c hc => ?_, h4, fun c hc => ?_⟩, p3.mono (fun c _ z => h3 c (List.mem_cons_of_mem _ z))⟩
  · rcases List.mem_cons.1 hc with rfl | hc
    · exact h3 _ List.mem_cons_self
    · rcases p4 c hc with z | z
      · exact h3 c (List.mem_cons_of_mem _ z)
      · exact hF c z
  · rcases List.mem_cons.1 hc with rfl | hc
    · exact h5 _ List.mem_cons_self
    · rcases p4 c hc with z | z
      · exact h5 c (List.mem_cons_of_mem _ z)
      · intro y; have := h2.lt c y; omega
theorem two_put2 {q q2 : QN} {U' : List Rq} (h1 : TreeO g q k d b T W) (h2 : TreeO g2 q2 k d b U W) (h3 : ∀ c ∈ g :: q.bl, F1 c) (h4 : ∀ c ∈ g2 :: q2.bl, F2 c) (h5 : ∀ c ∈ g :: q.bl, c ∉ g2 :: q2.bl) (hF : ∀ c, W.heap.size ≤ c → F2 c)
    (hp : TreeP g2 q2 k d b U' W W') : TwoT F1 F2 g g2 k d b T U' W' ∧ Off F2 W W' := by
  obtain ⟨q', p1, p2, p3, p4⟩ := hp
  refine ⟨⟨q, q', h1.keep (fun c hc => p3.block c (h1.lt c hc) (fun z => h5 c hc (List.mem_cons_of_mem _ z))), p2, h3, fun c hc => ?_, fun c hc z => ?_⟩, p3.mono (fun c _ z => h4 c (List.mem_cons_of_mem _ z))⟩
  · rcases List.mem_cons.1 hc with rfl | hc
    · exact h4 _ List.mem_cons_self
    · rcases p4 c hc with z | z
      · exact h4 c (List.mem_cons_of_mem _ z)
      · exact hF c z
  · rcases List.mem_cons.1 z with z | z
    · exact h5 c hc (z ▸ List.mem_cons_self)
    · rcases p4 c z with y | y
      · exact h5 c hc (List.mem_cons_of_mem _ y)
      · have := h1.lt c hc; omega
end
end Go.Proofs.Yteohkmhndomhgaa
