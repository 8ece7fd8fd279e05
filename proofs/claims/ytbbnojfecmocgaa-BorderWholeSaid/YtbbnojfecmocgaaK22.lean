/- Nearest and Closer of a list, and of a tiling without gaps. Pure. A search by a queue: what is reached, pure. -/
import Derived.Test.YtbbnojfecmocgaaK18
import Derived.Test.YtbbnojfecmocgaaK20
import Derived.Test.YtbbnojfecmocgaaK21
namespace Go.Proofs.Ytbbnojfecmocgaa
set_option linter.unusedSimpArgs false
/-- The first tile that is least far from a cell, and how far. -/
def nrOk (k x y : Int) (o : Option (Tl × Int)) (s : Tl) : Bool := decide (0 ≤ aptZ k s.d s.b x y) && (match o with | none => true | some p => decide (aptZ k s.d s.b x y < p.2))
def nrStep (k x y : Int) (o : Option (Tl × Int)) (s : Tl) : Option (Tl × Int) := if nrOk k x y o s = true then some (s, aptZ k s.d s.b x y) else o
def nrT (k x y : Int) (L : List Tl) : Option (Tl × Int) := L.foldl (nrStep k x y) none
def bsT (k d b : Int) (L : List Tl) : List Tl := L.filter fun s => besB k d b s.d s.b
def clT (k d b x y : Int) (L : List Tl) : Option Tl := match nrT k x y (bsT k d b L) with
  | none => none
  | some p => if aptZ k d b x y ≤ p.2 then none else some p.1
theorem nr_take (k x y : Int) {L : List Tl} {m : Nat} (h : m < L.length) : nrT k x y (L.take (m + 1)) = nrStep k x y (nrT k x y (L.take m)) L[m] := by
  unfold nrT
  rw [List.take_succ_eq_append_getElem h, List.foldl_append]; rfl
theorem nr_fold (k x y : Int) : ∀ (L : List Tl) (o : Option (Tl × Int)), (∀ s ∈ L, 0 ≤ aptZ k s.d s.b x y) →
    match L.foldl (nrStep k x y) o with
    | none => L = [] ∧ o = none
    | some p => (o = some p ∨ (p.1 ∈ L ∧ p.2 = aptZ k p.1.d p.1.b x y)) ∧ (∀ s ∈ L, p.2 ≤ aptZ k s.d s.b x y) ∧ (∀ q, o = some q → p.2 ≤ q.2)
  | [], none, _ => ⟨rfl, rfl⟩
  | [], some p, _ => ⟨.inl rfl, fun s hs => absurd hs List.not_mem_nil, fun q hq => by injection hq with hq; subst hq; exact Int.le_refl _⟩
  | a :: L, o, h => by
    have ih := nr_fold k x y L (nrStep k x y o a) (fun s hs => h s (List.mem_cons_of_mem _ hs))
    have ha := h a List.mem_cons_self
    rw [List.foldl_cons]
    have hst : (nrStep k x y o a = some (a, aptZ k a.d a.b x y) ∧ ∀ q, o = some q → aptZ k a.d a.b x y ≤ q.2) ∨ (∃ q, o = some q ∧ nrStep k x y o a = some q ∧ q.2 ≤ aptZ k a.d a.b x y) := by
      cases o with
      | none => exact .inl ⟨by simp [nrStep, nrOk, ha], fun q hq => by cases hq⟩
      | some q =>
        by_cases hl : aptZ k a.d a.b x y < q.2
        · exact .inl ⟨by simp [nrStep, nrOk, ha, hl], fun r hr => by injection hr with hr; subst hr; omega⟩
        · exact .inr ⟨q, rfl, by simp [nrStep, nrOk, ha, hl], by omega⟩
    revert ih
    generalize L.foldl (nrStep k x y) (nrStep k x y o a) = R
    intro ih
    cases R with
    | none =>
      exfalso
      have := ih.2
      rcases hst with ⟨e, _⟩ | ⟨q, _, e, _⟩ <;> rw [e] at this <;> cases this
    | some p =>
      obtain ⟨h1, h2, h3⟩ := ih
      rcases hst with ⟨e, g⟩ | ⟨q, rfl, e, g⟩
      · refine ⟨.inr ?_, ?_, ?_⟩
        · rcases h1 with h1 | h1
          · rw [e] at h1; injection h1 with h1; subst h1; exact ⟨List.mem_cons_self, rfl⟩
          · exact ⟨List.mem_cons_of_mem _ h1.1, h1.2⟩
        · intro s hs
          rcases List.mem_cons.1 hs with rfl | hs
          · exact h3 _ e
          · exact h2 s hs
        · intro q hq
          have := h3 _ e
          have := g q hq
          dsimp only at *
          omega
      · refine ⟨?_, ?_, ?_⟩
        · rcases h1 with h1 | h1
          · rw [e] at h1; exact .inl h1
          · exact .inr ⟨List.mem_cons_of_mem _ h1.1, h1.2⟩
        · intro s hs
          rcases List.mem_cons.1 hs with rfl | hs
          · have := h3 _ e; omega
          · exact h2 s hs
        · intro r hr; injection hr with hr; subst hr; exact h3 _ e
theorem nr_some {k x y : Int} {L : List Tl} (h : ∀ s ∈ L, 0 ≤ aptZ k s.d s.b x y) (hne : L ≠ []) : ∃ p, nrT k x y L = some p ∧ p.1 ∈ L ∧ p.2 = aptZ k p.1.d p.1.b x y ∧ ∀ s ∈ L, p.2 ≤ aptZ k s.d s.b x y := by
  have z := nr_fold k x y L none h
  unfold nrT
  revert z
  generalize L.foldl (nrStep k x y) none = R
  intro z
  cases R with
  | none => exact absurd z.1 hne
  | some p =>
    rcases z.1 with e | e
    · cases e
    · exact ⟨p, rfl, e.1, e.2, z.2.1⟩
section
variable {t : Tr} {k : Int} (hk : 1 ≤ k ∧ k ≤ 16) (hh : (t.high : Int) ≤ 2 * k) (hg : t.gaps 0 0 = [])
include hk hh
theorem Tr.apt {s : Tl} (hs : s ∈ t.tiles 0 0) (x y : Int) : aptZ k s.d s.b x y = distR k (zoneR k s.d s.b) x y := if_pos (Tr.tile_ok hk hh hs)
include hg
/-- What Closer tells of a tile of a tiling without gaps. -/
theorem Tr.closer {x y : Int} (hc : hasB k x y = true) {s : Tl} (hs : s ∈ t.tiles 0 0) :
    0 ≤ aptZ k s.d s.b x y ∧ ((aptZ k s.d s.b x y = 0 ∧ clT k s.d s.b x y (t.tiles 0 0) = none) ∨
      (0 < aptZ k s.d s.b x y ∧ ∃ u, clT k s.d s.b x y (t.tiles 0 0) = some u ∧ aptZ k u.d u.b x y < aptZ k s.d s.b x y ∧ besB k s.d s.b u.d u.b = true)) := by
  have ap : ∀ u ∈ t.tiles 0 0, aptZ k u.d u.b x y = distR k (zoneR k u.d u.b) x y := fun u hu => Tr.apt hk hh hu x y
  have nn : ∀ u ∈ t.tiles 0 0, 0 ≤ aptZ k u.d u.b x y := fun u hu => by rw [ap u hu]; exact (dist_nn (Tr.tile_ok hk hh hu) hc).1
  have nb : ∀ u ∈ bsT k s.d s.b (t.tiles 0 0), 0 ≤ aptZ k u.d u.b x y := fun u hu => nn u (List.mem_filter.1 hu).1
  refine ⟨nn s hs, ?_⟩
  by_cases h0 : 0 < aptZ k s.d s.b x y
  · refine .inr ⟨h0, ?_⟩
    obtain ⟨u, hu, h1, h2⟩ := Tr.nearer hk hh hg hc hs (by rw [← ap s hs]; exact h0)
    have hub : u ∈ bsT k s.d s.b (t.tiles 0 0) := List.mem_filter.2 ⟨hu, by unfold besB; exact decide_eq_true h2⟩
    obtain ⟨p, e, hp, e2, hm⟩ := nr_some nb (List.ne_nil_of_mem hub)
    have hlt : p.2 < aptZ k s.d s.b x y := by have := hm u hub; rw [ap s hs]; rw [ap u hu] at this; omega
    refine ⟨p.1, by unfold clT; rw [e]; exact if_neg (by omega), by omega, (List.mem_filter.1 hp).2⟩
  · have h0' : aptZ k s.d s.b x y = 0 := by have := nn s hs; omega
    refine .inl ⟨h0', ?_⟩
    unfold clT
    by_cases hb : bsT k s.d s.b (t.tiles 0 0) = []
    · rw [hb]; rfl
    · obtain ⟨p, e, hp, e2, hm⟩ := nr_some nb hb
      rw [e]
      have := nb p.1 hp
      exact if_pos (by omega)
/-- What Nearest tells of it. -/
theorem Tr.nearest {x y : Int} (hc : hasB k x y = true) : ∃ z, nrT k x y (t.tiles 0 0) = some (z, 0) ∧ findT k (t.tiles 0 0) x y = some z := by
  have ap : ∀ u ∈ t.tiles 0 0, aptZ k u.d u.b x y = distR k (zoneR k u.d u.b) x y := fun u hu => Tr.apt hk hh hu x y
  have nn : ∀ u ∈ t.tiles 0 0, 0 ≤ aptZ k u.d u.b x y := fun u hu => by rw [ap u hu]; exact (dist_nn (Tr.tile_ok hk hh hu) hc).1
  obtain ⟨s, hs, fs, ds, us⟩ := Tr.near_one hk hh hg hc
  obtain ⟨⟨p, e0⟩, e, hp, e2, hm⟩ := nr_some nn (List.ne_nil_of_mem hs)
  dsimp only at hp e2 hm
  have h0 : e0 = 0 := by have h1 := hm s hs; rw [ap s hs, ds] at h1; have := nn p hp; omega
  have hps : p = s := us p hp (by rw [← ap p hp]; omega)
  subst hps
  subst h0
  refine ⟨p, e, ?_⟩
  unfold findT
  rw [if_pos hc]
  cases hf : (t.tiles 0 0).find? (fun s => hitB k x y s.d s.b) with
  | none => exact absurd fs (by have := List.find?_eq_none.1 hf p hs; exact this)
  | some u =>
    have hu := List.mem_of_find?_eq_some hf
    have fu := List.find?_some hf
    rw [Tr.hit_uniq hg hu hs fu fs]
end
end Go.Proofs.Ytbbnojfecmocgaa
namespace Go.Proofs.Ytbbnojfecmocgaa
def bsN (k : Int) (L : List Tl) (j l : Nat) : Bool := match L[j]?, L[l]? with
  | some s, some u => besB k s.d s.b u.d u.b
  | _, _ => false
/-- Whatever was seen, does not wait, and is not x, has all that is beside it seen. -/
def Cl (B : Nat → Nat → Bool) (seen : List Bool) (q : List Nat) (x : Nat) : Prop := ∀ j, seen[j]? = some true → j ∉ q → j ≠ x → ∀ l, B j l = true → seen[l]? = some true
/-- What is known of the search. -/
structure Sea (n : Nat) (seen : List Bool) (q : List Nat) : Prop where
  len : seen.length = n
  qs : ∀ j ∈ q, seen[j]? = some true
  ql : q.length ≤ seen.count true
theorem cnt_set : ∀ {l : List Bool} {i : Nat}, l[i]? = some false → (l.set i true).count true = l.count true + 1
  | a :: l, 0, h => by
    obtain rfl : a = false := by simpa using h
    simp
  | a :: l, i + 1, h => by
    have ih := cnt_set (l := l) (i := i) (by simpa using h)
    rw [List.set_cons_succ, List.count_cons, List.count_cons, ih]
    omega
theorem cnt_le {l : List Bool} : l.count true ≤ l.length := List.count_le_length
theorem cnt_lt {l : List Bool} {i : Nat} (h : l[i]? = some false) : l.count true < l.length := by
  have h1 := cnt_set h
  have h2 := cnt_le (l := l.set i true)
  rw [List.length_set] at h2
  omega
theorem Sea.room {n : Nat} {seen : List Bool} {q : List Nat} (h : Sea n seen q) {i : Nat} (hi : seen[i]? = some false) : q.length < n := by
  have := cnt_lt hi
  have := h.ql
  have := h.len
  omega
theorem set_seen {l : List Bool} {i j : Nat} (h : l[j]? = some true) : (l.set i true)[j]? = some true := by
  by_cases e : i = j
  · subst e
    have hl : i < l.length := by
      rcases Nat.lt_or_ge i l.length with z | z
      · exact z
      · rw [List.getElem?_eq_none z] at h; cases h
    rw [List.getElem?_set_self hl]
  · rw [List.getElem?_set_ne e]; exact h
theorem Sea.push {n : Nat} {seen : List Bool} {q : List Nat} (h : Sea n seen q) {i : Nat} (hi : seen[i]? = some false) : Sea n (seen.set i true) (q ++ [i]) := by
  have hl : i < seen.length := by
    rcases Nat.lt_or_ge i seen.length with z | z
    · exact z
    · rw [List.getElem?_eq_none z] at hi; cases hi
  refine ⟨by rw [List.length_set]; exact h.len, fun j hj => ?_, ?_⟩
  · rcases List.mem_append.1 hj with hj | hj
    · exact set_seen (h.qs j hj)
    · obtain rfl := List.mem_singleton.1 hj
      exact List.getElem?_set_self hl
  · rw [cnt_set hi, List.length_append]
    have := h.ql
    simp only [List.length_cons, List.length_nil]
    omega
theorem Cl.push {B : Nat → Nat → Bool} {seen : List Bool} {q : List Nat} {x : Nat} (h : Cl B seen q x) (i : Nat) : Cl B (seen.set i true) (q ++ [i]) x := by
  intro j h1 h2 h3 l hl
  have hji : j ≠ i := fun e => h2 (by rw [e]; simp)
  rw [List.getElem?_set_ne (fun e => hji e.symm)] at h1
  exact set_seen (h j h1 (fun z => h2 (List.mem_append.2 (.inl z))) h3 l hl)
theorem Sea.pop {n : Nat} {seen : List Bool} {f : Nat} {q : List Nat} (h : Sea n seen (f :: q)) : Sea n seen q := ⟨h.len, fun j hj => h.qs j (List.mem_cons_of_mem _ hj), by have := h.ql; simp only [List.length_cons] at this; omega⟩
theorem Cl.pop {B : Nat → Nat → Bool} {seen : List Bool} {f : Nat} {q : List Nat} {x : Nat} (h : Cl B seen (f :: q) x) (hx : seen[x]? ≠ some true) : Cl B seen q f := by
  intro j h1 h2 h3 l hl
  refine h j h1 (fun z => ?_) (fun e => hx (e ▸ h1)) l hl
  rcases List.mem_cons.1 z with z | z
  · exact h3 z
  · exact h2 z
theorem Cl.close {B : Nat → Nat → Bool} {seen : List Bool} {q : List Nat} {f : Nat} (h : Cl B seen q f) (hf : ∀ l, B f l = true → seen[l]? = some true) (x : Nat) : Cl B seen q x := by
  intro j h1 h2 h3 l hl
  by_cases e : j = f
  · subst e; exact hf l hl
  · exact h j h1 h2 e l hl
/-- Nothing waits: all that hangs together with the first one was seen; if that is all, all was. -/
theorem sea_all {k : Int} {L : List Tl} {seen : List Bool} (hS : Sea L.length seen []) (hC : Cl (bsN k L) seen [] L.length) (h0 : seen[0]? = some true) (hnd : L.Nodup) (hne : 0 < L.length)
    (hconn : ∀ u ∈ L, Conn k L L[0] u) : seen.count true = L.length := by
  have key : ∀ u ∈ L, ∃ j, L[j]? = some u ∧ seen[j]? = some true := fun u hu => by
    refine (hconn u hu).all (P := fun u => ∃ j, L[j]? = some u ∧ seen[j]? = some true) ⟨0, List.getElem?_eq_getElem hne, h0⟩ ?_ (List.getElem_mem hne)
    rintro a b ha ⟨j, hj, hs⟩ hb hl
    obtain ⟨i, hi, rfl⟩ := List.getElem_of_mem hb
    have hjl : j < L.length := (List.getElem?_eq_some_iff.1 hj).1
    refine ⟨i, List.getElem?_eq_getElem hi, hC j hs List.not_mem_nil (by omega) i ?_⟩
    unfold bsN
    rw [hj, List.getElem?_eq_getElem hi]
    exact decide_eq_true hl
  have hall : ∀ i, i < L.length → seen[i]? = some true := fun i hi => by
    obtain ⟨j, hj, hs⟩ := key L[i] (List.getElem_mem hi)
    obtain ⟨hjl, e⟩ := List.getElem?_eq_some_iff.1 hj
    obtain rfl : j = i := (List.getElem_inj (h₀ := hjl) (h₁ := hi) hnd).1 e
    exact hs
  rw [← hS.len]
  refine List.count_eq_length.2 (fun b hb => ?_)
  obtain ⟨i, hi, rfl⟩ := List.getElem_of_mem hb
  have := hall i (by rw [← hS.len]; exact hi)
  rw [List.getElem?_eq_getElem hi] at this
  injection this with this
  exact this.symm
end Go.Proofs.Ytbbnojfecmocgaa
