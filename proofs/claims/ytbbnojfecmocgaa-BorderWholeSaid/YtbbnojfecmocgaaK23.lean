/- Trees of halves with block numbers: the way towards a path, what is put at a path, pairs. Nothing of the program. -/
import Derived.Test.YtbbnojfecmocgaaK21
namespace Go.Proofs.Ytbbnojfecmocgaa
open Go.RowKit
def Tr.mk : Tr → Tr → Tr
  | .gap, .gap => .gap
  | l, r => .node l r
theorem Tr.mk_tiles (l r : Tr) (d b : Int) : (Tr.mk l r).tiles d b = l.tiles (d + 1) (2 * b) ++ r.tiles (d + 1) (2 * b + 1) := by
  cases l <;> cases r <;> rfl
theorem Tr.mk_high (l r : Tr) : (Tr.mk l r).high ≤ max l.high r.high + 1 := by
  cases l <;> cases r <;> simp [Tr.mk, Tr.high]
def Tr.kids : Tr → Tr × Tr
  | .node l r => (l, r)
  | _ => (.gap, .gap)
/-- No node without a tile below it. -/
def Tr.norm : Tr → Prop
  | .node l r => ¬ (l = .gap ∧ r = .gap) ∧ l.norm ∧ r.norm
  | _ => True
theorem Tr.mk_norm {l r : Tr} (hl : l.norm) (hr : r.norm) : (Tr.mk l r).norm := by
  cases l <;> cases r <;> first | trivial | exact ⟨(by simp), hl, hr⟩ | exact ⟨(by simp), hl, hr⟩
theorem Tr.norm_bare : ∀ {t : Tr}, t.norm → t.bare = true → t = .gap
  | .gap, _, _ => rfl
  | .leaf _, _, h => by cases h
  | .node l r, ⟨h1, h2, h3⟩, h => by
    unfold Tr.bare at h
    rw [Bool.and_eq_true] at h
    exact absurd ⟨Tr.norm_bare h2 h.1, Tr.norm_bare h3 h.2⟩ h1
/-- n comes in the place of what is m halves below. -/
def Tr.put (pd pb : Int) (n : Tr) : Nat → Int → Tr → Tr
  | 0, _, _ => n
  | m + 1, d, t => if bitI pd pb d = 0 then .mk (Tr.put pd pb n m (d + 1) t.kids.1) t.kids.2 else .mk t.kids.1 (Tr.put pd pb n m (d + 1) t.kids.2)
theorem Tr.kids_norm {t : Tr} (h : t.norm) : t.kids.1.norm ∧ t.kids.2.norm := by
  cases t with
  | gap => exact ⟨trivial, trivial⟩
  | leaf w => exact ⟨trivial, trivial⟩
  | node l r => exact h.2
theorem Tr.put_norm (pd pb : Int) {n : Tr} (hn : n.norm) : ∀ (m : Nat) (d : Int) (t : Tr), t.norm → (Tr.put pd pb n m d t).norm
  | 0, _, _, _ => hn
  | m + 1, d, t, ht => by
    obtain ⟨h1, h2⟩ := Tr.kids_norm ht
    unfold Tr.put
    split
    · exact Tr.mk_norm (Tr.put_norm pd pb hn m _ _ h1) h2
    · exact Tr.mk_norm h1 (Tr.put_norm pd pb hn m _ _ h2)
theorem Tr.kids_high (t : Tr) : t.kids.1.high ≤ t.high - 1 ∧ t.kids.2.high ≤ t.high - 1 := by
  cases t <;> simp [Tr.kids, Tr.high] <;> omega
theorem Tr.put_high (pd pb : Int) (n : Tr) : ∀ (m : Nat) (d : Int) (t : Tr), (Tr.put pd pb n m d t).high ≤ max t.high (m + n.high)
  | 0, _, _ => by unfold Tr.put; omega
  | m + 1, d, t => by
    obtain ⟨h1, h2⟩ := Tr.kids_high t
    unfold Tr.put
    split
    · have h3 := Tr.put_high pd pb n m (d + 1) t.kids.1
      have h4 := Tr.mk_high (Tr.put pd pb n m (d + 1) t.kids.1) t.kids.2
      omega
    · have h3 := Tr.put_high pd pb n m (d + 1) t.kids.2
      have h4 := Tr.mk_high t.kids.1 (Tr.put pd pb n m (d + 1) t.kids.2)
      omega
section
variable {pd pb d b : Int}
theorem abv_eq (h : abvB d b pd pb = true) (e : d = pd) : b = pb := by
  obtain ⟨h1, h2, h3, h4⟩ := (abvB_iff _ _ _ _).1 h
  rw [← h4, e, pv_all]
theorem bit_two (h : abvB d b pd pb = true) (hd : d < pd) : bitI pd pb d = 0 ∨ bitI pd pb d = 1 := by
  obtain ⟨h1, h2, h3, h4⟩ := (abvB_iff _ _ _ _).1 h
  obtain ⟨f1, _⟩ := (fine_iff _ _).1 h1
  rw [bitI_yes h2 f1 hd]
  omega
theorem abv_step (h : abvB d b pd pb = true) (hd : d < pd) : abvB (d + 1) (2 * b + bitI pd pb d) pd pb = true := by
  obtain ⟨h1, h2, h3, h4⟩ := (abvB_iff _ _ _ _).1 h
  obtain ⟨f1, _⟩ := (fine_iff _ _).1 h1
  have e := pv_succ (m := d) h2 f1 hd
  rw [h4] at e
  refine (abvB_iff _ _ _ _).2 ⟨?_, h2, by omega, e⟩
  rw [← e]
  exact pv_fine h2 (by omega) (by omega)
theorem abv_0 (h : abvB d b pd pb = true) (hd : d < pd) (hb : bitI pd pb d = 0) : abvB (d + 1) (2 * b) pd pb = true := by
  have := abv_step h hd
  rwa [hb, Int.add_zero] at this
theorem abv_1 (h : abvB d b pd pb = true) (hd : d < pd) (hb : bitI pd pb d = 1) : abvB (d + 1) (2 * b + 1) pd pb = true := by
  have := abv_step h hd
  rwa [hb] at this
theorem abv_32 (h : abvB d b pd pb = true) (hd : d < pd) : d < 32 := by
  obtain ⟨h1, h2, _⟩ := (abvB_iff _ _ _ _).1 h
  obtain ⟨_, f2, _⟩ := (fine_iff _ _).1 h2
  omega
theorem abv_fine (h : abvB d b pd pb = true) : fine d b = true := ((abvB_iff _ _ _ _).1 h).1
theorem abv_dle (h : abvB d b pd pb = true) : d ≤ pd := ((abvB_iff _ _ _ _).1 h).2.2.1
theorem Tr.put_gap (n : Tr) : ∀ (m : Nat) (d b : Int), d + m = pd → abvB d b pd pb = true → (Tr.put pd pb n m d .gap).tiles d b = n.tiles pd pb
  | 0, d, b, e, h => by
    have e' : d = pd := by omega
    have := abv_eq h e'
    subst this; subst e'
    rfl
  | m + 1, d, b, e, h => by
    have hd : d < pd := by omega
    unfold Tr.put
    rcases bit_two h hd with hb | hb
    · rw [if_pos hb, Tr.mk_tiles]
      simp only [Tr.kids]
      rw [Tr.put_gap n m (d + 1) (2 * b) (by omega) (abv_0 h hd hb)]
      simp [Tr.tiles]
    · rw [if_neg (by omega), Tr.mk_tiles]
      simp only [Tr.kids]
      rw [Tr.put_gap n m (d + 1) (2 * b + 1) (by omega) (abv_1 h hd hb)]
      simp [Tr.tiles]
end
/-- A tree in memory: the numbers of its blocks beside it. -/
inductive PT
  | gap : PT
  | leaf (g : Nat) (who : Int) : PT
  | node (g : Nat) (z : Int) (l r : PT) : PT
def PT.tr : PT → Tr
  | .gap => .gap
  | .leaf _ who => .leaf who
  | .node _ _ l r => .node l.tr r.tr
def PT.bl : PT → List Nat
  | .gap => []
  | .leaf g _ => [g]
  | .node g _ l r => g :: (l.bl ++ r.bl)
def PT.isLeaf : PT → Bool
  | .leaf _ _ => true
  | _ => false
def PT.isNode : PT → Bool
  | .node _ _ _ _ => true
  | _ => false
theorem PT.gap_iff (p : PT) : p.tr = .gap ↔ p = .gap := by cases p <;> simp [PT.tr]
/-- Where the way to the path ends, and what is there. -/
def PT.tow (pd pb : Int) : PT → Int → Int → PT × Int × Int
  | .node g z l r, d, b => if d = pd then (.node g z l r, d, b) else if bitI pd pb d = 0 then l.tow pd pb (d + 1) (2 * b) else r.tow pd pb (d + 1) (2 * b + 1)
  | .gap, d, b => (.gap, d, b)
  | .leaf g w, d, b => (.leaf g w, d, b)
theorem PT.tow_bl (pd pb : Int) : ∀ (p : PT) (d b : Int), ∀ x ∈ (p.tow pd pb d b).1.bl, x ∈ p.bl
  | .gap, _, _, x, h => h
  | .leaf _ _, _, _, x, h => h
  | .node g z l r, d, b, x, h => by
    unfold PT.tow at h
    split at h
    · exact h
    · split at h
      · exact List.mem_cons_of_mem _ (List.mem_append.2 (.inl (PT.tow_bl pd pb l _ _ x h)))
      · exact List.mem_cons_of_mem _ (List.mem_append.2 (.inr (PT.tow_bl pd pb r _ _ x h)))
theorem PT.tow_norm (pd pb : Int) : ∀ (p : PT) (d b : Int), p.tr.norm → (p.tow pd pb d b).1.tr.norm
  | .gap, _, _, h => h
  | .leaf _ _, _, _, h => h
  | .node g z l r, d, b, h => by
    unfold PT.tow
    split
    · exact h
    · split
      · exact PT.tow_norm pd pb l _ _ h.2.1
      · exact PT.tow_norm pd pb r _ _ h.2.2
/-- The tiles ahead of what is there, and behind it. -/
theorem PT.tow_spec (pd pb : Int) : ∀ (p : PT) (d b : Int), abvB d b pd pb = true → d + p.tr.high ≤ 32 → ∃ (s : PT) (e c : Int), p.tow pd pb d b = (s, e, c) ∧ abvB e c pd pb = true ∧ (e = pd ∨ s.isNode = false) ∧ e + s.tr.high ≤ d + p.tr.high ∧
    ∃ pre post, p.tr.tiles d b = pre ++ s.tr.tiles e c ++ post ∧ (∀ x ∈ pre ++ post, metB x.d x.b pd pb = false) ∧
      (s = .gap ∨ e = pd → ∀ n : Tr, (Tr.put pd pb n (pd - d).toNat d p.tr).tiles d b = pre ++ n.tiles pd pb ++ post)
  | .gap, d, b, h, _ => by
    refine ⟨.gap, d, b, rfl, h, .inr rfl, Int.le_refl _, [], [], rfl, by simp, fun _ n => ?_⟩
    rw [List.nil_append, List.append_nil]
    exact Tr.put_gap n _ d b (by have := abv_dle h; omega) h
  | .leaf g w, d, b, h, _ => by
    refine ⟨.leaf g w, d, b, rfl, h, .inr rfl, Int.le_refl _, [], [], by simp, by simp, fun hs n => ?_⟩
    rcases hs with hs | hs
    · cases hs
    · rw [show (pd - d).toNat = 0 by omega, abv_eq h hs, hs]
      simp [Tr.put]
  | .node g z l r, d, b, h, hh => by
    simp only [PT.tr, Tr.high] at hh
    by_cases e : d = pd
    · refine ⟨.node g z l r, d, b, by simp [PT.tow, e], h, .inl e, Int.le_refl _, [], [], by simp, by simp, fun _ n => ?_⟩
      rw [show (pd - d).toNat = 0 by omega, abv_eq h e, e]
      simp [Tr.put]
    · have hd : d < pd := by have := abv_dle h; omega
      have hd32 := abv_32 h hd
      have hf := abv_fine h
      have em : (pd - d).toNat = (pd - (d + 1)).toNat + 1 := by omega
      rcases bit_two h hd with hb | hb
      · have ha := abv_0 h hd hb
        obtain ⟨s, e', c, h1, h2, h3, h4, pre, post, h5, h6, h7⟩ := PT.tow_spec pd pb l (d + 1) (2 * b) ha (by omega)
        refine ⟨s, e', c, by rw [PT.tow, if_neg e, if_pos hb, h1], h2, h3, by simp only [PT.tr, Tr.high]; omega, pre, post ++ r.tr.tiles (d + 1) (2 * b + 1), ?_, ?_, ?_⟩
        · simp only [PT.tr, Tr.tiles, h5, List.append_assoc]
        · intro x hx
          rw [← List.append_assoc] at hx
          rcases List.mem_append.1 hx with hx | hx
          · exact h6 x hx
          · rw [metB_comm]
            exact (halves_apart hf hd32 ha (Tr.tiles_abv r.tr _ _ (fine_r hf hd32) (by omega) x hx).1).2
        · intro hs n
          rw [em]
          simp only [PT.tr, Tr.put, if_pos hb, Tr.kids]
          rw [Tr.mk_tiles, h7 hs n]
          simp only [List.append_assoc]
      · have ha := abv_1 h hd hb
        have hb0 : ¬ bitI pd pb d = 0 := by omega
        obtain ⟨s, e', c, h1, h2, h3, h4, pre, post, h5, h6, h7⟩ := PT.tow_spec pd pb r (d + 1) (2 * b + 1) ha (by omega)
        refine ⟨s, e', c, by rw [PT.tow, if_neg e, if_neg hb0, h1], h2, h3, by simp only [PT.tr, Tr.high]; omega, l.tr.tiles (d + 1) (2 * b) ++ pre, post, ?_, ?_, ?_⟩
        · simp only [PT.tr, Tr.tiles, h5, List.append_assoc]
        · intro x hx
          rw [List.append_assoc] at hx
          rcases List.mem_append.1 hx with hx | hx
          · exact (halves_apart hf hd32 (Tr.tiles_abv l.tr _ _ (fine_l hf hd32) (by omega) x hx).1 ha).2
          · exact h6 x hx
        · intro hs n
          rw [em]
          simp only [PT.tr, Tr.put, if_neg hb0, Tr.kids]
          rw [Tr.mk_tiles, h7 hs n]
          simp only [List.append_assoc]
section
variable {L pre post : List Tl} {d b : Int}
theorem met_self (h : fine d b = true) : metB d b d b = true := by unfold metB; rw [abv_self h]; rfl
/-- Elements that do not meet the path are not it, nor a half of it. -/
theorem mid_ne (hf : fine d b = true) (h : ∀ x ∈ pre ++ post, metB x.d x.b d b = false) : ∀ x ∈ pre ++ post, ¬ (x.d = d ∧ x.b = b) := by
  rintro x hx ⟨h1, h2⟩
  have := h x hx
  rw [h1, h2, met_self hf] at this
  cases this
theorem hasT_app (A B C : List Tl) (d b : Int) : hasT (A ++ B ++ C) d b = (hasT A d b || hasT B d b || hasT C d b) := by unfold hasT; rw [List.any_append, List.any_append]
theorem hasT_no {A : List Tl} (h : ∀ x ∈ A, ¬ (x.d = d ∧ x.b = b)) : hasT A d b = false := by
  refine Bool.eq_false_iff.2 fun z => ?_
  obtain ⟨s, h1, h2, h3⟩ := (hasT_iff _ _ _).1 z
  exact h s h1 ⟨h2, h3⟩
theorem hasT_mid {B : List Tl} (h : ∀ x ∈ pre ++ post, ¬ (x.d = d ∧ x.b = b)) : hasT (pre ++ B ++ post) d b = hasT B d b := by
  rw [hasT_app, hasT_no (fun x hx => h x (List.mem_append.2 (.inl hx))), hasT_no (fun x hx => h x (List.mem_append.2 (.inr hx))), Bool.false_or, Bool.or_false]
theorem filter_no {f : Tl → Bool} {A : List Tl} (h : ∀ x ∈ A, f x = false) : A.filter f = [] := List.filter_eq_nil_iff.2 (fun x hx => by rw [h x hx]; exact Bool.false_ne_true)
theorem filter_out {f : Tl → Bool} {B : List Tl} (h : ∀ x ∈ pre ++ post, f x = false) : (pre ++ B ++ post).filter f = B.filter f := by
  rw [List.filter_append, List.filter_append, filter_no (A := pre) (fun x hx => h x (List.mem_append.2 (.inl hx))), filter_no (A := post) (fun x hx => h x (List.mem_append.2 (.inr hx))), List.append_nil]
  rfl
theorem flat_mid {f : Tl → List Tl} {B : List Tl} (h : ∀ x ∈ pre ++ post, f x = [x]) : (pre ++ B ++ post).flatMap f = pre ++ B.flatMap f ++ post := by
  rw [List.flatMap_append, List.flatMap_append, flat_self pre f (fun x hx => h x (List.mem_append.2 (.inl hx))), flat_self post f (fun x hx => h x (List.mem_append.2 (.inr hx)))]
theorem split_mid (hf : fine d b = true) (h : ∀ x ∈ pre ++ post, metB x.d x.b d b = false) (w who : Int) : splT (pre ++ [(⟨d, b, w⟩ : Tl)] ++ post) d b who = pre ++ [⟨d + 1, 2 * b, w⟩, ⟨d + 1, 2 * b + 1, who⟩] ++ post := by
  unfold splT
  rw [flat_mid (fun x hx => if_neg (mid_ne hf h x hx))]
  simp
end
end Go.Proofs.Ytbbnojfecmocgaa
