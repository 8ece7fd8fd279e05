/- tiling: where a path's way ends, what is put there, and what the lists of tiles say of it. tiling: Drop, Split, Merge, Give, Add. -/
import Derived.Test.YtbbnojfecmocgaaK28
namespace Go.Proofs.Ytbbnojfecmocgaa
open Go.RowKit
set_option linter.unusedVariables false
theorem tow_clear (pd pb : Int) : ∀ (m : Nat) (p : PT) (d b : Int) {s : PT} {e c : Int}, d + m = pd → abvB d b pd pb = true → p.tow pd pb d b = (s, e, c) → (s = .gap ∨ e = pd) → PT.clear pd pb m d p
  | 0, p, d, b, s, e, c, _, _, _, _ => by cases p <;> trivial
  | m + 1, .gap, d, b, s, e, c, _, _, _, _ => trivial
  | m + 1, .leaf g w, d, b, s, e, c, hm, _, h, hs => by
    obtain ⟨rfl, rfl, rfl⟩ : PT.leaf g w = s ∧ d = e ∧ b = c := by simpa [PT.tow] using h
    rcases hs with hs | hs
    · cases hs
    · omega
  | m + 1, .node g z l r, d, b, s, e, c, hm, ha, h, hs => by
    have hd : d < pd := by omega
    unfold PT.tow at h
    rw [if_neg (by omega)] at h
    unfold PT.clear
    rcases bit_two ha hd with hb | hb
    · rw [if_pos hb] at h ⊢
      exact tow_clear pd pb m l _ _ (by omega) (abv_0 ha hd hb) h hs
    · rw [if_neg (by omega)] at h ⊢
      exact tow_clear pd pb m r _ _ (by omega) (abv_1 ha hd hb) h hs
theorem tow_rest (pd pb : Int) : ∀ (m : Nat) (p : PT) (d b : Int) {s : PT} {e c : Int}, d + m = pd → abvB d b pd pb = true → p.tow pd pb d b = (s, e, c) → e = pd → p.bl.Nodup → ∀ x ∈ s.bl, x ∉ PT.rest pd pb m d p
  | 0, p, d, b, s, e, c, _, _, _, _, _, x, _ => by cases p <;> exact fun z => by cases z
  | m + 1, .gap, d, b, s, e, c, _, _, _, _, _, x, _ => fun z => by cases z
  | m + 1, .leaf g w, d, b, s, e, c, _, _, _, _, _, x, _ => fun z => by cases z
  | m + 1, .node g z l r, d, b, s, e, c, hm, ha, h, he, hn, x, hx => by
    have hd : d < pd := by omega
    obtain ⟨n1, n2, n3, n4, n5⟩ := nodup_parts hn
    unfold PT.tow at h
    rw [if_neg (by omega)] at h
    unfold PT.rest
    rcases bit_two ha hd with hb | hb
    · rw [if_pos hb] at h ⊢
      have hl : x ∈ l.bl := by have := PT.tow_bl pd pb l (d + 1) (2 * b) x; rw [h] at this; exact this hx
      have ih := tow_rest pd pb m l _ _ (by omega) (abv_0 ha hd hb) h he n1 x hx
      intro y
      rcases List.mem_cons.1 y with y | y
      · exact n3 (y ▸ hl)
      · rcases List.mem_append.1 y with y | y
        · exact ih y
        · exact n5 x hl y
    · rw [if_neg (by omega)] at h ⊢
      have hl : x ∈ r.bl := by have := PT.tow_bl pd pb r (d + 1) (2 * b + 1) x; rw [h] at this; exact this hx
      have ih := tow_rest pd pb m r _ _ (by omega) (abv_1 ha hd hb) h he n2 x hx
      intro y
      rcases List.mem_cons.1 y with y | y
      · exact n4 (y ▸ hl)
      · rcases List.mem_append.1 y with y | y
        · exact n5 x y hl
        · exact ih y
theorem Tr.tiles_ge : ∀ (t : Tr) (d b : Int), ∀ s ∈ t.tiles d b, d ≤ s.d
  | .gap, _, _, s, hs => by cases hs
  | .leaf w, d, b, s, hs => by
    obtain rfl := List.mem_singleton.1 hs
    exact Int.le_refl _
  | .node l r, d, b, s, hs => by
    rcases List.mem_append.1 hs with h | h
    · have := Tr.tiles_ge l (d + 1) (2 * b) s h; omega
    · have := Tr.tiles_ge r (d + 1) (2 * b + 1) s h; omega
theorem Tr.node_gt {l r : Tr} {d b : Int} : ∀ s ∈ (Tr.node l r).tiles d b, d + 1 ≤ s.d := by
  intro s hs
  rcases List.mem_append.1 hs with h | h
  · exact Tr.tiles_ge l (d + 1) (2 * b) s h
  · exact Tr.tiles_ge r (d + 1) (2 * b + 1) s h
theorem Tr.norm_some {t : Tr} (h : t.norm) (hg : t ≠ .gap) (d b : Int) : t.tiles d b ≠ [] := fun z => hg (Tr.norm_bare h ((Tr.bare_tiles t d b).2 z))
/-- What is known where a way ends. -/
structure WayE (k : Int) (p : PT) (pd pb : Int) (s : PT) (ed eb : Int) (pre post : List Tl) : Prop where
  tow : p.tow pd pb 0 0 = (s, ed, eb)
  abv : abvB ed eb pd pb = true
  last : ed = pd ∨ s.isNode = false
  high : ed + s.tr.high ≤ 2 * k
  tiles : p.tr.tiles 0 0 = pre ++ s.tr.tiles ed eb ++ post
  out : ∀ x ∈ pre ++ post, metB x.d x.b pd pb = false
  put : s = .gap ∨ ed = pd → ∀ n : Tr, (Tr.put pd pb n pd.toNat 0 p.tr).tiles 0 0 = pre ++ n.tiles pd pb ++ post
  norm : s.tr.norm
  k16 : k ≤ 16
theorem way_of {k : Int} {p : PT} (hn : p.tr.norm) (hh : (p.tr.high : Int) ≤ 2 * k) (hk : k ≤ 16) {pd pb : Int} (hf : fine pd pb = true) : ∃ s ed eb pre post, WayE k p pd pb s ed eb pre post := by
  obtain ⟨s, e, c, h1, h2, h3, h4, pre, post, h5, h6, h7⟩ := PT.tow_spec pd pb p 0 0 (abv_root hf) (by omega)
  refine ⟨s, e, c, pre, post, h1, h2, h3, by omega, h5, h6, fun hs n => ?_, ?_, hk⟩
  · have := h7 hs n
    rwa [Int.sub_zero] at this
  · have := PT.tow_norm pd pb p 0 0 hn
    rw [h1] at this
    exact this
def PT.isGap : PT → Bool
  | .gap => true
  | _ => false
section
variable {k : Int} {p s : PT} {pd pb ed eb : Int} {pre post : List Tl}
theorem WayE.fine (h : WayE k p pd pb s ed eb pre post) : fine pd pb = true := ((abvB_iff _ _ _ _).1 h.abv).2.1
theorem WayE.same (h : WayE k p pd pb s ed eb pre post) (e : ed = pd) : eb = pb := abv_eq h.abv e
theorem WayE.le (h : WayE k p pd pb s ed eb pre post) : ed ≤ pd := abv_dle h.abv
theorem WayE.pn (h : WayE k p pd pb s ed eb pre post) : (0 : Int) + (pd.toNat : Nat) = pd := by have := ((fine_iff _ _).1 h.fine).1; omega
theorem WayE.clear (h : WayE k p pd pb s ed eb pre post) (hs : s = .gap ∨ ed = pd) : PT.clear pd pb pd.toNat 0 p := tow_clear pd pb _ p 0 0 h.pn (abv_root h.fine) h.tow hs
theorem WayE.rest (h : WayE k p pd pb s ed eb pre post) (hs : ed = pd) (hn : p.bl.Nodup) : ∀ x ∈ s.bl, x ∉ PT.rest pd pb pd.toNat 0 p := tow_rest pd pb _ p 0 0 h.pn (abv_root h.fine) h.tow hs hn
theorem WayE.bl (h : WayE k p pd pb s ed eb pre post) : ∀ x ∈ s.bl, x ∈ p.bl := fun x hx => by
  have := PT.tow_bl pd pb p 0 0 x
  rw [h.tow] at this
  exact this hx
theorem WayE.atP (h : WayE k p pd pb s ed eb pre post) : atP k p pd pb = if okP k pd pb = true ∧ ed = pd then s else .gap := by unfold Go.Proofs.Ytbbnojfecmocgaa.atP; rw [h.tow]
/-- The path is a tile's just if its way ends at such. -/
theorem WayE.has (h : WayE k p pd pb s ed eb pre post) : hasT (p.tr.tiles 0 0) pd pb = decide (ed = pd ∧ s.isLeaf = true) := by
  rw [h.tiles, hasT_mid (mid_ne h.fine h.out)]
  have hle := h.le
  cases hs : s with
  | gap => simp [PT.tr, Tr.tiles, hasT, PT.isLeaf]
  | leaf g w =>
    by_cases e : ed = pd
    · simp [PT.tr, Tr.tiles, hasT, PT.isLeaf, e, h.same e]
    · simp [PT.tr, Tr.tiles, hasT, PT.isLeaf, e]
  | node g z l r =>
    have e1 : hasT ((PT.node g z l r).tr.tiles ed eb) pd pb = false := hasT_no (fun x hx => by
      have h1 := Tr.node_gt (l := l.tr) (r := r.tr) x hx
      have h2 : ed = pd := by have := h.last; rw [hs] at this; simpa [PT.isNode] using this
      omega)
    rw [e1]
    simp [PT.isLeaf]
/-- No tile meets the path just if its way ends in a gap. -/
theorem WayE.met (h : WayE k p pd pb s ed eb pre post) : (p.tr.tiles 0 0).any (fun x => metB x.d x.b pd pb) = !s.isGap := by
  have e1 : ∀ A : List Tl, (∀ x ∈ A, metB x.d x.b pd pb = false) → A.any (fun x => metB x.d x.b pd pb) = false := fun A hA => Bool.eq_false_iff.2 fun z => by
    obtain ⟨x, h1, h2⟩ := List.any_eq_true.1 z
    rw [hA x h1] at h2
    cases h2
  rw [h.tiles, List.any_append, List.any_append, e1 pre (fun x hx => h.out x (List.mem_append.2 (.inl hx))), e1 post (fun x hx => h.out x (List.mem_append.2 (.inr hx))), Bool.false_or, Bool.or_false]
  by_cases hs : s = .gap
  · rw [hs]; rfl
  · rw [show s.isGap = false by cases s <;> first | rfl | exact absurd rfl hs, Bool.not_false]
    have hn := Tr.norm_some h.norm (fun z => hs ((PT.gap_iff _).1 z)) ed eb
    obtain ⟨x, hx⟩ := List.exists_mem_of_ne_nil _ hn
    refine List.any_eq_true.2 ⟨x, hx, ?_⟩
    cases hc : s with
    | gap => exact absurd hc hs
    | leaf g w =>
      rw [hc] at hx
      obtain rfl := List.mem_singleton.1 hx
      unfold metB
      rw [show abvB ed eb pd pb = true from h.abv]
      rfl
    | node g z l r =>
      have h2 : ed = pd := by have := h.last; rw [hc] at this; simpa [PT.isNode] using this
      have h3 := h.same h2
      have hf := h.fine
      have h4 := (Tr.tiles_abv s.tr ed eb (by rw [h2, h3]; exact hf) (by have := h.high; have := h.k16; omega) x hx).1
      rw [h2, h3] at h4
      unfold metB
      rw [h4, Bool.or_true]
end
end Go.Proofs.Ytbbnojfecmocgaa
namespace Go.Proofs.Ytbbnojfecmocgaa
open Go.RowKit
set_option linter.unusedVariables false
/-- Behind a change: its error, its tiles. -/
def ChgO (g : Nat) (p : PT) (k : Int) (r : Int × List Tl) (W : World) (e : Ending) (W' : World) : Prop :=
  e = .returned (.int .i64 r.1) ∧ ∃ q', TilO g q' k W' ∧ q'.tr.tiles 0 0 = r.2 ∧ Off (fun x => x ∈ g :: p.bl) W W' ∧ ∀ x ∈ q'.bl, x ∈ p.bl ∨ W.heap.size ≤ x
theorem ChgO.no {g : Nat} {p : PT} {k e : Int} {W W' : World} (h : TilO g p k W) (hs : Since W W') : ChgO g p k (e, p.tr.tiles 0 0) W (.returned (.int .i64 e)) W' :=
  ⟨rfl, p, h.since hs, rfl, hs.off _, fun _ h => .inl h⟩
/-- Behind put, the number stored. -/
theorem TilO.after {g : Nat} {p q' n s : PT} {k sz pd pb ed eb sz' : Int} {pre post : List Tl} {w w1 W1 : World} (h : TilO g p k w) (hw : WayE k p pd pb s ed eb pre post) (hs : s = .gap ∨ ed = pd) (hs1 : Since w w1)
    (h1 : Whole W1 g 91 #[.int .i64 k, q'.v, .int .i64 sz]) (h2 : q'.At W1) (h3 : (g :: q'.bl).Nodup) (h4 : ∀ x ∈ q'.bl, x ∈ p.bl ∨ x ∈ n.bl ∨ w1.heap.size ≤ x) (h5 : q'.tr = Tr.put pd pb n.tr pd.toNat 0 p.tr) (h6 : Off (fun x => x = g ∨ x ∈ p.bl) w1 W1)
    (hn : n.tr.norm) (hh : pd + n.tr.high ≤ 2 * k) (hnb : ∀ x ∈ n.bl, x ∈ p.bl ∨ w.heap.size ≤ x) {L : List Tl} (hL : pre ++ n.tr.tiles pd pb ++ post = L) (hsz : sz' = (L.length : Int)) (hm : L.length ≤ 64) :
    ChgO g p k (0, L) w (.returned (.int .i64 0)) (W1.setCell ⟨g, 2, none⟩ (.int .i64 sz')) := by
  have hpd := (fine_iff _ _).1 hw.fine
  have e1 : q'.tr.tiles 0 0 = L := by rw [h5, hw.put hs, hL]
  have hq : ∀ x ∈ q'.bl, x ≠ g := fun x hx z => (List.nodup_cons.1 h3).1 (z ▸ hx)
  refine ⟨rfl, q', ⟨?_, h2.keep (fun x hx => Below.heap_setCell _ _ _ _ (hq x hx)), ?_, h3, ?_, ?_, h.right⟩, e1, ?_, ?_⟩
  · rw [e1, ← hsz]
    exact h1.set_ 2 _
  · rw [h5]; exact Tr.put_norm pd pb hn _ _ _ h.norm
  · have := Tr.put_high pd pb n.tr pd.toNat 0 p.tr
    rw [← h5] at this
    have := h.high
    omega
  · rw [e1]; exact hm
  · refine (Off.trans (hs1.off _) h6 (fun x _ z => ?_)).setCell (p := ⟨g, 2, none⟩) (.inr List.mem_cons_self) _
    rcases z with rfl | z
    · exact List.mem_cons_self
    · exact List.mem_cons_of_mem _ z
  · intro x hx
    rcases h4 x hx with z | z | z
    · exact .inl z
    · exact hnb x z
    · exact .inr (Nat.le_trans hs1.size_ z)
section
variable {g : Nat} {p : PT} {k : Int} {w : World}
theorem TilO.way (h : TilO g p k w) {pd pb : Int} (hf : fine pd pb = true) : ∃ s ed eb pre post, WayE k p pd pb s ed eb pre post := way_of h.norm h.high h.kb.2 hf
/-- What stands at a path. -/
theorem TilO.atLeaf (h : TilO g p k w) (pd pb : Int) : (∃ g2 who pre post, okP k pd pb = true ∧ atP k p pd pb = .leaf g2 who ∧ WayE k p pd pb (.leaf g2 who) pd pb pre post ∧ hasT (p.tr.tiles 0 0) pd pb = true) ∨ ((atP k p pd pb).isLeaf = false ∧ hasT (p.tr.tiles 0 0) pd pb = false) := by
  cases hok : okP k pd pb with
  | false =>
    refine .inr ⟨by unfold atP; rw [hok]; rfl, ?_⟩
    refine hasT_no (fun x hx z => ?_)
    obtain ⟨h1, h2⟩ := Tr.tiles_abv p.tr 0 0 (by decide) (by have := h.high; have := h.kb; omega) x hx
    have h3 := ((abvB_iff _ _ _ _).1 h1).2.1
    obtain ⟨h4, h5, h6, h7⟩ := (fine_iff _ _).1 h3
    rw [z.1] at h2 h4 h5 h7
    rw [z.2] at h6 h7
    have := (okP_iff k pd pb).2 ⟨h.kb.1, h.kb.2, h4, by have := h.high; omega, h6, h7⟩
    rw [hok] at this; cases this
  | true =>
    obtain ⟨s, ed, eb, pre, post, hw⟩ := h.way (okP_fine hok)
    have e1 := hw.atP
    rw [hok] at e1
    have e2 := hw.has
    by_cases hc : ed = pd ∧ s.isLeaf = true
    · have hc1 := hc.1
      have hc2 := hw.same hc1
      subst hc1; subst hc2
      cases hs : s with
      | gap => rw [hs] at hc; cases hc.2
      | node g z l r => rw [hs] at hc; cases hc.2
      | leaf g2 who =>
        rw [hs] at e1 e2 hw
        exact .inl ⟨g2, who, pre, post, rfl, by rw [e1]; simp, hw, by rw [e2]; simp [PT.isLeaf]⟩
    · refine .inr ⟨?_, by rw [e2]; exact decide_eq_false hc⟩
      rw [e1]
      split
      · next hh => exact Bool.eq_false_iff.2 fun z => hc ⟨hh.2, z⟩
      · rfl
end
end Go.Proofs.Ytbbnojfecmocgaa
