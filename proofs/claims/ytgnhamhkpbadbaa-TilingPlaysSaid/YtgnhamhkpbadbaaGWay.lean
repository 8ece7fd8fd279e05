/- tiling: where a path's way ends, what is put there, and what the lists of tiles say of it. -/
import Derived.Test.YtgnhamhkpbadbaaGPutX
namespace Go.Proofs.Ytgnhamhkpbadbaa
open Go.RowKit
set_option linter.unusedVariables false
theorem tow_clear (pd pb : Int) : ∀ (m : Nat) (p : PT) (d b : Int) {s : PT} {e c : Int}, d + m = pd → abvB d b pd pb = true → p.tow pd pb d b = (s, e, c) → (s = .gap ∨ e = pd) → PT.clear pd pb m d p
  | 0, p, d, b, s, e, c, _, _, _, _ => by cases p <;> trivial
  | m + 1, .gap, d, b, s, e, c, _, _, _, _ => trivial
  | m + 1, .leaf g w, d, b, s, e, c, hm, _, h, hs => by
    obtain ⟨rfl, rfl, rfl⟩ : PT.leaf g w = s ∧ d = e ∧ b = c := by simpa [PT.tow] using h
    rcases hs with hs | hs
    · cases hs
    · omega
  | m + 1, .node g z l r, d, b, s, e, c, hm, ha, h, hs => by
    have hd : d < pd := by omega
    unfold PT.tow at h
    rw [if_neg (by omega)] at h
    unfold PT.clear
    rcases bit_two ha hd with hb | hb
    · rw [if_pos hb] at h ⊢
      exact tow_clear pd pb m l _ _ (by omega) (abv_0 ha hd hb) h hs
    · rw [if_neg (by omega)] at h ⊢
      exact tow_clear pd pb m r _ _ (by omega) (abv_1 ha hd hb) h hs
theorem tow_rest (pd pb : Int) : ∀ (m : Nat) (p : PT) (d b : Int) {s : PT} {e c : Int}, d + m = pd → abvB d b pd pb = true → p.tow pd pb d b = (s, e, c) → e = pd → p.bl.Nodup → ∀ x ∈ s.bl, x ∉ PT.rest pd pb m d p
  | 0, p, d, b, s, e, c, _, _, _, _, _, x, _ => by cases p <;> exact fun z => by cases z
  | m + 1, .gap, d, b, s, e, c, _, _, _, _, _, x, _ => fun z => by cases z
  | m + 1, .leaf g w, d, b, s, e, c, _, _, _, _, _, x, _ => fun z => by cases z
  | m + 1, .node g z l r, d, b, s, e, c, hm, ha, h, he, hn, x, hx => by
    have hd : d < pd := by omega
    obtain ⟨n1, n2, n3, n4, n5⟩ := nodup_parts hn
    unfold PT.tow at h
    rw [if_neg (by omega)] at h
    unfold PT.rest
    rcases bit_two ha hd with hb | hb
    · rw [if_pos hb] at h ⊢
      have hl : x ∈ l.bl := by have := PT.tow_bl pd pb l (d + 1) (2 * b) x; rw [h] at this; exact this hx
      have ih := tow_rest pd pb m l _ _ (by omega) (abv_0 ha hd hb) h he n1 x hx
      intro y
      rcases List.mem_cons.1 y with y | y
      · exact n3 (y ▸ hl)
      · rcases List.mem_append.1 y with y | y
        · exact ih y
        · exact n5 x hl y
    · rw [if_neg (by omega)] at h ⊢
      have hl : x ∈ r.bl := by have := PT.tow_bl pd pb r (d + 1) (2 * b + 1) x; rw [h] at this; exact this hx
      have ih := tow_rest pd pb m r _ _ (by omega) (abv_1 ha hd hb) h he n2 x hx
      intro y
      rcases List.mem_cons.1 y with y | y
      · exact n4 (y ▸ hl)
      · rcases List.mem_append.1 y with y | y
        · exact n5 x y hl
        · exact ih y
theorem Tr.tiles_ge : ∀ (t : Tr) (d b : Int), ∀ s ∈ t.tiles d b, d ≤ s.d
  | .gap, _, _, s, hs => by cases hs
  | .leaf w, d, b, s, hs => by
    obtain rfl := List.mem_singleton.1 hs
    exact Int.le_refl _
  | .node l r, d, b, s, hs => by
    rcases List.mem_append.1 hs with h | h
    · have := Tr.tiles_ge l (d + 1) (2 * b) s h; omega
    · have := Tr.tiles_ge r (d + 1) (2 * b + 1) s h; omega
theorem Tr.node_gt {l r : Tr} {d b : Int} : ∀ s ∈ (Tr.node l r).tiles d b, d + 1 ≤ s.d := by
  intro s hs
  rcases List.mem_append.1 hs with h | h
  · exact Tr.tiles_ge l (d + 1) (2 * b) s h
  · exact Tr.tiles_ge r (d + 1) (2 * b + 1) s h
theorem Tr.norm_some {t : Tr} (h : t.norm) (hg : t ≠ .gap) (d b : Int) : t.tiles d b ≠ [] := fun z => hg (Tr.norm_bare h ((Tr.bare_tiles t d b).2 z))
/-- What is known where a way ends. -/
structure WayE (k : Int) (p : PT) (pd pb : Int) (s : PT) (ed eb : Int) (pre post : List Tl) : Prop where
  tow : p.tow pd pb 0 0 = (s, ed, eb)
  abv : abvB ed eb pd pb = true
  last : ed = pd ∨ s.isNode = false
  high : ed + s.tr.high ≤ 2 * k
  tiles : p.tr.tiles 0 0 = pre ++ s.tr.tiles ed eb ++ post
  out : ∀ x ∈ pre ++ post, metB x.d x.b pd pb = false
  put : s = .gap ∨ ed = pd → ∀ n : Tr, (Tr.put pd pb n pd.toNat 0 p.tr).tiles 0 0 = pre ++ n.tiles pd pb ++ post
  norm : s.tr.norm
  k16 : k ≤ 16
theorem way_of {k : Int} {p : PT} (hn : p.tr.norm) (hh : (p.tr.high : Int) ≤ 2 * k) (hk : k ≤ 16) {pd pb : Int} (hf : fine pd pb = true) : ∃ s ed eb pre post, WayE k p pd pb s ed eb pre post := by
  obtain ⟨s, e, c, h1, h2, h3, h4, pre, post, h5, h6, h7⟩ := PT.tow_spec pd pb p 0 0 (abv_root hf) (by omega)
  refine ⟨s, e, c, pre, post, h1, h2, h3, by omega, h5, h6, fun hs n => ?_, ?_, hk⟩
  · have := h7 hs n
    rwa [Int.sub_zero] at this
  · have := PT.tow_norm pd pb p 0 0 hn
    rw [h1] at this
    exact this
def PT.isGap : PT → Bool
  | .gap => true
  | _ => false
section
variable {k : Int} {p s : PT} {pd pb ed eb : Int} {pre post : List Tl}
theorem WayE.fine (h : WayE k p pd pb s ed eb pre post) : fine pd pb = true := ((abvB_iff _ _ _ _).1 h.abv).2.1
theorem WayE.same (h : WayE k p pd pb s ed eb pre post) (e : ed = pd) : eb = pb := abv_eq h.abv e
theorem WayE.le (h : WayE k p pd pb s ed eb pre post) : ed ≤ pd := abv_dle h.abv
theorem WayE.pn (h : WayE k p pd pb s ed eb pre post) : (0 : Int) + (pd.toNat : Nat) = pd := by have := ((fine_iff _ _).1 h.fine).1; omega
theorem WayE.clear (h : WayE k p pd pb s ed eb pre post) (hs : s = .gap ∨ ed = pd) : PT.clear pd pb pd.toNat 0 p := tow_clear pd pb _ p 0 0 h.pn (abv_root h.fine) h.tow hs
theorem WayE.rest (h : WayE k p pd pb s ed eb pre post) (hs : ed = pd) (hn : p.bl.Nodup) : ∀ x ∈ s.bl, x ∉ PT.rest pd pb pd.toNat 0 p := tow_rest pd pb _ p 0 0 h.pn (abv_root h.fine) h.tow hs hn
theorem WayE.bl (h : WayE k p pd pb s ed eb pre post) : ∀ x ∈ s.bl, x ∈ p.bl := fun x hx => by
  have := PT.tow_bl pd pb p 0 0 x
  rw [h.tow] at this
  exact this hx
theorem WayE.atP (h : WayE k p pd pb s ed eb pre post) : atP k p pd pb = if okP k pd pb = true ∧ ed = pd then s else .gap := by unfold Go.Proofs.Ytgnhamhkpbadbaa.atP; rw [h.tow]
/-- The path is a tile's just if its way ends at such. -/
theorem WayE.has (h : WayE k p pd pb s ed eb pre post) : hasT (p.tr.tiles 0 0) pd pb = decide (ed = pd ∧ s.isLeaf = true) := by
  rw [h.tiles, hasT_mid (mid_ne h.fine h.out)]
  have hle := h.le
  cases hs : s with
  | gap => simp [PT.tr, Tr.tiles, hasT, PT.isLeaf]
  | leaf g w =>
    by_cases e : ed = pd
    · simp [PT.tr, Tr.tiles, hasT, PT.isLeaf, e, h.same e]
    · simp [PT.tr, Tr.tiles, hasT, PT.isLeaf, e]
  | node g z l r =>
    have e1 : hasT ((PT.node g z l r).tr.tiles ed eb) pd pb = false := hasT_no (fun x hx => by
      have h1 := Tr.node_gt (l := l.tr) (r := r.tr) x hx
      have h2 : ed = pd := by have := h.last; rw [hs] at this; simpa [PT.isNode] using this
      omega)
    rw [e1]
    simp [PT.isLeaf]
theorem half_in {l r : PT} {d b : Int} (hn : l.tr.norm) : hasT ((Tr.node l.tr r.tr).tiles d b) (d + 1) (2 * b) = l.isLeaf := by
  cases hl : l with
  | leaf g w => simp [PT.tr, Tr.tiles, hasT, PT.isLeaf]
  | gap =>
    refine hasT_no (fun x hx hz => ?_)
    rcases List.mem_append.1 hx with h | h
    · cases h
    · cases r with
      | gap => cases h
      | leaf g w => obtain rfl := List.mem_singleton.1 h; have := hz.2; simp at this; omega
      | node g z a c => have := Tr.node_gt (l := a.tr) (r := c.tr) x h; omega
  | node g z a c =>
    refine hasT_no (fun x hx hz => ?_)
    rcases List.mem_append.1 hx with h | h
    · have := Tr.node_gt (l := a.tr) (r := c.tr) x h; omega
    · cases r with
      | gap => cases h
      | leaf g w => obtain rfl := List.mem_singleton.1 h; have := hz.2; simp at this; omega
      | node g z a c => have := Tr.node_gt (l := a.tr) (r := c.tr) x h; omega
theorem half_in2 {l r : PT} {d b : Int} : hasT ((Tr.node l.tr r.tr).tiles d b) (d + 1) (2 * b + 1) = r.isLeaf := by
  have key : ∀ x ∈ l.tr.tiles (d + 1) (2 * b), ¬ (x.d = d + 1 ∧ x.b = 2 * b + 1) := by
    intro x h hz
    cases l with
    | gap => cases h
    | leaf g w => obtain rfl := List.mem_singleton.1 h; have := hz.2; simp at this; omega
    | node g z a c => have := Tr.node_gt (l := a.tr) (r := c.tr) x h; omega
  cases hl : r with
  | leaf g w => simp [PT.tr, Tr.tiles, hasT, PT.isLeaf]
  | gap =>
    refine hasT_no (fun x hx hz => ?_)
    rcases List.mem_append.1 hx with h | h
    · exact key x h hz
    · cases h
  | node g z a c =>
    refine hasT_no (fun x hx hz => ?_)
    rcases List.mem_append.1 hx with h | h
    · exact key x h hz
    · have := Tr.node_gt (l := a.tr) (r := c.tr) x h; omega
/-- Both halves are tiles just if the way ends at a pair. -/
theorem WayE.has2 (h : WayE k p pd pb s ed eb pre post) (hd : pd < 32) : (hasT (p.tr.tiles 0 0) (pd + 1) (2 * pb) && hasT (p.tr.tiles 0 0) (pd + 1) (2 * pb + 1)) = decide (ed = pd ∧ s.isPair = true) := by
  have m1 : ∀ b', b' = 2 * pb ∨ b' = 2 * pb + 1 → hasT (p.tr.tiles 0 0) (pd + 1) b' = hasT (s.tr.tiles ed eb) (pd + 1) b' := fun b' hb' => by
    rw [h.tiles, hasT_mid (fun x hx z => mid_half h.fine hd h.out x hx ⟨z.1, hb'.imp z.2.trans z.2.trans⟩)]
  rw [m1 _ (.inl rfl), m1 _ (.inr rfl)]
  have hle := h.le
  have hn := h.norm
  cases hs : s with
  | gap => simp [PT.tr, Tr.tiles, hasT, PT.isPair]
  | leaf g w =>
    have : hasT ((PT.leaf g w).tr.tiles ed eb) (pd + 1) (2 * pb) = false := hasT_no (fun x hx z => by obtain rfl := List.mem_singleton.1 hx; have := z.1; simp at this; omega)
    rw [this]
    simp [PT.isPair]
  | node g z l r =>
    rw [hs] at hn
    have h2 : ed = pd := by have := h.last; rw [hs] at this; simpa [PT.isNode] using this
    have h3 := h.same h2
    subst h2; subst h3
    show (hasT ((Tr.node l.tr r.tr).tiles ed eb) _ _ && hasT ((Tr.node l.tr r.tr).tiles ed eb) _ _) = _
    rw [half_in hn.2.1, half_in2]
    simp [PT.isPair]
/-- No tile meets the path just if its way ends in a gap. -/
theorem WayE.met (h : WayE k p pd pb s ed eb pre post) : (p.tr.tiles 0 0).any (fun x => metB x.d x.b pd pb) = !s.isGap := by
  have e1 : ∀ A : List Tl, (∀ x ∈ A, metB x.d x.b pd pb = false) → A.any (fun x => metB x.d x.b pd pb) = false := fun A hA => Bool.eq_false_iff.2 fun z => by
    obtain ⟨x, h1, h2⟩ := List.any_eq_true.1 z
    rw [hA x h1] at h2
    cases h2
  rw [h.tiles, List.any_append, List.any_append, e1 pre (fun x hx => h.out x (List.mem_append.2 (.inl hx))), e1 post (fun x hx => h.out x (List.mem_append.2 (.inr hx))), Bool.false_or, Bool.or_false]
  by_cases hs : s = .gap
  · rw [hs]; rfl
  · rw [show s.isGap = false by cases s <;> first | rfl | exact absurd rfl hs, Bool.not_false]
    have hn := Tr.norm_some h.norm (fun z => hs ((PT.gap_iff _).1 z)) ed eb
    obtain ⟨x, hx⟩ := List.exists_mem_of_ne_nil _ hn
    refine List.any_eq_true.2 ⟨x, hx, ?_⟩
    cases hc : s with
    | gap => exact absurd hc hs
    | leaf g w =>
      rw [hc] at hx
      obtain rfl := List.mem_singleton.1 hx
      unfold metB
      rw [show abvB ed eb pd pb = true from h.abv]
      rfl
    | node g z l r =>
      have h2 : ed = pd := by have := h.last; rw [hc] at this; simpa [PT.isNode] using this
      have h3 := h.same h2
      have hf := h.fine
      have h4 := (Tr.tiles_abv s.tr ed eb (by rw [h2, h3]; exact hf) (by have := h.high; have := h.k16; omega) x hx).1
      rw [h2, h3] at h4
      unfold metB
      rw [h4, Bool.or_true]
end
end Go.Proofs.Ytgnhamhkpbadbaa
