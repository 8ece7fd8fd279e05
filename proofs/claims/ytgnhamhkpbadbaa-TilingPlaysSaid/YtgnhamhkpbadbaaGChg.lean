/- tiling: Drop, Split, Merge, Give, Add. -/
import Derived.Test.YtgnhamhkpbadbaaGWay
namespace Go.Proofs.Ytgnhamhkpbadbaa
open Go.RowKit
set_option linter.unusedVariables false
/-- Behind a change: its error, its tiles. -/
def ChgO (g : Nat) (p : PT) (k : Int) (r : Int × List Tl) (W : World) (e : Ending) (W' : World) : Prop :=
  e = .returned (.int .i64 r.1) ∧ ∃ q', TilO g q' k W' ∧ q'.tr.tiles 0 0 = r.2 ∧ Off (fun x => x ∈ g :: p.bl) W W' ∧ ∀ x ∈ q'.bl, x ∈ p.bl ∨ W.heap.size ≤ x
theorem ChgO.no {g : Nat} {p : PT} {k e : Int} {W W' : World} (h : TilO g p k W) (hs : Since W W') : ChgO g p k (e, p.tr.tiles 0 0) W (.returned (.int .i64 e)) W' :=
  ⟨rfl, p, h.since hs, rfl, hs.off _, fun _ h => .inl h⟩
/-- Behind put, the number stored. -/
theorem TilO.after {g : Nat} {p q' n s : PT} {k sz pd pb ed eb sz' : Int} {pre post : List Tl} {w w1 W1 : World} (h : TilO g p k w) (hw : WayE k p pd pb s ed eb pre post) (hs : s = .gap ∨ ed = pd) (hs1 : Since w w1)
    (h1 : Whole W1 g 88 #[.int .i64 k, q'.v, .int .i64 sz]) (h2 : q'.At W1) (h3 : (g :: q'.bl).Nodup) (h4 : ∀ x ∈ q'.bl, x ∈ p.bl ∨ x ∈ n.bl ∨ w1.heap.size ≤ x) (h5 : q'.tr = Tr.put pd pb n.tr pd.toNat 0 p.tr) (h6 : Off (fun x => x = g ∨ x ∈ p.bl) w1 W1)
    (hn : n.tr.norm) (hh : pd + n.tr.high ≤ 2 * k) (hnb : ∀ x ∈ n.bl, x ∈ p.bl ∨ w.heap.size ≤ x) {L : List Tl} (hL : pre ++ n.tr.tiles pd pb ++ post = L) (hsz : sz' = (L.length : Int)) (hm : L.length ≤ 64) :
    ChgO g p k (0, L) w (.returned (.int .i64 0)) (W1.setCell ⟨g, 2, none⟩ (.int .i64 sz')) := by
  have hpd := (fine_iff _ _).1 hw.fine
  have e1 : q'.tr.tiles 0 0 = L := by rw [h5, hw.put hs, hL]
  have hq : ∀ x ∈ q'.bl, x ≠ g := fun x hx z => (List.nodup_cons.1 h3).1 (z ▸ hx)
  refine ⟨rfl, q', ⟨?_, h2.keep (fun x hx => Below.heap_setCell _ _ _ _ (hq x hx)), ?_, h3, ?_, ?_, h.right⟩, e1, ?_, ?_⟩
  · rw [e1, ← hsz]
    exact h1.set_ 2 _
  · rw [h5]; exact Tr.put_norm pd pb hn _ _ _ h.norm
  · have := Tr.put_high pd pb n.tr pd.toNat 0 p.tr
    rw [← h5] at this
    have := h.high
    omega
  · rw [e1]; exact hm
  · refine (Off.trans (hs1.off _) h6 (fun x _ z => ?_)).setCell (p := ⟨g, 2, none⟩) (.inr List.mem_cons_self) _
    rcases z with rfl | z
    · exact List.mem_cons_self
    · exact List.mem_cons_of_mem _ z
  · intro x hx
    rcases h4 x hx with z | z | z
    · exact .inl z
    · exact hnb x z
    · exact .inr (Nat.le_trans hs1.size_ z)
section
variable {g : Nat} {p : PT} {k : Int} {w : World}
theorem TilO.way (h : TilO g p k w) {pd pb : Int} (hf : fine pd pb = true) : ∃ s ed eb pre post, WayE k p pd pb s ed eb pre post := way_of h.norm h.high h.kb.2 hf
/-- What stands at a path. -/
theorem TilO.atLeaf (h : TilO g p k w) (pd pb : Int) : (∃ g2 who pre post, okP k pd pb = true ∧ atP k p pd pb = .leaf g2 who ∧ WayE k p pd pb (.leaf g2 who) pd pb pre post ∧ hasT (p.tr.tiles 0 0) pd pb = true) ∨ ((atP k p pd pb).isLeaf = false ∧ hasT (p.tr.tiles 0 0) pd pb = false) := by
  cases hok : okP k pd pb with
  | false =>
    refine .inr ⟨by unfold atP; rw [hok]; rfl, ?_⟩
    refine hasT_no (fun x hx z => ?_)
    obtain ⟨h1, h2⟩ := Tr.tiles_abv p.tr 0 0 (by decide) (by have := h.high; have := h.kb; omega) x hx
    have h3 := ((abvB_iff _ _ _ _).1 h1).2.1
    obtain ⟨h4, h5, h6, h7⟩ := (fine_iff _ _).1 h3
    rw [z.1] at h2 h4 h5 h7
    rw [z.2] at h6 h7
    have := (okP_iff k pd pb).2 ⟨h.kb.1, h.kb.2, h4, by have := h.high; omega, h6, h7⟩
    rw [hok] at this; cases this
  | true =>
    obtain ⟨s, ed, eb, pre, post, hw⟩ := h.way (okP_fine hok)
    have e1 := hw.atP
    rw [hok] at e1
    have e2 := hw.has
    by_cases hc : ed = pd ∧ s.isLeaf = true
    · have hc1 := hc.1
      have hc2 := hw.same hc1
      subst hc1; subst hc2
      cases hs : s with
      | gap => rw [hs] at hc; cases hc.2
      | node g z l r => rw [hs] at hc; cases hc.2
      | leaf g2 who =>
        rw [hs] at e1 e2 hw
        exact .inl ⟨g2, who, pre, post, rfl, by rw [e1]; simp, hw, by rw [e2]; simp [PT.isLeaf]⟩
    · refine .inr ⟨?_, by rw [e2]; exact decide_eq_false hc⟩
      rw [e1]
      split
      · next hh => exact Bool.eq_false_iff.2 fun z => hc ⟨hh.2, z⟩
      · rfl
/-- What stands at a path of which both halves are tiles. -/
theorem TilO.atPair (h : TilO g p k w) (pd pb : Int) : (∃ g1 z g2 w2 g3 w3 pre post, okP k pd pb = true ∧ pd < 32 ∧ atP k p pd pb = .node g1 z (.leaf g2 w2) (.leaf g3 w3) ∧ WayE k p pd pb (.node g1 z (.leaf g2 w2) (.leaf g3 w3)) pd pb pre post ∧ hasT (p.tr.tiles 0 0) (pd + 1) (2 * pb) = true ∧ hasT (p.tr.tiles 0 0) (pd + 1) (2 * pb + 1) = true) ∨
    ((atP k p pd pb).isPair = false ∧ ¬ (hasT (p.tr.tiles 0 0) (pd + 1) (2 * pb) = true ∧ hasT (p.tr.tiles 0 0) (pd + 1) (2 * pb + 1) = true)) := by
  by_cases hb : hasT (p.tr.tiles 0 0) (pd + 1) (2 * pb) = true ∧ hasT (p.tr.tiles 0 0) (pd + 1) (2 * pb + 1) = true
  · refine .inl ?_
    obtain ⟨x, hx, x1, x2⟩ := (hasT_iff _ _ _).1 hb.1
    obtain ⟨y, hy, y1, y2⟩ := (hasT_iff _ _ _).1 hb.2
    obtain ⟨h1, h2⟩ := Tr.tiles_abv p.tr 0 0 (by decide) (by have := h.high; have := h.kb; omega) x hx
    have h3 := ((abvB_iff _ _ _ _).1 h1).2.1
    obtain ⟨h1', h2'⟩ := Tr.tiles_abv p.tr 0 0 (by decide) (by have := h.high; have := h.kb; omega) y hy
    have h3' := ((abvB_iff _ _ _ _).1 h1').2.1
    obtain ⟨h4, h5, h6, h7⟩ := (fine_iff _ _).1 h3
    obtain ⟨h4', h5', h6', h7'⟩ := (fine_iff _ _).1 h3'
    rw [x1] at h2 h4 h5 h7
    rw [x2] at h6 h7
    have hpd : 0 ≤ pd := by
      rcases Int.lt_or_le pd 0 with c | c
      · have e : pd = -1 := by omega
        rw [y1, y2, e] at h7'
        have : (2 : Int) ^ ((-1 : Int) + 1).toNat = 1 := by decide
        omega
      · exact c
    have e2 : (2 : Int) ^ (pd + 1).toNat = 2 * 2 ^ pd.toNat := by
      rw [show (pd + 1).toNat = pd.toNat + 1 by omega, Int.pow_succ]
      omega
    have hok : okP k pd pb = true := (okP_iff k pd pb).2 ⟨h.kb.1, h.kb.2, hpd, by have := h.high; omega, by omega, by omega⟩
    have hlt : pd < 32 := by omega
    obtain ⟨s, ed, eb, pre, post, hw⟩ := h.way (okP_fine hok)
    have e3 := hw.has2 hlt
    rw [hb.1, hb.2] at e3
    have hc := of_decide_eq_true e3.symm
    have e1 := hw.atP
    rw [hok] at e1
    have hc1 := hc.1
    have hc2 := hw.same hc1
    subst hc1; subst hc2
    cases hs : s with
    | gap => rw [hs] at hc; cases hc.2
    | leaf g w => rw [hs] at hc; cases hc.2
    | node g1 z l r =>
      rw [hs] at hc e1 hw
      have hc3 := hc.2
      unfold PT.isPair at hc3
      rw [Bool.and_eq_true] at hc3
      cases l with
      | gap => cases hc3.1
      | node _ _ _ _ => cases hc3.1
      | leaf g2 w2 =>
        cases r with
        | gap => cases hc3.2
        | node _ _ _ _ => cases hc3.2
        | leaf g3 w3 => exact ⟨g1, z, g2, w2, g3, w3, pre, post, hok, hlt, by rw [e1]; simp, hw, hb.1, hb.2⟩
  · refine .inr ⟨Bool.eq_false_iff.2 fun z => hb ?_, hb⟩
    unfold atP at z
    split at z
    · next hc =>
      obtain ⟨s, ed, eb, pre, post, hw⟩ := h.way (okP_fine hc.1)
      rw [hw.tow] at z hc
      have hp : pd < 32 := by
        have := hw.high
        have := h.kb
        have hc2 : ed = pd := hc.2
        cases hs : s with
        | gap => rw [hs] at z; cases z
        | leaf g w => rw [hs] at z; cases z
        | node g1 y l r => have h9 := hw.high; rw [hs] at h9; simp only [PT.tr, Tr.high] at h9; omega
      have e3 := hw.has2 hp
      rw [decide_eq_true ⟨hc.2, z⟩, Bool.and_eq_true] at e3
      exact e3
    · cases z
end
set_option maxRecDepth 100000 in
set_option maxHeartbeats 1600000 in
theorem drop_any {g : Nat} {p : PT} {k : Int} {w : World} (h : TilO g p k w) (pd pb : Int) : Calls Try.prog 15 #[.pointer (some ⟨g, 0, none⟩), .agg #[.int .i64 pd, .int .i64 pb]] w (ChgO g p k (dropT (p.tr.tiles 0 0) pd pb) w) := by
  obtain ⟨w0, hw0⟩ : ∃ w0, w0 = w.alloc (.cells #[.int .i64 pd, .int .i64 pb] 27) := ⟨_, rfl⟩
  have hs0 : Since w w0 := by rw [hw0]; exact (Since.refl w).alloc _
  have wh0 : Whole w0 (w.heap.size) 27 #[.int .i64 pd, .int .i64 pb] := by rw [hw0]; exact Whole.new w _ _
  have HW := Lib.hid hw0
  have c0_0 := box_cell wh0 0 (.int .i64 pd) rfl
  have c0_1 := box_cell wh0 1 (.int .i64 pb) rfl
  have hsr := Since.refl w0
  have hsd := hsr.drew
  clear hw0
  rcases h.atLeaf pd pb with ⟨g2, who, pre, post, hok, hat, hw, hhas⟩ | ⟨hat, hhas⟩
  · have hL : (p.tr.tiles 0 0) = pre ++ [⟨pd, pb, who⟩] ++ post := hw.tiles
    have hlen : (p.tr.tiles 0 0).length = (pre ++ post).length + 1 := by rw [hL]; simp; omega
    have hr : dropT (p.tr.tiles 0 0) pd pb = (0, pre ++ post) := by unfold dropT; rw [if_pos hhas, hL, drop_mid hw.fine hw.out]
    rw [hr]
    have hm := h.most
    have hnd := List.nodup_cons.1 h.nodup
    have HT := Lib.hid (fun W (hW : Since w0 W) => tile_yes (h.since (hs0.trans hW)) hat)
    have HP := Lib.hid (fun W (hW : Since w W) => put_any (n := .gap) (Since.whole hW h.box) (h.at_.since hW) h.nodup hw.fine (hw.clear (.inr rfl)) trivial List.nodup_nil (fun x hx => by cases hx) (fun hx => by cases hx))
    have fin := fun w1 W1 q' (hs1 : Since w w1) a b c d e f => TilO.after (n := .gap) (L := pre ++ post) (sz' := ((pre ++ post).length : Int)) (w1 := w1) (W1 := W1) (q' := q') (sz := ((p.tr.tiles 0 0).length : Int)) h hw (.inr rfl) hs1 a b c d e f trivial (by have := (okP_iff _ _ _).1 hok; simp [PT.tr, Tr.high]; omega) (fun x hx => by cases hx) (by simp [PT.tr, Tr.tiles]) rfl (by omega)
    have hwr : wrap64 (((p.tr.tiles 0 0).length : Int) - 1) = ((pre ++ post).length : Int) := by rw [IntWalk.wrap64_in _ ⟨by omega, by omega⟩]; omega
    have FIN := Lib.hid fin
    simp only [PT.v] at HP
    clear fin hL hlen hr hw hat hhas hok hnd hm
    obtain ⟨LN, hLN⟩ : ∃ n, n = (p.tr.tiles 0 0).length := ⟨_, rfl⟩
    obtain ⟨LM, hLM⟩ : ∃ n, n = (pre ++ post).length := ⟨_, rfl⟩
    rw [← hLN, ← hLM] at hwr
    rw [← hLN] at HP
    rw [← hLN, ← hLM] at FIN
    clear hLN hLM
    go_enter Try.func15, Try.ntmps15
    go_wp2_with fail
    rw [← HW.out]
    go_wp2_with (first | (go_at_call 50; (with_reducible refine (Calls.since (by assumption) (HT.out _ (by assumption))).mono ?_); rintro e w1 ⟨rfl, hb1⟩; have hs1 := hs0.trans hb1) | (go_at_call 51; (with_reducible refine (HP.out _ (by assumption)).mono ?_); rintro e w2 ⟨rfl, q', f1, f2, f3, f4, f5, f6⟩; have y0 := f1.cell 2; have y1 := f1.frozen 2))
    go_ret
    exact FIN.out _ _ _ (by assumption) f1 f2 f3 f4 f5 f6
  · have hr : dropT (p.tr.tiles 0 0) pd pb = (3, p.tr.tiles 0 0) := by unfold dropT; rw [if_neg (by rw [hhas]; exact Bool.false_ne_true)]
    rw [hr]
    have HT := Lib.hid (fun W (hW : Since w0 W) => tile_no (h.since (hs0.trans hW)) hat)
    go_enter Try.func15, Try.ntmps15
    go_wp2_with fail
    rw [← HW.out]
    go_wp2_with ((go_at_call 50; (with_reducible refine (Calls.since (by assumption) (HT.out _ (by assumption))).mono ?_); rintro e w1 ⟨rfl, hb1⟩; have hs1 := hs0.trans hb1))
    go_ret
    exact ChgO.no h hs1
end Go.Proofs.Ytgnhamhkpbadbaa
