/- tiling: Give. -/
import Derived.Test.YtgnhamhkpbadbaaGChg
namespace Go.Proofs.Ytgnhamhkpbadbaa
open Go.RowKit
set_option linter.unusedVariables false
/-- The tree with another number at block x. -/
def PT.num (x : Nat) (who : Int) : PT → PT
  | .gap => .gap
  | .leaf g w => if g = x then .leaf g who else .leaf g w
  | .node g z l r => .node g z (l.num x who) (r.num x who)
theorem PT.num_v (x : Nat) (who : Int) (p : PT) : (p.num x who).v = p.v := by
  cases p with
  | gap => rfl
  | leaf g w => unfold PT.num; split <;> rfl
  | node g z l r => rfl
theorem PT.num_bl (x : Nat) (who : Int) : ∀ p : PT, (p.num x who).bl = p.bl
  | .gap => rfl
  | .leaf g w => by unfold PT.num; split <;> rfl
  | .node g z l r => by show g :: _ = g :: _; rw [PT.num_bl x who l, PT.num_bl x who r]
theorem PT.num_gap (x : Nat) (who : Int) (p : PT) : (p.num x who).tr = .gap ↔ p.tr = .gap := by
  cases p with
  | gap => exact Iff.rfl
  | leaf g w => unfold PT.num; split <;> simp [PT.tr]
  | node g z l r => simp [PT.num, PT.tr]
theorem PT.num_norm (x : Nat) (who : Int) : ∀ p : PT, p.tr.norm → (p.num x who).tr.norm
  | .gap, _ => trivial
  | .leaf g w, _ => by unfold PT.num; split <;> trivial
  | .node g z l r, ⟨h1, h2, h3⟩ => ⟨fun z => h1 ⟨(PT.num_gap x who l).1 z.1, (PT.num_gap x who r).1 z.2⟩, PT.num_norm x who l h2, PT.num_norm x who r h3⟩
theorem PT.num_high (x : Nat) (who : Int) : ∀ p : PT, (p.num x who).tr.high = p.tr.high
  | .gap => rfl
  | .leaf g w => by unfold PT.num; split <;> rfl
  | .node g z l r => by show max _ _ + 1 = max _ _ + 1; rw [PT.num_high x who l, PT.num_high x who r]
theorem PT.num_id (x : Nat) (who : Int) : ∀ p : PT, x ∉ p.bl → p.num x who = p
  | .gap, _ => rfl
  | .leaf g w, h => if_neg (fun e => h (List.mem_singleton.2 e.symm))
  | .node g z l r, h => by
    show PT.node g z _ _ = _
    rw [PT.num_id x who l (fun z => h (List.mem_cons_of_mem _ (List.mem_append.2 (.inl z)))), PT.num_id x who r (fun z => h (List.mem_cons_of_mem _ (List.mem_append.2 (.inr z))))]
/-- The tile at the path has the other number, no other one. -/
theorem PT.num_put (pd pb : Int) (g2 : Nat) (wh who : Int) : ∀ (p : PT) (d b : Int), abvB d b pd pb = true → p.bl.Nodup → p.tr.norm → p.tow pd pb d b = (.leaf g2 wh, pd, pb) → (p.num g2 who).tr = Tr.put pd pb (.leaf who) (pd - d).toNat d p.tr
  | .gap, d, b, _, _, _, h => by simp [PT.tow] at h
  | .leaf g w, d, b, _, _, _, h => by
    obtain ⟨⟨rfl, rfl⟩, rfl, rfl⟩ : (g = g2 ∧ w = wh) ∧ d = pd ∧ b = pb := by simpa [PT.tow] using h
    rw [show (d - d).toNat = 0 by omega]
    simp [PT.num, PT.tr, Tr.put]
  | .node g z l r, d, b, ha, hn, hnm, h => by
    obtain ⟨n1, n2, n3, n4, n5⟩ := nodup_parts hn
    unfold PT.tow at h
    by_cases e : d = pd
    · rw [if_pos e] at h; simp at h
    · have hd : d < pd := by have := abv_dle ha; omega
      rw [if_neg e] at h
      rw [show (pd - d).toNat = (pd - (d + 1)).toNat + 1 by omega]
      unfold Tr.put
      simp only [PT.tr, Tr.kids]
      rcases bit_two ha hd with hb | hb
      · rw [if_pos hb] at h ⊢
        have hin : g2 ∈ l.bl := by have := PT.tow_bl pd pb l (d + 1) (2 * b) g2; rw [h] at this; exact this (List.mem_singleton.2 rfl)
        rw [← PT.num_put pd pb g2 wh who l _ _ (abv_0 ha hd hb) n1 hnm.2.1 h]
        show Tr.node (l.num g2 who).tr (r.num g2 who).tr = _
        rw [PT.num_id g2 who r (n5 g2 hin)]
        refine (Tr.mk_node (fun z => ?_)).symm
        have := (PT.gap_iff l).1 ((PT.num_gap g2 who l).1 z.1)
        rw [this] at hin; cases hin
      · rw [if_neg (by omega)] at h ⊢
        have hin : g2 ∈ r.bl := by have := PT.tow_bl pd pb r (d + 1) (2 * b + 1) g2; rw [h] at this; exact this (List.mem_singleton.2 rfl)
        rw [← PT.num_put pd pb g2 wh who r _ _ (abv_1 ha hd hb) n2 hnm.2.2 h]
        show Tr.node (l.num g2 who).tr (r.num g2 who).tr = _
        rw [PT.num_id g2 who l (fun z => n5 g2 z hin)]
        refine (Tr.mk_node (fun z => ?_)).symm
        have := (PT.gap_iff r).1 ((PT.num_gap g2 who r).1 z.2)
        rw [this] at hin; cases hin
theorem PT.num_at (pd pb : Int) (g2 : Nat) (wh who : Int) {W : World} : ∀ (p : PT) (d b : Int), abvB d b pd pb = true → p.bl.Nodup → p.tow pd pb d b = (.leaf g2 wh, pd, pb) → p.At W → (p.num g2 who).At (W.setCell ⟨g2, 0, none⟩ (.int .i64 who))
  | .gap, d, b, _, _, h, _ => by simp [PT.tow] at h
  | .leaf g w, d, b, _, _, h, hW => by
    obtain ⟨⟨rfl, rfl⟩, rfl, rfl⟩ : (g = g2 ∧ w = wh) ∧ d = pd ∧ b = pb := by simpa [PT.tow] using h
    show PT.At _ (if g = g then PT.leaf g who else PT.leaf g w)
    rw [if_pos rfl]
    exact Whole.set_ hW 0 _
  | .node g z l r, d, b, ha, hn, h, ⟨hg, hl, hr⟩ => by
    obtain ⟨n1, n2, n3, n4, n5⟩ := nodup_parts hn
    unfold PT.tow at h
    by_cases e : d = pd
    · rw [if_pos e] at h; simp at h
    · have hd : d < pd := by have := abv_dle ha; omega
      rw [if_neg e] at h
      have hk : ∀ (q : PT), g2 ∉ q.bl → q.At W → q.At (W.setCell ⟨g2, 0, none⟩ (.int .i64 who)) := fun q hq hW => hW.keep (fun x hx => Below.heap_setCell _ _ _ _ (fun z => hq (by rw [← show x = g2 from z]; exact hx)))
      rcases bit_two ha hd with hb | hb
      · rw [if_pos hb] at h
        have hin : g2 ∈ l.bl := by have := PT.tow_bl pd pb l (d + 1) (2 * b) g2; rw [h] at this; exact this (List.mem_singleton.2 rfl)
        have hgn : g ≠ g2 := fun z => n3 (z ▸ hin)
        refine ⟨?_, PT.num_at pd pb g2 wh who l _ _ (abv_0 ha hd hb) n1 h hl, ?_⟩
        · rw [PT.num_v, PT.num_v]; exact (Below.heap_setCell _ _ _ _ hgn).trans hg
        · rw [PT.num_id g2 who r (n5 g2 hin)]
          exact hk r (n5 g2 hin) hr
      · rw [if_neg (by omega)] at h
        have hin : g2 ∈ r.bl := by have := PT.tow_bl pd pb r (d + 1) (2 * b + 1) g2; rw [h] at this; exact this (List.mem_singleton.2 rfl)
        have hgn : g ≠ g2 := fun z => n4 (z ▸ hin)
        refine ⟨?_, ?_, PT.num_at pd pb g2 wh who r _ _ (abv_1 ha hd hb) n2 h hr⟩
        · rw [PT.num_v, PT.num_v]; exact (Below.heap_setCell _ _ _ _ hgn).trans hg
        · rw [PT.num_id g2 who l (fun z => n5 g2 z hin)]
          exact hk l (fun z => n5 g2 z hin) hl
set_option maxRecDepth 100000 in
set_option maxHeartbeats 1600000 in
theorem give_any {g : Nat} {p : PT} {k : Int} {w : World} (h : TilO g p k w) (pd pb who : Int) : Calls Try.prog 56 #[.pointer (some ⟨g, 0, none⟩), .agg #[.int .i64 pd, .int .i64 pb], .int .i64 who] w (ChgO g p k (giveT (p.tr.tiles 0 0) pd pb who) w) := by
  obtain ⟨w0, hw0⟩ : ∃ w0, w0 = w.alloc (.cells #[.int .i64 pd, .int .i64 pb] 27) := ⟨_, rfl⟩
  have hs0 : Since w w0 := by rw [hw0]; exact (Since.refl w).alloc _
  have wh0 : Whole w0 (w.heap.size) 27 #[.int .i64 pd, .int .i64 pb] := by rw [hw0]; exact Whole.new w _ _
  have HW := Lib.hid hw0
  have c0_0 := box_cell wh0 0 (.int .i64 pd) rfl
  have c0_1 := box_cell wh0 1 (.int .i64 pb) rfl
  have hsr := Since.refl w0
  have hsd := hsr.drew
  clear hw0
  rcases h.atLeaf pd pb with ⟨g2, wh, pre, post, hok, hat, hw, hhas⟩ | ⟨hat, hhas⟩
  · have hL : (p.tr.tiles 0 0) = pre ++ [⟨pd, pb, wh⟩] ++ post := hw.tiles
    have hr : giveT (p.tr.tiles 0 0) pd pb who = (0, pre ++ [⟨pd, pb, who⟩] ++ post) := by unfold giveT; rw [if_pos hhas, hL, give_mid hw.fine hw.out]
    rw [hr]
    have hnd := List.nodup_cons.1 h.nodup
    have HT := Lib.hid (fun W (hW : Since w0 W) => tile_yes (h.since (hs0.trans hW)) hat)
    have hg2 : Whole w g2 97 #[.int .i64 wh, .pointer none, .pointer none] := by
      have := atP_at (k := k) h.at_ pd pb
      rw [hat] at this
      exact this
    have hin : g2 ∈ p.bl := hw.bl g2 (List.mem_singleton.2 rfl)
    have hlen : (pre ++ [(⟨pd, pb, who⟩ : Tl)] ++ post).length = (p.tr.tiles 0 0).length := by rw [hL]; simp
    have hput := PT.num_put pd pb g2 wh who p 0 0 (abv_root hw.fine) hnd.2 h.norm hw.tow
    rw [Int.sub_zero] at hput
    have htl : (p.num g2 who).tr.tiles 0 0 = pre ++ [⟨pd, pb, who⟩] ++ post := by rw [hput, hw.put (.inr rfl)]; rfl
    have fin : ∀ W, Since w W → ChgO g p k (0, pre ++ [⟨pd, pb, who⟩] ++ post) w (.returned (.int .i64 0)) (W.setCell ⟨g2, 0, none⟩ (.int .i64 who)) := fun W hW => by
      refine ⟨rfl, p.num g2 who, ⟨?_, PT.num_at pd pb g2 wh who p 0 0 (abv_root hw.fine) hnd.2 hw.tow (h.at_.since hW), PT.num_norm _ _ _ h.norm, ?_, ?_, ?_, h.right⟩, htl, ?_, ?_⟩
      · rw [PT.num_v, htl, hlen]
        exact (Below.heap_setCell _ _ _ _ (fun z => hnd.1 (by rw [show g = g2 from z]; exact hin))).trans (Since.whole hW h.box)
      · rw [PT.num_bl]; exact h.nodup
      · rw [PT.num_high]; exact h.high
      · rw [htl, hlen]; exact h.most
      · exact (hW.off _).setCell (p := ⟨g2, 0, none⟩) (.inr (List.mem_cons_of_mem _ hin)) _
      · rw [PT.num_bl]; exact fun x hx => .inl hx
    have FIN := Lib.hid fin
    have f0 := box_free (Since.whole hs0 hg2) 0
    have c9 := box_cell (Since.whole hs0 hg2) 0 _ rfl
    clear fin htl hput hlen hin hL hr hw hat hhas hok hnd h
    go_enter Try.func56, Try.ntmps56
    go_wp2_with fail
    rw [← HW.out]
    go_wp2_with ((go_at_call 50; (with_reducible refine (Calls.since (by assumption) (HT.out _ (by assumption))).mono ?_); rintro e w1 ⟨rfl, hb1⟩; have hs1 := hs0.trans hb1))
    go_ret
    exact FIN.out _ hs1
  · have hr : giveT (p.tr.tiles 0 0) pd pb who = (3, p.tr.tiles 0 0) := by unfold giveT; rw [if_neg (by rw [hhas]; exact Bool.false_ne_true)]
    rw [hr]
    have HT := Lib.hid (fun W (hW : Since w0 W) => tile_no (h.since (hs0.trans hW)) hat)
    go_enter Try.func56, Try.ntmps56
    go_wp2_with fail
    rw [← HW.out]
    go_wp2_with ((go_at_call 50; (with_reducible refine (Calls.since (by assumption) (HT.out _ (by assumption))).mono ?_); rintro e w1 ⟨rfl, hb1⟩; have hs1 := hs0.trans hb1))
    go_ret
    exact ChgO.no h hs1
end Go.Proofs.Ytgnhamhkpbadbaa
