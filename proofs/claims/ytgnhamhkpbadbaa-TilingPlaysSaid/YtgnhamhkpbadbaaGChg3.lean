/- tiling: Merge. -/
import Derived.Test.YtgnhamhkpbadbaaGChg
namespace Go.Proofs.Ytgnhamhkpbadbaa
open Go.RowKit
set_option linter.unusedVariables false
set_option maxRecDepth 100000 in
set_option maxHeartbeats 1600000 in
theorem merge_any {g : Nat} {p : PT} {k : Int} {w : World} (h : TilO g p k w) (pd pb : Int) : Calls Try.prog 54 #[.pointer (some ⟨g, 0, none⟩), .agg #[.int .i64 pd, .int .i64 pb]] w (ChgO g p k (mergeT (p.tr.tiles 0 0) pd pb) w) := by
  obtain ⟨w0, hw0⟩ : ∃ w0, w0 = w.alloc (.cells #[.int .i64 pd, .int .i64 pb] 27) := ⟨_, rfl⟩
  have hs0 : Since w w0 := by rw [hw0]; exact (Since.refl w).alloc _
  have wh0 : Whole w0 (w.heap.size) 27 #[.int .i64 pd, .int .i64 pb] := by rw [hw0]; exact Whole.new w _ _
  have HW := Lib.hid hw0
  have c0_0 := box_cell wh0 0 (.int .i64 pd) rfl
  have c0_1 := box_cell wh0 1 (.int .i64 pb) rfl
  have hsr := Since.refl w0
  have hsd := hsr.drew
  clear hw0
  have hkb := h.kb
  have HM := Lib.hid (fun W (hW : Since w0 W) => made_yes (h.since (hs0.trans hW)))
  rcases h.atPair pd pb with ⟨g1, z, g2, w2, g3, w3, pre, post, hok, hlt, hat, hw, hh1, hh2⟩ | ⟨hat, hh⟩
  · have hL : (p.tr.tiles 0 0) = pre ++ [⟨pd + 1, 2 * pb, w2⟩, ⟨pd + 1, 2 * pb + 1, w3⟩] ++ post := hw.tiles
    have hlen : (p.tr.tiles 0 0).length = (pre ++ [(⟨pd, pb, w2⟩ : Tl)] ++ post).length + 1 := by rw [hL]; simp; omega
    have hr : mergeT (p.tr.tiles 0 0) pd pb = (0, pre ++ [⟨pd, pb, w2⟩] ++ post) := by unfold mergeT; rw [if_pos ⟨hh1, hh2⟩, hL, merge_mid hw.fine hlt hw.out]
    rw [hr]
    have hm := h.most
    have hnd := List.nodup_cons.1 h.nodup
    have hpd := (okP_iff _ _ _).1 hok
    have hsub : ∀ x ∈ [g1, g2, g3], x ∈ p.bl := fun x hx => hw.bl x (by simpa [PT.bl] using hx)
    have hnode : ∀ W, Since w W → Whole W g1 97 #[.int .i64 z, .pointer (some ⟨g2, 0, none⟩), .pointer (some ⟨g3, 0, none⟩)] := fun W hW => by
      have := atP_at (k := k) (h.at_.since hW) pd pb
      rw [hat] at this
      exact this.1
    have hleaf : ∀ W, Since w W → (PT.leaf g2 w2).At W := fun W hW => by
      have := atP_at (k := k) (h.at_.since hW) pd pb
      rw [hat] at this
      exact this.2.1
    have hat2 : ∀ W, Since w0 W → Calls Try.prog 98 #[.pointer (some ⟨g, 0, none⟩), .agg #[.int .i64 pd, .int .i64 pb]] W fun e w' => e = .returned (.pointer (some ⟨g1, 0, none⟩)) ∧ Below W.heap.size W w' := fun W hW => tat_at (h.since (hs0.trans hW)) hat
    have HA := Lib.hid hat2
    have hpair : ∀ W, Since w0 W → Calls Try.prog 62 #[.pointer (some ⟨g1, 0, none⟩)] W fun e w' => e = .returned (.bool true) ∧ Below W.heap.size W w' := fun W hW => by
      have h1 := atP_at (k := k) (h.since (hs0.trans hW)).at_ pd pb
      have h2 := atP_norm (k := k) h.norm pd pb
      rw [hat] at h1 h2
      exact isPair_any h1 h2
    have HI := Lib.hid hpair
    have HP := Lib.hid (fun W (hW0 : Since w0 W) => have hW := hs0.trans hW0; put_any (n := .leaf g2 w2) (Since.whole hW h.box) (h.at_.since hW) h.nodup hw.fine (hw.clear (.inr rfl)) (hleaf W hW) (by simp [PT.bl])
      (fun x hx => hw.rest rfl hnd.2 x (by
        obtain rfl := List.mem_singleton.1 hx
        simp [PT.bl]))
      (fun hx => by
        obtain rfl := List.mem_singleton.1 hx
        exact hnd.1 (hsub _ (by simp))))
    have fin := fun w1 W1 q' (hs1 : Since w w1) a b c d e f => TilO.after (n := .leaf g2 w2) (L := pre ++ [⟨pd, pb, w2⟩] ++ post) (sz' := ((pre ++ [(⟨pd, pb, w2⟩ : Tl)] ++ post).length : Int)) (w1 := w1) (W1 := W1) (q' := q') (sz := ((p.tr.tiles 0 0).length : Int)) h hw (.inr rfl) hs1 a b c d e f
      trivial (by simp [PT.tr, Tr.high]; omega)
      (fun x hx => by
        obtain rfl := List.mem_singleton.1 hx
        exact .inl (hsub _ (by simp))) rfl rfl (by omega)
    have hwr : wrap64 (((p.tr.tiles 0 0).length : Int) - 1) = ((pre ++ [(⟨pd, pb, w2⟩ : Tl)] ++ post).length : Int) := by rw [IntWalk.wrap64_in _ ⟨by omega, by omega⟩]; omega
    have hgw : ¬ (w.heap.size = g ∨ w.heap.size ∈ p.bl) := by
      have := h.box.lt
      rintro (c | c)
      · omega
      · have := h.at_.lt _ c; omega
    have FIN := Lib.hid fin
    have HND := Lib.hid hnode
    simp only [PT.v] at HP
    clear fin hL hlen hr hw hat hat2 hpair hh1 hh2 hok hnd hm h hleaf hnode hsub hpd hlt
    obtain ⟨LN, hLN⟩ : ∃ n, n = (p.tr.tiles 0 0).length := ⟨_, rfl⟩
    obtain ⟨LM, hLM⟩ : ∃ n, n = (pre ++ [(⟨pd, pb, w2⟩ : Tl)] ++ post).length := ⟨_, rfl⟩
    rw [← hLN, ← hLM] at hwr
    rw [← hLN] at HP
    rw [← hLN, ← hLM] at FIN
    clear hLN hLM
    go_enter Try.func54, Try.ntmps54
    go_wp2_with fail
    rw [← HW.out]
    go_wp2_with (first | (go_at_call 49; (with_reducible refine (Calls.since (by assumption) (HM.out _ (by assumption))).mono ?_); rintro e w4 ⟨rfl, hb4⟩) | (go_at_call 98; (with_reducible refine (Calls.since (by assumption) (HA.out _ (by assumption))).mono ?_); rintro e w5 ⟨rfl, hb5⟩) | (go_at_call 62; (with_reducible refine (Calls.since (by assumption) (HI.out _ (by assumption))).mono ?_); rintro e w6 ⟨rfl, hb6⟩))
    obtain ⟨wq, hwq⟩ : ∃ wq, wq = w6.drew := ⟨_, rfl⟩
    have hqs : Since w6 wq := by rw [hwq]; exact (Since.refl w6).drew
    have h06 : Since w0 w6 := by assumption
    have hwh6 := Since.whole h06 wh0
    have q0 := off_cell (F := fun x => x = g ∨ x ∈ p.bl) hwh6 hgw 0 _ rfl
    have q1 := off_cell (F := fun x => x = g ∨ x ∈ p.bl) hwh6 hgw 1 _ rfl
    refine wp_region_held_drew (S := fun W' => Off (fun x => x = g ∨ x ∈ p.bl) w6 W') (by kernel_rfl) ((Since.refl w6).drew.off _) (fun hHeld => ?_)
    rw [← hwq] at hHeld ⊢
    have h0q := h06.trans hqs
    have hgn := HND.out wq (hs0.trans h0q)
    have m0 := hgn.cell 1
    clear hwq
    refine wpAnyH_take (i := 0) (v := ?_) rfl (by kernel_rfl) (by kernel_rfl) (by kernel_rfl) (fun _ _ _ h => h) (Or.inl ⟨by rfl, ?_⟩) (by assumption) ?_
    rotate_left 1
    · (intro W hW; clear hW; go_simp; try with_reducible rfl)
    simp only [Act.put, List.getElem_toArray, List.getElem_cons_zero, List.setIfInBounds_toArray, List.set_cons_zero, List.set_cons_succ]
    refine wpAnyH_take (i := 1) (v := ?_) rfl (by kernel_rfl) (by kernel_rfl) (by kernel_rfl) (fun _ _ _ h => h) (Or.inl ⟨by rfl, ?_⟩) (by assumption) ?_
    rotate_left 1
    · (intro W hW; skip; go_simp; try with_reducible rfl)
    simp only [Act.put, List.getElem_toArray, List.getElem_cons_succ, List.getElem_cons_zero, List.setIfInBounds_toArray, List.set_cons_zero, List.set_cons_succ]
    refine wpAnyH_take (i := 2) (v := ?_) rfl (by kernel_rfl) (by kernel_rfl) (by kernel_rfl) (fun _ _ _ h => h) (Or.inl ⟨by rfl, ?_⟩) (by assumption) ?_
    rotate_left 1
    · (intro W hW; clear hW; go_simp; try with_reducible rfl)
    simp only [Act.put, List.getElem_toArray, List.getElem_cons_succ, List.getElem_cons_zero, List.setIfInBounds_toArray, List.set_cons_zero, List.set_cons_succ]
    refine wpAnyH_take (i := 3) (v := ?_) rfl (by kernel_rfl) (by kernel_rfl) (by kernel_rfl) (fun _ _ _ h => h) (Or.inl ⟨by rfl, ?_⟩) (by assumption) ?_
    rotate_left 1
    · (intro W hW; clear hW; go_simp; try with_reducible rfl)
    simp only [Act.put, List.getElem_toArray, List.getElem_cons_succ, List.getElem_cons_zero, List.setIfInBounds_toArray, List.set_cons_zero, List.set_cons_succ]
    refine wpAnyH_take (i := 4) (v := ?_) rfl (by kernel_rfl) (by kernel_rfl) (by kernel_rfl) (fun _ _ _ h => h) (Or.inl ⟨by rfl, ?_⟩) (by assumption) ?_
    rotate_left 1
    · (intro W hW; clear hW; go_simp; try with_reducible rfl)
    simp only [Act.put, List.getElem_toArray, List.getElem_cons_succ, List.getElem_cons_zero, List.setIfInBounds_toArray, List.set_cons_zero, List.set_cons_succ]
    refine wpAnyH_take (i := 5) (v := ?_) rfl (by kernel_rfl) (by kernel_rfl) (by kernel_rfl) (fun _ _ _ h => h) (Or.inl ⟨by rfl, ?_⟩) (by assumption) ?_
    rotate_left 1
    · (intro W hW; clear hW; go_simp; try with_reducible rfl)
    simp only [Act.put, List.getElem_toArray, List.getElem_cons_succ, List.getElem_cons_zero, List.setIfInBounds_toArray, List.set_cons_zero, List.set_cons_succ]
    refine wpAnyH_ready (rs := [6]) (by kernel_rfl) (by simp) ?_
    refine AllReadyH.cons rfl (fun K hK => ?_) AllReadyH.nil
    go_simp
    skip
    refine hK.out _ _ (hHeld) (fun hHeld => ?_)
    clear hK K
    try simp only [Act.put, List.getElem_toArray, List.getElem_cons_succ, List.getElem_cons_zero, List.setIfInBounds_toArray, List.set_cons_zero, List.set_cons_succ]
    refine wpAnyH_ready (rs := [7]) (by kernel_rfl) (by simp) ?_
    refine AllReadyH.cons rfl (fun K hK => ?_) AllReadyH.nil
    go_simp
    refine (HP.out wq h0q).mono ?_
    rintro e w7 ⟨rfl, q', f1, f2, f3, f4, f5, f6⟩
    have ho7 := Off.trans (hqs.off (fun x => x = g ∨ x ∈ p.bl)) f6 (fun _ _ z => z)
    go_wp2_with fail
    refine hK.out _ _ (ho7) (fun hHeld => ?_)
    clear hK K
    try simp only [Act.put, List.getElem_toArray, List.getElem_cons_succ, List.getElem_cons_zero, List.setIfInBounds_toArray, List.set_cons_zero, List.set_cons_succ]
    refine wpAnyH_done (by kernel_rfl) ?_ _
    have y0 := f1.cell 2
    have y1 := f1.frozen 2
    go_wp2_with fail
    go_ret
    exact FIN.out _ _ _ (hs0.trans h0q) f1 f2 f3 f4 f5 f6
  · have hr : mergeT (p.tr.tiles 0 0) pd pb = (3, p.tr.tiles 0 0) := by unfold mergeT; rw [if_neg hh]
    rw [hr]
    obtain ⟨V, hV⟩ : ∃ V, (atP k p pd pb).v = V := ⟨_, rfl⟩
    have HA := Lib.hid (fun W (hW : Since w0 W) => hV ▸ at_atP (h.since (hs0.trans hW)) pd pb)
    have HI := Lib.hid (fun W (hW : Since w0 W) => hV ▸ isPair_at (atP_at (k := k) (h.since (hs0.trans hW)).at_ pd pb) (atP_norm (k := k) h.norm pd pb) hat)
    go_enter Try.func54, Try.ntmps54
    go_wp2_with fail
    rw [← HW.out]
    go_wp2_with (first | (go_at_call 49; (with_reducible refine (Calls.since (by assumption) (HM.out _ (by assumption))).mono ?_); rintro e w4 ⟨rfl, hb4⟩) | (go_at_call 98; (with_reducible refine (Calls.since (by assumption) (HA.out _ (by assumption))).mono ?_); rintro e w5 ⟨rfl, hb5⟩) | (go_at_call 62; (with_reducible refine (Calls.since (by assumption) (HI.out _ (by assumption))).mono ?_); rintro e w6 ⟨rfl, hb6⟩))
    go_ret
    exact ChgO.no h (hs0.trans (by assumption))
end Go.Proofs.Ytgnhamhkpbadbaa
