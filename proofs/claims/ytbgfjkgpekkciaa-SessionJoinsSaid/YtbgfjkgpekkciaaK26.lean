/- gleberef09: right, Look, Last. -/
import Derived.Test.YtbgfjkgpekkciaaK21
import Derived.Test.YtbgfjkgpekkciaaK23
import Derived.Test.YtbgfjkgpekkciaaK25
namespace Go.Proofs.Ytbgfjkgpekkciaa
open Go.RowKit
set_option linter.unusedVariables false
set_option linter.unusedSimpArgs false
theorem refRight9_any (c s : Int) {b : Bool} (hb : (cliB c && seqB s) = b) (w : World) : Calls Try.prog 48 #[.int .i64 c, .int .i64 s] w fun e w' => e = .returned (.bool b) ∧ w = w' := by
  subst hb
  unfold cliB seqB
  cases h0 : decide (0 ≤ c) <;> cases h1 : decide (c < 8) <;> cases h2 : decide (1 ≤ s) <;> cases h3 : decide (s ≤ 1099511627776)
  all_goals
    go_enter Try.func48, Try.ntmps48
    go_wp2
    go_ret
    exact ⟨rfl, rfl⟩
section
variable {w : World} {q : Nat} {L : STab}
theorem refLook_any (h : DTab w q L) {c s r : Int} (hr : lookT L c s = r) : Calls Try.prog 35 #[.pointer (some ⟨q, 0, none⟩), .int .i64 c, .int .i64 s] w fun e w' => e = .returned (.int .i64 r) ∧ w = w' := by
  unfold lookT at hr
  cases hc : cliB c && seqB s with
  | false =>
    rw [hc] at hr
    have HC := Lib.hid hc
    obtain rfl : 0 = r := hr
    clear hc
    go_enter Try.func35, Try.ntmps35
    go_wp2_with (go_at_call 48; (with_reducible refine (refRight9_any _ _ HC.out _).mono ?_); rintro e w' ⟨rfl, rfl⟩)
    go_ret
    exact ⟨rfl, rfl⟩
  | true =>
    rw [hc, if_pos rfl] at hr
    have HC := Lib.hid hc
    obtain ⟨h0, h1⟩ := (cliB_iff c).1 (Bool.and_eq_true_iff.1 hc).1
    clear hc
    obtain ⟨i, hi⟩ : ∃ i, i = c.toNat := ⟨_, rfl⟩
    have hci : c = (i : Int) := by omega
    have hL := rowT_get h.1 h0 h1
    obtain ⟨R, hR⟩ : ∃ R, R = rowT L c := ⟨_, rfl⟩
    rw [← hR, ← hi] at hL
    rw [← hR] at hr
    subst hci
    have c4 := h.seq hL w (Since.refl w)
    obtain ⟨n, hn⟩ : ∃ n, n = R.seq := ⟨_, rfl⟩
    rw [← hn] at hr c4
    have hi8 : i < 8 := by omega
    have hiz : (i : Int) < 8 := by omega
    clear hi h0 h1 hL hR hn
    unfold cmpT at hr
    by_cases ha : n < s
    · rw [if_pos ha] at hr
      subst hr
      go_enter Try.func35, Try.ntmps35
      go_wp2_with (go_at_call 48; (with_reducible refine (refRight9_any _ _ HC.out _).mono ?_); rintro e w' ⟨rfl, rfl⟩)
      go_ret
      exact ⟨rfl, rfl⟩
    · rw [if_neg ha] at hr
      by_cases hb : s = n
      · rw [if_pos hb] at hr
        subst hr
        subst hb
        go_enter Try.func35, Try.ntmps35
        go_wp2_with (go_at_call 48; (with_reducible refine (refRight9_any _ _ HC.out _).mono ?_); rintro e w' ⟨rfl, rfl⟩)
        go_ret
        exact ⟨rfl, rfl⟩
      · rw [if_neg hb] at hr
        subst hr
        go_enter Try.func35, Try.ntmps35
        go_wp2_with (go_at_call 48; (with_reducible refine (refRight9_any _ _ HC.out _).mono ?_); rintro e w' ⟨rfl, rfl⟩)
        go_ret
        exact ⟨rfl, rfl⟩
/-- What a Note of the document's leaves. -/
def RefNoteP (q : Nat) (r : Int) (L' : STab) (w : World) (e : Ending) (w' : World) : Prop := e = .returned (.int .i64 r) ∧ DTab w' q L' ∧ Off (fun b => b = q) w w'
theorem refNote_no (h : DTab w q L) {c s : Int} {er : Int} {fd : Bool} {val : ByteArray} {ver : Int} {ok : Bool} {r : Int} (hok : ansB er fd val ver = ok) (hr : noteT L c s ok = r) (h0 : r ≠ 0) :
    Calls Try.prog 36 #[.pointer (some ⟨q, 0, none⟩), .int .i64 c, .int .i64 s, .agg #[.int .i64 er, .bool fd, .string val, .int .i64 ver]] w (RefNoteP q r L w) := by
  have hlt := h.lt
  obtain ⟨k, hk⟩ : ∃ k, lookT L c s = k := ⟨_, rfl⟩
  have hz := lookT_zero L c s
  unfold noteT at hr
  rw [hk] at hr hz
  have HK := Lib.hid hk
  have HO := Lib.hid hok
  obtain ⟨w0, hw0⟩ : ∃ w0, w0 = w.alloc (.cells #[.int .i64 er, .bool fd, .string val, .int .i64 ver] 44) := ⟨_, rfl⟩
  have hs0 : Since w w0 := by rw [hw0]; exact (Since.refl w).alloc _
  have wh0 : Whole w0 (w.heap.size) 44 #[.int .i64 er, .bool fd, .string val, .int .i64 ver] := by rw [hw0]; exact Whole.new w _ _
  have HW := Lib.hid hw0
  have c0_0 := box_cell wh0 0 (.int .i64 er) rfl
  have c0_1 := box_cell wh0 1 (.bool fd) rfl
  have c0_2 := box_cell wh0 2 (.string val) rfl
  have c0_3 := box_cell wh0 3 (.int .i64 ver) rfl
  have hsr := Since.refl w0
  have hsd := hsr.drew
  clear hw0 wh0
  have h1 := h.since hs0
  cases hb : cliB c && seqB s with
  | false =>
    rw [hb, Bool.false_and] at hr
    obtain rfl : 1 = r := hr
    have HB := Lib.hid hb
    clear hb hz hk hok
    go_enter Try.func36, Try.ntmps36
    go_wp2_with fail
    rw [← HW.out]
    refine (refRight9_any _ _ HB.out _).mono ?_
    rintro e w' ⟨rfl, rfl⟩
    go_wp2
    go_ret
    exact ⟨rfl, h1, hs0.off _⟩
  | true =>
    have hk0 : k ≠ 0 := fun e => by rw [hz.1 e] at hb; cases hb
    have HB := Lib.hid hb
    rw [hb, Bool.true_and] at hr
    clear hb hz hk hk0 hok
    cases ok with
    | false =>
      obtain rfl : 1 = r := hr
      go_enter Try.func36, Try.ntmps36
      go_wp2_with fail
      rw [← HW.out]
      refine (refRight9_any _ _ HB.out _).mono ?_
      rintro e w' ⟨rfl, rfl⟩
      go_wp2_with (go_at_call 43; (with_reducible refine (Calls.since (by assumption) (refRightAns_at HO.out _)).mono ?_); rintro e w1 ⟨rfl, hb1⟩)
      go_ret
      exact ⟨rfl, h1.since hb1, (hs0.trans hb1).off _⟩
    | true =>
      by_cases h1k : k = 1
      · rw [if_pos rfl, if_pos h1k] at hr
        exact absurd hr.symm h0
      · rw [if_pos rfl, if_neg h1k] at hr
        obtain rfl : 44 = r := hr
        have hk1 : (k == 1) = false := by simpa using h1k
        have hk2 : (k != 1) = true := by rw [bne_iff_ne]; exact h1k
        clear h1k
        go_enter Try.func36, Try.ntmps36
        go_wp2_with fail
        rw [← HW.out]
        refine (refRight9_any _ _ HB.out _).mono ?_
        rintro e w' ⟨rfl, rfl⟩
        go_wp2_with (first
          | (go_at_call 43; (with_reducible refine (Calls.since (by assumption) (refRightAns_at HO.out _)).mono ?_); rintro e w1 ⟨rfl, hb1⟩)
          | (go_at_call 35; (with_reducible refine (refLook_any (h1.since (by assumption)) HK.out).mono ?_); rintro e w1 ⟨rfl, rfl⟩))
        go_ret
        exact ⟨rfl, h1.since (by assumption), (hs0.trans (by assumption)).off _⟩
set_option maxRecDepth 100000 in
theorem refNote_yes (h : DTab w q L) {c s : Int} {er : Int} {fd : Bool} {val : ByteArray} {ver : Int} (hr : noteT L c s (ansB er fd val ver) = 0) :
    Calls Try.prog 36 #[.pointer (some ⟨q, 0, none⟩), .int .i64 c, .int .i64 s, .agg #[.int .i64 er, .bool fd, .string val, .int .i64 ver]] w (RefNoteP q 0 (L.set c.toNat ⟨er, fd, val, ver, s⟩) w) := by
  obtain ⟨hc, hk, hok⟩ := noteT_zero hr
  have hb : (cliB c && seqB s) = true := by
    cases h : cliB c && seqB s with
    | true => rfl
    | false => rw [(lookT_zero L c s).2 h] at hk; cases hk
  have HB := Lib.hid hb
  have HK := Lib.hid hk
  have HO := Lib.hid hok
  obtain ⟨c0, c1⟩ := (cliB_iff c).1 hc
  obtain ⟨i, hi⟩ : ∃ i, i = c.toNat := ⟨_, rfl⟩
  have hci : c = (i : Int) := by omega
  have hL := rowT_get h.1 c0 c1
  rw [← hi] at hL ⊢
  have hi8 : i < L.length := by rw [h.1]; omega
  have hi9 : i < 8 := by omega
  have hiz : (i : Int) < 8 := by omega
  subst hci
  have hlt := h.lt
  clear hr hc hk hok c0 c1 hi hb
  obtain ⟨w0, hw0⟩ : ∃ w0, w0 = w.alloc (.cells #[.int .i64 er, .bool fd, .string val, .int .i64 ver] 44) := ⟨_, rfl⟩
  have hs0 : Since w w0 := by rw [hw0]; exact (Since.refl w).alloc _
  have wh0 : Whole w0 (w.heap.size) 44 #[.int .i64 er, .bool fd, .string val, .int .i64 ver] := by rw [hw0]; exact Whole.new w _ _
  have HW := Lib.hid hw0
  have c0_0 := box_cell wh0 0 (.int .i64 er) rfl
  have c0_1 := box_cell wh0 1 (.bool fd) rfl
  have c0_2 := box_cell wh0 2 (.string val) rfl
  have c0_3 := box_cell wh0 3 (.int .i64 ver) rfl
  have hsr := Since.refl w0
  have hsd := hsr.drew
  clear hw0
  have h1 := h.since hs0
  go_enter Try.func36, Try.ntmps36
  go_wp2_with fail
  rw [← HW.out]
  refine (refRight9_any _ _ HB.out _).mono ?_
  rintro e w' ⟨rfl, rfl⟩
  go_wp2_with (go_at_call 43; (with_reducible refine (Calls.since (by assumption) (refRightAns_at HO.out _)).mono ?_); rintro e w1 ⟨rfl, hb1⟩)
  have h2 := h1.since hb1
  have es := h2.seq hL w1 (Since.refl _)
  have fs := h2.frozen i w1 (Since.refl _)
  refine (refLook_any h2 HK.out).mono ?_
  rintro e w' ⟨rfl, rfl⟩
  go_wp2_with fail
  obtain ⟨w2, hw2⟩ : ∃ w2, w2 = w1.setCell ⟨q, i, none⟩ (.int .i64 s) := ⟨_, rfl⟩
  have wd : Whole w2 q 75 ((dcells L).setIfInBounds i (.int .i64 s)) := by rw [hw2]; exact h2.2.set_ i _
  have ho2 : Off (fun b => b = q) w0 w2 := by rw [hw2]; exact (hb1.off (fun b => b = q)).setCell (p := ⟨q, i, none⟩) (.inr rfl) _
  rw [← hw2]
  obtain ⟨wq, hwq⟩ : ∃ wq, wq = w2.drew := ⟨_, rfl⟩
  have hsq : Since w2 wq := by rw [hwq]; exact (Since.refl w2).drew
  refine wp_region_held_drew (S := fun W => Off (fun b => b = q) w0 W) (by kernel_rfl) (ho2.since (Since.refl w2).drew) (fun hHeld => ?_)
  rw [← hwq] at hHeld ⊢
  clear hwq hw2 es fs HB HK HO
  have hgn : ¬ w.heap.size = q := by omega
  have d0 := off_cell (F := fun b => b = q) wh0 hgn 0 _ rfl
  have d1 := off_cell (F := fun b => b = q) wh0 hgn 1 _ rfl
  have d2 := off_cell (F := fun b => b = q) wh0 hgn 2 _ rfl
  have d3 := off_cell (F := fun b => b = q) wh0 hgn 3 _ rfl
  have wd2 := hsq.whole wd
  have e0 : wq.cell? ⟨q, 8 + i * 4, none⟩ = some (.int .i64 (rowT L i).er) := by
    rw [wd2.cell, Array.getElem?_setIfInBounds_ne (by omega)]
    have := dcells_ans (j := 0) h1.1 hL (.int .i64 (rowT L i).er) rfl
    rwa [← Nat.add_assoc] at this
  have e1 : wq.cell? ⟨q, 8 + i * 4 + 1, none⟩ = some (.bool (rowT L i).fd) := by
    rw [wd2.cell, Array.getElem?_setIfInBounds_ne (by omega)]
    have := dcells_ans (j := 1) h1.1 hL (.bool (rowT L i).fd) rfl
    rwa [← Nat.add_assoc] at this
  have e2 : wq.cell? ⟨q, 8 + i * 4 + 2, none⟩ = some (.string (rowT L i).val) := by
    rw [wd2.cell, Array.getElem?_setIfInBounds_ne (by omega)]
    have := dcells_ans (j := 2) h1.1 hL (.string (rowT L i).val) rfl
    rwa [← Nat.add_assoc] at this
  have e3 : wq.cell? ⟨q, 8 + i * 4 + 3, none⟩ = some (.int .i64 (rowT L i).ver) := by
    rw [wd2.cell, Array.getElem?_setIfInBounds_ne (by omega)]
    have := dcells_ans (j := 3) h1.1 hL (.int .i64 (rowT L i).ver) rfl
    rwa [← Nat.add_assoc] at this
  have f0 := wd2.frozen (8 + i * 4)
  have f1 := wd2.frozen (8 + i * 4 + 1)
  have f2 := wd2.frozen (8 + i * 4 + 2)
  have f3 := wd2.frozen (8 + i * 4 + 3)
  clear c0_0 c0_1 c0_2 c0_3
  refine wpAnyH_take (i := 0) (v := ?_) rfl (by kernel_rfl) (by kernel_rfl) (by kernel_rfl) (fun _ _ _ h => h) (Or.inl ⟨by rfl, ?_⟩) (by assumption) ?_
  rotate_left 1
  · (intro W hW; clear hW; go_simp; try with_reducible rfl)
  simp only [Act.put, List.getElem_toArray, List.getElem_cons_zero, List.setIfInBounds_toArray, List.set_cons_zero, List.set_cons_succ]
  refine wpAnyH_take (i := 1) (v := ?_) rfl (by kernel_rfl) (by kernel_rfl) (by kernel_rfl) (fun _ _ _ h => h) (Or.inl ⟨by rfl, ?_⟩) (by assumption) ?_
  rotate_left 1
  · (intro W hW; clear hW; go_simp; try with_reducible rfl)
  simp only [Act.put, List.getElem_toArray, List.getElem_cons_succ, List.getElem_cons_zero, List.setIfInBounds_toArray, List.set_cons_zero, List.set_cons_succ]
  refine wpAnyH_take (i := 2) (v := ?_) rfl (by kernel_rfl) (by kernel_rfl) (by kernel_rfl) (fun _ _ _ h => h) (Or.inl ⟨by rfl, ?_⟩) (by assumption) ?_
  rotate_left 1
  · (intro W hW; skip; go_simp; try with_reducible rfl)
  simp only [Act.put, List.getElem_toArray, List.getElem_cons_succ, List.getElem_cons_zero, List.setIfInBounds_toArray, List.set_cons_zero, List.set_cons_succ]
  refine wpAnyH_take (i := 3) (v := ?_) rfl (by kernel_rfl) (by kernel_rfl) (by kernel_rfl) (fun _ _ _ h => h) (Or.inl ⟨by rfl, ?_⟩) (by assumption) ?_
  rotate_left 1
  · (intro W hW; clear hW; go_simp; try with_reducible rfl)
  simp only [Act.put, List.getElem_toArray, List.getElem_cons_succ, List.getElem_cons_zero, List.setIfInBounds_toArray, List.set_cons_zero, List.set_cons_succ]
  refine wpAnyH_take (i := 4) (v := ?_) rfl (by kernel_rfl) (by kernel_rfl) (by kernel_rfl) (fun _ _ _ h => h) (Or.inl ⟨by rfl, ?_⟩) (by assumption) ?_
  rotate_left 1
  · (intro W hW; clear hW; go_simp; try with_reducible rfl)
  simp only [Act.put, List.getElem_toArray, List.getElem_cons_succ, List.getElem_cons_zero, List.setIfInBounds_toArray, List.set_cons_zero, List.set_cons_succ]
  refine wpAnyH_take (i := 5) (v := ?_) rfl (by kernel_rfl) (by kernel_rfl) (by kernel_rfl) (fun _ _ _ h => h) (Or.inl ⟨by rfl, ?_⟩) (by assumption) ?_
  rotate_left 1
  · (intro W hW; clear hW; go_simp; try with_reducible rfl)
  simp only [Act.put, List.getElem_toArray, List.getElem_cons_succ, List.getElem_cons_zero, List.setIfInBounds_toArray, List.set_cons_zero, List.set_cons_succ]
  refine wpAnyH_ready (rs := [6]) (by kernel_rfl) (by simp) ?_
  refine AllReadyH.cons rfl (fun K hK => ?_) AllReadyH.nil
  go_simp
  skip
  refine hK.out _ _ (((((hHeld.setCell (p := ⟨q, 8 + i * 4, none⟩) (.inr rfl) _).setCell (p := ⟨q, 8 + i * 4 + 1, none⟩) (.inr rfl) _).setCell (p := ⟨q, 8 + i * 4 + 2, none⟩) (.inr rfl) _).setCell (p := ⟨q, 8 + i * 4 + 3, none⟩) (.inr rfl) _)) (fun hHeld => ?_)
  clear hK K
  try simp only [Act.put, List.getElem_toArray, List.getElem_cons_succ, List.getElem_cons_zero, List.setIfInBounds_toArray, List.set_cons_zero, List.set_cons_succ]
  refine wpAnyH_done (by kernel_rfl) ?_ _
  go_wp2
  go_ret
  refine ⟨rfl, ⟨len_set h.1 _ _, ?_⟩, (hs0.off _).trans hHeld (fun _ _ z => z)⟩
  have hh := ((((wd2.set_ (8 + i * 4) (.int .i64 er)).set_ (8 + i * 4 + 1) (.bool fd)).set_ (8 + i * 4 + 2) (.string val)).set_ (8 + i * 4 + 3) (.int .i64 ver))
  exact dcells_set h.1 hi8 ⟨er, fd, val, ver, s⟩ ▸ hh
end
end Go.Proofs.Ytbgfjkgpekkciaa
