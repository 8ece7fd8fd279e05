/- session.Note, Last, Clone. -/
import Derived.Test.YtbgfjkgpekkciaaK24
import Derived.Deep.Cut
import Derived.Deep.CutRange
namespace Go.Proofs.Ytbgfjkgpekkciaa
open Go.RowKit
set_option linter.unusedVariables false
set_option linter.unusedSimpArgs false
theorem cmpT_pos (n s : Int) : 1 ≤ cmpT n s ∧ cmpT n s ≤ 3 := by unfold cmpT; split <;> (try split) <;> omega
theorem lookT_zero (L : STab) (c s : Int) : lookT L c s = 0 ↔ (cliB c && seqB s) = false := by
  unfold lookT
  cases h : cliB c && seqB s with
  | true =>
    rw [if_pos rfl]
    have := (cmpT_pos (rowT L c).seq s).1
    constructor
    · intro e; omega
    · intro e; cases e
  | false => simp
/-- What a Note leaves. -/
def NotePost (g : Nat) (r : Int) (L' : STab) (w : World) (e : Ending) (w' : World) : Prop := e = .returned (.int .i64 r) ∧ PTab w' g L' ∧ Off (fun b => b = g) w w'
section
variable {w : World} {g : Nat} {L : STab}
theorem note_no (h : PTab w g L) {c s : Int} {er : Int} {fd : Bool} {val : ByteArray} {ver : Int} {ok : Bool} {r : Int} (hok : ansB er fd val ver = ok) (hr : noteT L c s ok = r) (h0 : r ≠ 0) :
    Calls Try.prog 20 #[.pointer (some ⟨g, 0, none⟩), .int .i64 c, .int .i64 s, .agg #[.int .i64 er, .bool fd, .string val, .int .i64 ver]] w (NotePost g r L w) := by
  have hlt := h.lt
  obtain ⟨k, hk⟩ : ∃ k, lookT L c s = k := ⟨_, rfl⟩
  have hz := lookT_zero L c s
  unfold noteT at hr
  rw [hk] at hr hz
  have HK := Lib.hid hk
  have HO := Lib.hid hok
  obtain ⟨w0, hw0⟩ : ∃ w0, w0 = w.alloc (.cells #[.int .i64 er, .bool fd, .string val, .int .i64 ver] 51) := ⟨_, rfl⟩
  have hs0 : Since w w0 := by rw [hw0]; exact (Since.refl w).alloc _
  have wh0 : Whole w0 (w.heap.size) 51 #[.int .i64 er, .bool fd, .string val, .int .i64 ver] := by rw [hw0]; exact Whole.new w _ _
  have HW := Lib.hid hw0
  have c0_0 := box_cell wh0 0 (.int .i64 er) rfl
  have c0_1 := box_cell wh0 1 (.bool fd) rfl
  have c0_2 := box_cell wh0 2 (.string val) rfl
  have c0_3 := box_cell wh0 3 (.int .i64 ver) rfl
  have hsr := Since.refl w0
  have hsd := hsr.drew
  clear hw0 wh0
  have h1 := h.since hs0
  cases hb : cliB c && seqB s with
  | false =>
    rw [hb, Bool.false_and] at hr
    have hk0 := hz.2 hb
    subst hk0
    obtain rfl : 1 = r := hr
    clear hb hz hk hok
    go_enter Try.func20, Try.ntmps20
    go_wp2_with fail
    rw [← HW.out]
    refine (look_any h1 HK.out).mono ?_
    rintro e w' ⟨rfl, rfl⟩
    go_wp2
    go_ret
    exact ⟨rfl, h1, hs0.off _⟩
  | true =>
    have hk0 : k ≠ 0 := fun e => by rw [hz.1 e] at hb; cases hb
    have hkb : (k == 0) = false := by simpa using hk0
    rw [hb, Bool.true_and] at hr
    clear hb hz hk hk0 hok
    cases ok with
    | false =>
      obtain rfl : 1 = r := hr
      go_enter Try.func20, Try.ntmps20
      go_wp2_with fail
      rw [← HW.out]
      refine (look_any h1 HK.out).mono ?_
      rintro e w' ⟨rfl, rfl⟩
      go_wp2_with (go_at_call 33; (with_reducible refine (Calls.since (by assumption) (rightAns_at HO.out _)).mono ?_); rintro e w1 ⟨rfl, hb1⟩)
      go_ret
      exact ⟨rfl, h1.since hb1, (hs0.trans hb1).off _⟩
    | true =>
      by_cases h1k : k = 1
      · rw [if_pos rfl, if_pos h1k] at hr
        exact absurd hr.symm h0
      · rw [if_pos rfl, if_neg h1k] at hr
        obtain rfl : 44 = r := hr
        have hk1 : (k == 1) = false := by simpa using h1k
        clear h1k
        go_enter Try.func20, Try.ntmps20
        go_wp2_with fail
        rw [← HW.out]
        refine (look_any h1 HK.out).mono ?_
        rintro e w' ⟨rfl, rfl⟩
        go_wp2_with (go_at_call 33; (with_reducible refine (Calls.since (by assumption) (rightAns_at HO.out _)).mono ?_); rintro e w1 ⟨rfl, hb1⟩)
        go_ret
        exact ⟨rfl, h1.since hb1, (hs0.trans hb1).off _⟩
theorem noteT_zero {c s : Int} {ok : Bool} (hr : noteT L c s ok = 0) : cliB c = true ∧ lookT L c s = 1 ∧ ok = true := by
  unfold noteT at hr
  cases hb : cliB c && seqB s with
  | false => rw [hb] at hr; simp at hr
  | true =>
    cases ok with
    | false => rw [hb] at hr; simp at hr
    | true =>
      rw [hb] at hr
      by_cases hl : lookT L c s = 1
      · exact ⟨(Bool.and_eq_true_iff.1 hb).1, hl, rfl⟩
      · simp [hl] at hr
set_option maxRecDepth 100000 in
theorem note_yes (h : PTab w g L) {c s : Int} {er : Int} {fd : Bool} {val : ByteArray} {ver : Int} (hr : noteT L c s (ansB er fd val ver) = 0) :
    Calls Try.prog 20 #[.pointer (some ⟨g, 0, none⟩), .int .i64 c, .int .i64 s, .agg #[.int .i64 er, .bool fd, .string val, .int .i64 ver]] w (NotePost g 0 (L.set c.toNat ⟨er, fd, val, ver, s⟩) w) := by
  obtain ⟨hc, hk, hok⟩ := noteT_zero hr
  have HK := Lib.hid hk
  have HO := Lib.hid hok
  obtain ⟨c0, c1⟩ := (cliB_iff c).1 hc
  obtain ⟨i, hi⟩ : ∃ i, i = c.toNat := ⟨_, rfl⟩
  have hci : c = (i : Int) := by omega
  have hL := rowT_get h.1 c0 c1
  rw [← hi] at hL ⊢
  have hi8 : i < L.length := by rw [h.1]; omega
  have hi9 : i < 8 := by omega
  have hiz : (i : Int) < 8 := by omega
  subst hci
  have hlt := h.lt
  clear hr hc hk hok c0 c1 hi
  obtain ⟨w0, hw0⟩ : ∃ w0, w0 = w.alloc (.cells #[.int .i64 er, .bool fd, .string val, .int .i64 ver] 51) := ⟨_, rfl⟩
  have hs0 : Since w w0 := by rw [hw0]; exact (Since.refl w).alloc _
  have wh0 : Whole w0 (w.heap.size) 51 #[.int .i64 er, .bool fd, .string val, .int .i64 ver] := by rw [hw0]; exact Whole.new w _ _
  have HW := Lib.hid hw0
  have c0_0 := box_cell wh0 0 (.int .i64 er) rfl
  have c0_1 := box_cell wh0 1 (.bool fd) rfl
  have c0_2 := box_cell wh0 2 (.string val) rfl
  have c0_3 := box_cell wh0 3 (.int .i64 ver) rfl
  have hsr := Since.refl w0
  have hsd := hsr.drew
  clear hw0
  have h1 := h.since hs0
  go_enter Try.func20, Try.ntmps20
  go_wp2_with fail
  rw [← HW.out]
  refine (look_any h1 HK.out).mono ?_
  rintro e w' ⟨rfl, rfl⟩
  go_wp2_with (go_at_call 33; (with_reducible refine (Calls.since (by assumption) (rightAns_at HO.out _)).mono ?_); rintro e w1 ⟨rfl, hb1⟩)
  obtain ⟨wq, hwq⟩ : ∃ wq, wq = w1.drew := ⟨_, rfl⟩
  have hsq : Since w0 wq := by rw [hwq]; exact hb1.drew
  refine wp_region_held_drew (S := fun W => Off (fun b => b = g) w0 W) (by kernel_rfl) ((Since.drew hb1).off _) (fun hHeld => ?_)
  rw [← hwq] at hHeld ⊢
  clear hwq hb1 HK HO
  have hgn : ¬ w.heap.size = g := by omega
  have d0 := off_cell (F := fun b => b = g) wh0 hgn 0 _ rfl
  have d1 := off_cell (F := fun b => b = g) wh0 hgn 1 _ rfl
  have d2 := off_cell (F := fun b => b = g) wh0 hgn 2 _ rfl
  have d3 := off_cell (F := fun b => b = g) wh0 hgn 3 _ rfl
  have h2 := h1.since hsq
  have e0 := h1.c0 hL wq hsq
  have e1 := h1.c1 hL wq hsq
  have e2 := h1.c2 hL wq hsq
  have e3 := h1.c3 hL wq hsq
  have e4 := h1.c4 hL wq hsq
  have f0 := h2.frozen (1 + i * 5) wq (Since.refl _)
  have f1 := h2.frozen (1 + i * 5 + 1) wq (Since.refl _)
  have f2 := h2.frozen (1 + i * 5 + 2) wq (Since.refl _)
  have f3 := h2.frozen (1 + i * 5 + 3) wq (Since.refl _)
  have f4 := h2.frozen (1 + i * 5 + 4) wq (Since.refl _)
  clear c0_0 c0_1 c0_2 c0_3
  refine wpAnyH_take (i := 0) (v := ?_) rfl (by kernel_rfl) (by kernel_rfl) (by kernel_rfl) (fun _ _ _ h => h) (Or.inl ⟨by rfl, ?_⟩) (by assumption) ?_
  rotate_left 1
  · (intro W hW; clear hW; go_simp; try with_reducible rfl)
  simp only [Act.put, List.getElem_toArray, List.getElem_cons_zero, List.setIfInBounds_toArray, List.set_cons_zero, List.set_cons_succ]
  refine wpAnyH_take (i := 1) (v := ?_) rfl (by kernel_rfl) (by kernel_rfl) (by kernel_rfl) (fun _ _ _ h => h) (Or.inl ⟨by rfl, ?_⟩) (by assumption) ?_
  rotate_left 1
  · (intro W hW; clear hW; go_simp; try with_reducible rfl)
  simp only [Act.put, List.getElem_toArray, List.getElem_cons_succ, List.getElem_cons_zero, List.setIfInBounds_toArray, List.set_cons_zero, List.set_cons_succ]
  refine wpAnyH_take (i := 2) (v := ?_) rfl (by kernel_rfl) (by kernel_rfl) (by kernel_rfl) (fun _ _ _ h => h) (Or.inl ⟨by rfl, ?_⟩) (by assumption) ?_
  rotate_left 1
  · (intro W hW; skip; go_simp; try with_reducible rfl)
  simp only [Act.put, List.getElem_toArray, List.getElem_cons_succ, List.getElem_cons_zero, List.setIfInBounds_toArray, List.set_cons_zero, List.set_cons_succ]
  refine wpAnyH_take (i := 3) (v := ?_) rfl (by kernel_rfl) (by kernel_rfl) (by kernel_rfl) (fun _ _ _ h => h) (Or.inl ⟨by rfl, ?_⟩) (by assumption) ?_
  rotate_left 1
  · (intro W hW; clear hW; go_simp; try with_reducible rfl)
  simp only [Act.put, List.getElem_toArray, List.getElem_cons_succ, List.getElem_cons_zero, List.setIfInBounds_toArray, List.set_cons_zero, List.set_cons_succ]
  refine wpAnyH_take (i := 4) (v := ?_) rfl (by kernel_rfl) (by kernel_rfl) (by kernel_rfl) (fun _ _ _ h => h) (Or.inl ⟨by rfl, ?_⟩) (by assumption) ?_
  rotate_left 1
  · (intro W hW; clear hW; go_simp; try with_reducible rfl)
  simp only [Act.put, List.getElem_toArray, List.getElem_cons_succ, List.getElem_cons_zero, List.setIfInBounds_toArray, List.set_cons_zero, List.set_cons_succ]
  refine wpAnyH_take (i := 5) (v := ?_) rfl (by kernel_rfl) (by kernel_rfl) (by kernel_rfl) (fun _ _ _ h => h) (Or.inl ⟨by rfl, ?_⟩) (by assumption) ?_
  rotate_left 1
  · (intro W hW; clear hW; go_simp; try with_reducible rfl)
  simp only [Act.put, List.getElem_toArray, List.getElem_cons_succ, List.getElem_cons_zero, List.setIfInBounds_toArray, List.set_cons_zero, List.set_cons_succ]
  refine wpAnyH_take (i := 6) (v := ?_) rfl (by kernel_rfl) (by kernel_rfl) (by kernel_rfl) (fun _ _ _ h => h) (Or.inl ⟨by rfl, ?_⟩) (by assumption) ?_
  rotate_left 1
  · (intro W hW; clear hW; go_simp; try with_reducible rfl)
  simp only [Act.put, List.getElem_toArray, List.getElem_cons_succ, List.getElem_cons_zero, List.setIfInBounds_toArray, List.set_cons_zero, List.set_cons_succ]
  refine wpAnyH_take (i := 7) (v := ?_) rfl (by kernel_rfl) (by kernel_rfl) (by kernel_rfl) (fun _ _ _ h => h) (Or.inl ⟨by rfl, ?_⟩) (by assumption) ?_
  rotate_left 1
  · (intro W hW; clear hW; go_simp; try with_reducible rfl)
  simp only [Act.put, List.getElem_toArray, List.getElem_cons_succ, List.getElem_cons_zero, List.setIfInBounds_toArray, List.set_cons_zero, List.set_cons_succ]
  refine wpAnyH_take (i := 8) (v := ?_) rfl (by kernel_rfl) (by kernel_rfl) (by kernel_rfl) (fun _ _ _ h => h) (Or.inl ⟨by rfl, ?_⟩) (by assumption) ?_
  rotate_left 1
  · (intro W hW; clear hW; go_simp; try with_reducible rfl)
  simp only [Act.put, List.getElem_toArray, List.getElem_cons_succ, List.getElem_cons_zero, List.setIfInBounds_toArray, List.set_cons_zero, List.set_cons_succ]
  refine wpAnyH_ready (rs := [9]) (by kernel_rfl) (by simp) ?_
  refine AllReadyH.cons rfl (fun K hK => ?_) AllReadyH.nil
  go_simp
  skip
  refine hK.out _ _ (((((hHeld.setCell (p := ⟨g, 1 + i * 5, none⟩) (.inr rfl) _).setCell (p := ⟨g, 1 + i * 5 + 1, none⟩) (.inr rfl) _).setCell (p := ⟨g, 1 + i * 5 + 2, none⟩) (.inr rfl) _).setCell (p := ⟨g, 1 + i * 5 + 3, none⟩) (.inr rfl) _).setCell (p := ⟨g, 1 + i * 5 + 4, none⟩) (.inr rfl) _) (fun hHeld => ?_)
  clear hK K
  try simp only [Act.put, List.getElem_toArray, List.getElem_cons_succ, List.getElem_cons_zero, List.setIfInBounds_toArray, List.set_cons_zero, List.set_cons_succ]
  refine wpAnyH_done (by kernel_rfl) ?_ _
  go_wp2
  go_ret
  refine ⟨rfl, ⟨len_set h.1 _ _, ?_⟩, (hs0.off _).trans hHeld (fun _ _ z => z)⟩
  have hh := ((((h2.2.set_ (1 + i * 5) (.int .i64 er)).set_ (1 + i * 5 + 1) (.bool fd)).set_ (1 + i * 5 + 2) (.string val)).set_ (1 + i * 5 + 3) (.int .i64 ver)).set_ (1 + i * 5 + 4) (.int .i64 s)
  have ee := pcells_set hi8 ⟨er, fd, val, ver, (i : Int)⟩
  have ee' := pcells_set hi8 ⟨er, fd, val, ver, s⟩
  exact ee' ▸ hh
end
end Go.Proofs.Ytbgfjkgpekkciaa
