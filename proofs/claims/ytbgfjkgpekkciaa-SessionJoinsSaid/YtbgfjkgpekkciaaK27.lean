/- session.Last. -/
import Derived.Test.YtbgfjkgpekkciaaK25
namespace Go.Proofs.Ytbgfjkgpekkciaa
open Go.RowKit
set_option linter.unusedVariables false
set_option linter.unusedSimpArgs false
section
variable {w : World} {g : Nat} {L : STab}
theorem tlast_no (h : PTab w g L) {c : Int} (hc : cliB c = false) :
    Calls Try.prog 22 #[.pointer (some ⟨g, 0, none⟩), .int .i64 c] w fun e w' => e = .returned (.tuple #[.int .i64 0, .agg #[.int .i64 0, .bool false, .string ⟨#[]⟩, .int .i64 0]]) ∧ Since w w' := by
  have HC := Lib.hid hc
  obtain ⟨w0, hw0⟩ : ∃ w0, w0 = w.alloc (.cells #[.int .i64 0, .bool false, .string ⟨#[]⟩, .int .i64 0] 51) := ⟨_, rfl⟩
  have hs0 : Since w w0 := by rw [hw0]; exact (Since.refl w).alloc _
  have wh0 : Whole w0 (w.heap.size) 51 #[.int .i64 0, .bool false, .string ⟨#[]⟩, .int .i64 0] := by rw [hw0]; exact Whole.new w _ _
  have HW := Lib.hid hw0
  have c0_0 := box_cell wh0 0 (.int .i64 0) rfl
  have c0_1 := box_cell wh0 1 (.bool false) rfl
  have c0_2 := box_cell wh0 2 (.string ⟨#[]⟩) rfl
  have c0_3 := box_cell wh0 3 (.int .i64 0) rfl
  have hsr := Since.refl w0
  have hsd := hsr.drew
  clear hw0
  have h1 := h.since hs0
  go_enter Try.func22, Try.ntmps22
  go_wp2_with fail
  rw [← HW.out]
  refine (thas_any h1 HC.out).mono ?_
  rintro e w' ⟨rfl, rfl⟩
  have x0 := wh0.cell 0
  have x1 := wh0.cell 1
  have x2 := wh0.cell 2
  have x3 := wh0.cell 3
  have y0 := wh0.frozen 0
  have y1 := wh0.frozen 1
  have y2 := wh0.frozen 2
  have y3 := wh0.frozen 3
  go_wp2
  refine bodyPost_ret (v := .tuple #[.int .i64 0, .agg #[.int .i64 0, .bool false, .string ⟨#[]⟩, .int .i64 0]]) (by simp [results, Try.results22, go_sem, x0, x1, x2, x3]) rfl ⟨rfl, ?_⟩
  exact (((hs0.setCell (p := ⟨w.heap.size, 0, none⟩) (Nat.le_refl _) _).setCell (p := ⟨w.heap.size, 1, none⟩) (Nat.le_refl _) _).setCell (p := ⟨w.heap.size, 2, none⟩) (Nat.le_refl _) _).setCell (p := ⟨w.heap.size, 3, none⟩) (Nat.le_refl _) _
theorem tlast_yes (h : PTab w g L) {c : Int} {R : SR} (hc : cliB c = true) (hR : R = rowT L c) :
    Calls Try.prog 22 #[.pointer (some ⟨g, 0, none⟩), .int .i64 c] w fun e w' => e = .returned (.tuple #[.int .i64 R.seq, .agg #[.int .i64 R.er, .bool R.fd, .string R.val, .int .i64 R.ver]]) ∧ Since w w' := by
  have HC := Lib.hid hc
  obtain ⟨c0, c1⟩ := (cliB_iff c).1 hc
  obtain ⟨i, hi⟩ : ∃ i, i = c.toNat := ⟨_, rfl⟩
  have hci : c = (i : Int) := by omega
  have hL := rowT_get h.1 c0 c1
  rw [← hi, ← hR] at hL
  have hi9 : i < 8 := by omega
  have hiz : (i : Int) < 8 := by omega
  subst hci
  have hlt := h.lt
  clear hc c0 c1 hi hR
  obtain ⟨er, fd, val, ver, seq⟩ := R
  obtain ⟨w0, hw0⟩ : ∃ w0, w0 = w.alloc (.cells #[.int .i64 0, .bool false, .string ⟨#[]⟩, .int .i64 0] 51) := ⟨_, rfl⟩
  have hs0 : Since w w0 := by rw [hw0]; exact (Since.refl w).alloc _
  have wh0 : Whole w0 (w.heap.size) 51 #[.int .i64 0, .bool false, .string ⟨#[]⟩, .int .i64 0] := by rw [hw0]; exact Whole.new w _ _
  have HW := Lib.hid hw0
  have c0_0 := box_cell wh0 0 (.int .i64 0) rfl
  have c0_1 := box_cell wh0 1 (.bool false) rfl
  have c0_2 := box_cell wh0 2 (.string ⟨#[]⟩) rfl
  have c0_3 := box_cell wh0 3 (.int .i64 0) rfl
  have hsr := Since.refl w0
  have hsd := hsr.drew
  clear hw0
  have h1 := h.since hs0
  have e0 := h1.c0 hL w0 hsr
  have e1 := h1.c1 hL w0 hsr
  have e2 := h1.c2 hL w0 hsr
  have e3 := h1.c3 hL w0 hsr
  have e4 := h1.c4 hL w0 hsr
  dsimp only at e0 e1 e2 e3 e4 ⊢
  go_enter Try.func22, Try.ntmps22
  go_wp2_with fail
  rw [← HW.out]
  refine (thas_any h1 HC.out).mono ?_
  rintro e w' ⟨rfl, rfl⟩
  go_wp2
  obtain ⟨w1, hw1⟩ : ∃ w1, w1 = w0.alloc (.cells #[.int .i64 er, .bool fd, .string val, .int .i64 ver, .int .i64 seq] 67) := ⟨_, rfl⟩
  have hs1 : Since w0 w1 := by rw [hw1]; exact hsr.alloc _
  have wh1 : Whole w1 w0.heap.size 67 #[.int .i64 er, .bool fd, .string val, .int .i64 ver, .int .i64 seq] := by rw [hw1]; exact Whole.new w0 _ _
  rw [← hw1]
  obtain ⟨wq, hwq⟩ : ∃ wq, wq = w1.drew := ⟨_, rfl⟩
  have hsq : Since w1 wq := by rw [hwq]; exact (Since.refl w1).drew
  refine wp_region_held_drew (S := fun W => Off (fun b => b = w.heap.size) w1 W) (by kernel_rfl) ((Since.refl w1).drew.off _) (fun hHeld => ?_)
  rw [← hwq] at hHeld ⊢
  clear hwq hw1 HC e0 e1 e2 e3 e4
  have hgn : ¬ w0.heap.size = w.heap.size := by have := wh0.lt; omega
  have d0 := off_cell (F := fun b => b = w.heap.size) wh1 hgn 0 _ rfl
  have d1 := off_cell (F := fun b => b = w.heap.size) wh1 hgn 1 _ rfl
  have d2 := off_cell (F := fun b => b = w.heap.size) wh1 hgn 2 _ rfl
  have d3 := off_cell (F := fun b => b = w.heap.size) wh1 hgn 3 _ rfl
  have d4 := off_cell (F := fun b => b = w.heap.size) wh1 hgn 4 _ rfl
  have wh2 := hsq.whole (hs1.whole wh0)
  have x0 := wh2.cell 0
  have x1 := wh2.cell 1
  have x2 := wh2.cell 2
  have x3 := wh2.cell 3
  have y0 := wh2.frozen 0
  have y1 := wh2.frozen 1
  have y2 := wh2.frozen 2
  have y3 := wh2.frozen 3
  refine wpAnyH_take (i := 0) (v := ?_) rfl (by kernel_rfl) (by kernel_rfl) (by kernel_rfl) (fun _ _ _ h => h) (Or.inl ⟨by rfl, ?_⟩) (by assumption) ?_
  rotate_left 1
  · (intro W hW; clear hW; go_simp; try with_reducible rfl)
  simp only [Act.put, List.getElem_toArray, List.getElem_cons_zero, List.setIfInBounds_toArray, List.set_cons_zero, List.set_cons_succ]
  refine wpAnyH_take (i := 1) (v := ?_) rfl (by kernel_rfl) (by kernel_rfl) (by kernel_rfl) (fun _ _ _ h => h) (Or.inl ⟨by rfl, ?_⟩) (by assumption) ?_
  rotate_left 1
  · (intro W hW; skip; go_simp; try with_reducible rfl)
  simp only [Act.put, List.getElem_toArray, List.getElem_cons_succ, List.getElem_cons_zero, List.setIfInBounds_toArray, List.set_cons_zero, List.set_cons_succ]
  refine wpAnyH_take (i := 2) (v := ?_) rfl (by kernel_rfl) (by kernel_rfl) (by kernel_rfl) (fun _ _ _ h => h) (Or.inl ⟨by rfl, ?_⟩) (by assumption) ?_
  rotate_left 1
  · (intro W hW; clear hW; go_simp; try with_reducible rfl)
  simp only [Act.put, List.getElem_toArray, List.getElem_cons_succ, List.getElem_cons_zero, List.setIfInBounds_toArray, List.set_cons_zero, List.set_cons_succ]
  refine wpAnyH_take (i := 3) (v := ?_) rfl (by kernel_rfl) (by kernel_rfl) (by kernel_rfl) (fun _ _ _ h => h) (Or.inl ⟨by rfl, ?_⟩) (by assumption) ?_
  rotate_left 1
  · (intro W hW; clear hW; go_simp; try with_reducible rfl)
  simp only [Act.put, List.getElem_toArray, List.getElem_cons_succ, List.getElem_cons_zero, List.setIfInBounds_toArray, List.set_cons_zero, List.set_cons_succ]
  refine wpAnyH_take (i := 4) (v := ?_) rfl (by kernel_rfl) (by kernel_rfl) (by kernel_rfl) (fun _ _ _ h => h) (Or.inl ⟨by rfl, ?_⟩) (by assumption) ?_
  rotate_left 1
  · (intro W hW; skip; go_simp; try with_reducible rfl)
  simp only [Act.put, List.getElem_toArray, List.getElem_cons_succ, List.getElem_cons_zero, List.setIfInBounds_toArray, List.set_cons_zero, List.set_cons_succ]
  refine wpAnyH_take (i := 5) (v := ?_) rfl (by kernel_rfl) (by kernel_rfl) (by kernel_rfl) (fun _ _ _ h => h) (Or.inl ⟨by rfl, ?_⟩) (by assumption) ?_
  rotate_left 1
  · (intro W hW; clear hW; go_simp; try with_reducible rfl)
  simp only [Act.put, List.getElem_toArray, List.getElem_cons_succ, List.getElem_cons_zero, List.setIfInBounds_toArray, List.set_cons_zero, List.set_cons_succ]
  refine wpAnyH_ready (rs := [6]) (by kernel_rfl) (by simp) ?_
  refine AllReadyH.cons rfl (fun K hK => ?_) AllReadyH.nil
  go_simp
  skip
  refine hK.out _ _ ((((hHeld.setCell (p := ⟨w.heap.size, 0, none⟩) (.inr rfl) _).setCell (p := ⟨w.heap.size, 1, none⟩) (.inr rfl) _).setCell (p := ⟨w.heap.size, 2, none⟩) (.inr rfl) _).setCell (p := ⟨w.heap.size, 3, none⟩) (.inr rfl) _) (fun hHeld => ?_)
  clear hK K
  try simp only [Act.put, List.getElem_toArray, List.getElem_cons_succ, List.getElem_cons_zero, List.setIfInBounds_toArray, List.set_cons_zero, List.set_cons_succ]
  refine wpAnyH_done (by kernel_rfl) ?_ _
  go_wp2
  refine bodyPost_ret (v := .tuple #[.int .i64 seq, .agg #[.int .i64 er, .bool fd, .string val, .int .i64 ver]]) (by simp [results, Try.results22, go_sem, x0, x1, x2, x3]) rfl ⟨rfl, ?_⟩
  exact ((((hs0.trans hs1).trans hsq).setCell (p := ⟨w.heap.size, 0, none⟩) (Nat.le_refl _) _).setCell (p := ⟨w.heap.size, 1, none⟩) (Nat.le_refl _) _).setCell (p := ⟨w.heap.size, 2, none⟩) (Nat.le_refl _) _ |>.setCell (p := ⟨w.heap.size, 3, none⟩) (Nat.le_refl _) _
theorem tlast_any (h : PTab w g L) {c : Int} {R : SR} (hR : lastT L c = R) :
    Calls Try.prog 22 #[.pointer (some ⟨g, 0, none⟩), .int .i64 c] w fun e w' => e = .returned (.tuple #[.int .i64 R.seq, .agg #[.int .i64 R.er, .bool R.fd, .string R.val, .int .i64 R.ver]]) ∧ Since w w' := by
  unfold lastT at hR
  cases hc : cliB c with
  | true => rw [hc, if_pos rfl] at hR; exact tlast_yes h hc hR.symm
  | false =>
    rw [hc] at hR
    subst hR
    exact tlast_no h hc
end
end Go.Proofs.Ytbgfjkgpekkciaa
