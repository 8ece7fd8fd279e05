/- gleberef09: right, Look, Last. -/
import Derived.Test.YtbgfjkgpekkciaaK17
import Derived.Test.YtbgfjkgpekkciaaK21
import Derived.Test.YtbgfjkgpekkciaaK23
namespace Go.Proofs.Ytbgfjkgpekkciaa
open Go.RowKit
set_option linter.unusedVariables false
set_option linter.unusedSimpArgs false
section
variable {w : World} {q : Nat} {L : STab}
theorem refLast_no (h : DTab w q L) {c : Int} (hc : cliB c = false) :
    Calls Try.prog 31 #[.pointer (some ⟨q, 0, none⟩), .int .i64 c] w fun e w' => e = .returned (.tuple #[.int .i64 0, .agg #[.int .i64 0, .bool false, .string ⟨#[]⟩, .int .i64 0]]) ∧ Since w w' := by
  have hcn : ¬ (0 ≤ c ∧ c < 8) := fun e => by rw [(cliB_iff c).2 e] at hc; cases hc
  clear hc
  obtain ⟨w0, hw0⟩ : ∃ w0, w0 = w.alloc (.cells #[.int .i64 0, .bool false, .string ⟨#[]⟩, .int .i64 0] 44) := ⟨_, rfl⟩
  have hs0 : Since w w0 := by rw [hw0]; exact (Since.refl w).alloc _
  have wh0 : Whole w0 (w.heap.size) 44 #[.int .i64 0, .bool false, .string ⟨#[]⟩, .int .i64 0] := by rw [hw0]; exact Whole.new w _ _
  have HW := Lib.hid hw0
  have c0_0 := box_cell wh0 0 (.int .i64 0) rfl
  have c0_1 := box_cell wh0 1 (.bool false) rfl
  have c0_2 := box_cell wh0 2 (.string ⟨#[]⟩) rfl
  have c0_3 := box_cell wh0 3 (.int .i64 0) rfl
  have hsr := Since.refl w0
  have hsd := hsr.drew
  clear hw0
  go_enter Try.func31, Try.ntmps31
  go_wp2_with fail
  all_goals (try omega)
  all_goals
    rw [← HW.out]
    have x0 := wh0.cell 0
    have x1 := wh0.cell 1
    have x2 := wh0.cell 2
    have x3 := wh0.cell 3
    have y0 := wh0.frozen 0
    have y1 := wh0.frozen 1
    have y2 := wh0.frozen 2
    have y3 := wh0.frozen 3
    go_wp2
    refine bodyPost_ret (v := .tuple #[.int .i64 0, .agg #[.int .i64 0, .bool false, .string ⟨#[]⟩, .int .i64 0]]) (by simp [results, Try.results31, go_sem, x0, x1, x2, x3]) rfl ⟨rfl, ?_⟩
    first | exact hs0 | exact (((hs0.setCell (p := ⟨w.heap.size, 0, none⟩) (Nat.le_refl _) _).setCell (p := ⟨w.heap.size, 1, none⟩) (Nat.le_refl _) _).setCell (p := ⟨w.heap.size, 2, none⟩) (Nat.le_refl _) _).setCell (p := ⟨w.heap.size, 3, none⟩) (Nat.le_refl _) _
set_option maxRecDepth 100000 in
theorem refLast_yes (h : DTab w q L) {c : Int} {R : SR} (hc : cliB c = true) (hR : R = rowT L c) :
    Calls Try.prog 31 #[.pointer (some ⟨q, 0, none⟩), .int .i64 c] w fun e w' => e = .returned (.tuple #[.int .i64 R.seq, .agg #[.int .i64 R.er, .bool R.fd, .string R.val, .int .i64 R.ver]]) ∧ Since w w' := by
  obtain ⟨c0, c1⟩ := (cliB_iff c).1 hc
  obtain ⟨i, hi⟩ : ∃ i, i = c.toNat := ⟨_, rfl⟩
  have hci : c = (i : Int) := by omega
  have hL := rowT_get h.1 c0 c1
  rw [← hi, ← hR] at hL
  have hi9 : i < 8 := by omega
  have hiz : (i : Int) < 8 := by omega
  subst hci
  have hlt := h.lt
  clear hc c0 c1 hi hR
  obtain ⟨er, fd, val, ver, seq⟩ := R
  obtain ⟨w0, hw0⟩ : ∃ w0, w0 = w.alloc (.cells #[.int .i64 0, .bool false, .string ⟨#[]⟩, .int .i64 0] 44) := ⟨_, rfl⟩
  have hs0 : Since w w0 := by rw [hw0]; exact (Since.refl w).alloc _
  have wh0 : Whole w0 (w.heap.size) 44 #[.int .i64 0, .bool false, .string ⟨#[]⟩, .int .i64 0] := by rw [hw0]; exact Whole.new w _ _
  have HW := Lib.hid hw0
  have c0_0 := box_cell wh0 0 (.int .i64 0) rfl
  have c0_1 := box_cell wh0 1 (.bool false) rfl
  have c0_2 := box_cell wh0 2 (.string ⟨#[]⟩) rfl
  have c0_3 := box_cell wh0 3 (.int .i64 0) rfl
  have hsr := Since.refl w0
  have hsd := hsr.drew
  clear hw0
  have h1 := h.since hs0
  dsimp only
  go_enter Try.func31, Try.ntmps31
  go_wp2_with fail
  rw [← HW.out]
  obtain ⟨wq, hwq⟩ : ∃ wq, wq = w0.drew := ⟨_, rfl⟩
  have hsq : Since w0 wq := by rw [hwq]; exact (Since.refl w0).drew
  refine wp_region_held_drew (S := fun W => Off (fun b => b = w.heap.size) w0 W) (by kernel_rfl) ((Since.refl w0).drew.off _) (fun hHeld => ?_)
  rw [← hwq] at hHeld ⊢
  clear hwq
  have hqn : ¬ q = w.heap.size := by omega
  have ds := off_cell (F := fun b => b = w.heap.size) h1.2 hqn i _ (dcells_seq hL)
  have d0 := off_cell (F := fun b => b = w.heap.size) h1.2 hqn (8 + i * 4) (.int .i64 er) (by have := dcells_ans (j := 0) h1.1 hL (.int .i64 er) rfl; rwa [← Nat.add_assoc] at this)
  have d1 := off_cell (F := fun b => b = w.heap.size) h1.2 hqn (8 + i * 4 + 1) (.bool fd) (by have := dcells_ans (j := 1) h1.1 hL (.bool fd) rfl; rwa [← Nat.add_assoc] at this)
  have d2 := off_cell (F := fun b => b = w.heap.size) h1.2 hqn (8 + i * 4 + 2) (.string val) (by have := dcells_ans (j := 2) h1.1 hL (.string val) rfl; rwa [← Nat.add_assoc] at this)
  have d3 := off_cell (F := fun b => b = w.heap.size) h1.2 hqn (8 + i * 4 + 3) (.int .i64 ver) (by have := dcells_ans (j := 3) h1.1 hL (.int .i64 ver) rfl; rwa [← Nat.add_assoc] at this)
  dsimp only at ds
  have wh2 := hsq.whole wh0
  have x0 := wh2.cell 0
  have x1 := wh2.cell 1
  have x2 := wh2.cell 2
  have x3 := wh2.cell 3
  have y0 := wh2.frozen 0
  have y1 := wh2.frozen 1
  have y2 := wh2.frozen 2
  have y3 := wh2.frozen 3
  clear c0_0 c0_1 c0_2 c0_3
  refine wpAnyH_take (i := 0) (v := ?_) rfl (by kernel_rfl) (by kernel_rfl) (by kernel_rfl) (fun _ _ _ h => h) (Or.inl ⟨by rfl, ?_⟩) (by assumption) ?_
  rotate_left 1
  · (intro W hW; clear hW; go_simp; try with_reducible rfl)
  simp only [Act.put, List.getElem_toArray, List.getElem_cons_zero, List.setIfInBounds_toArray, List.set_cons_zero, List.set_cons_succ]
  refine wpAnyH_take (i := 1) (v := ?_) rfl (by kernel_rfl) (by kernel_rfl) (by kernel_rfl) (fun _ _ _ h => h) (Or.inl ⟨by rfl, ?_⟩) (by assumption) ?_
  rotate_left 1
  · (intro W hW; clear hW; go_simp; try with_reducible rfl)
  simp only [Act.put, List.getElem_toArray, List.getElem_cons_succ, List.getElem_cons_zero, List.setIfInBounds_toArray, List.set_cons_zero, List.set_cons_succ]
  refine wpAnyH_take (i := 2) (v := ?_) rfl (by kernel_rfl) (by kernel_rfl) (by kernel_rfl) (fun _ _ _ h => h) (Or.inl ⟨by rfl, ?_⟩) (by assumption) ?_
  rotate_left 1
  · (intro W hW; clear hW; go_simp; try with_reducible rfl)
  simp only [Act.put, List.getElem_toArray, List.getElem_cons_succ, List.getElem_cons_zero, List.setIfInBounds_toArray, List.set_cons_zero, List.set_cons_succ]
  refine wpAnyH_take (i := 3) (v := ?_) rfl (by kernel_rfl) (by kernel_rfl) (by kernel_rfl) (fun _ _ _ h => h) (Or.inl ⟨by rfl, ?_⟩) (by assumption) ?_
  rotate_left 1
  · (intro W hW; clear hW; go_simp; try with_reducible rfl)
  simp only [Act.put, List.getElem_toArray, List.getElem_cons_succ, List.getElem_cons_zero, List.setIfInBounds_toArray, List.set_cons_zero, List.set_cons_succ]
  refine wpAnyH_take (i := 4) (v := ?_) rfl (by kernel_rfl) (by kernel_rfl) (by kernel_rfl) (fun _ _ _ h => h) (Or.inl ⟨by rfl, ?_⟩) (by assumption) ?_
  rotate_left 1
  · (intro W hW; clear hW; go_simp; try with_reducible rfl)
  simp only [Act.put, List.getElem_toArray, List.getElem_cons_succ, List.getElem_cons_zero, List.setIfInBounds_toArray, List.set_cons_zero, List.set_cons_succ]
  refine wpAnyH_take (i := 5) (v := ?_) rfl (by kernel_rfl) (by kernel_rfl) (by kernel_rfl) (fun _ _ _ h => h) (Or.inl ⟨by rfl, ?_⟩) (by assumption) ?_
  rotate_left 1
  · (intro W hW; skip; go_simp; try with_reducible rfl)
  simp only [Act.put, List.getElem_toArray, List.getElem_cons_succ, List.getElem_cons_zero, List.setIfInBounds_toArray, List.set_cons_zero, List.set_cons_succ]
  refine wpAnyH_take (i := 6) (v := ?_) rfl (by kernel_rfl) (by kernel_rfl) (by kernel_rfl) (fun _ _ _ h => h) (Or.inl ⟨by rfl, ?_⟩) (by assumption) ?_
  rotate_left 1
  · (intro W hW; clear hW; go_simp; try with_reducible rfl)
  simp only [Act.put, List.getElem_toArray, List.getElem_cons_succ, List.getElem_cons_zero, List.setIfInBounds_toArray, List.set_cons_zero, List.set_cons_succ]
  refine wpAnyH_take (i := 7) (v := ?_) rfl (by kernel_rfl) (by kernel_rfl) (by kernel_rfl) (fun _ _ _ h => h) (Or.inl ⟨by rfl, ?_⟩) (by assumption) ?_
  rotate_left 1
  · (intro W hW; clear hW; go_simp; try with_reducible rfl)
  simp only [Act.put, List.getElem_toArray, List.getElem_cons_succ, List.getElem_cons_zero, List.setIfInBounds_toArray, List.set_cons_zero, List.set_cons_succ]
  refine wpAnyH_take (i := 8) (v := ?_) rfl (by kernel_rfl) (by kernel_rfl) (by kernel_rfl) (fun _ _ _ h => h) (Or.inl ⟨by rfl, ?_⟩) (by assumption) ?_
  rotate_left 1
  · (intro W hW; clear hW; go_simp; try with_reducible rfl)
  simp only [Act.put, List.getElem_toArray, List.getElem_cons_succ, List.getElem_cons_zero, List.setIfInBounds_toArray, List.set_cons_zero, List.set_cons_succ]
  refine wpAnyH_take (i := 9) (v := ?_) rfl (by kernel_rfl) (by kernel_rfl) (by kernel_rfl) (fun _ _ _ h => h) (Or.inl ⟨by rfl, ?_⟩) (by assumption) ?_
  rotate_left 1
  · (intro W hW; clear hW; go_simp; try with_reducible rfl)
  simp only [Act.put, List.getElem_toArray, List.getElem_cons_succ, List.getElem_cons_zero, List.setIfInBounds_toArray, List.set_cons_zero, List.set_cons_succ]
  refine wpAnyH_take (i := 10) (v := ?_) rfl (by kernel_rfl) (by kernel_rfl) (by kernel_rfl) (fun _ _ _ h => h) (Or.inl ⟨by rfl, ?_⟩) (by assumption) ?_
  rotate_left 1
  · (intro W hW; clear hW; go_simp; try with_reducible rfl)
  simp only [Act.put, List.getElem_toArray, List.getElem_cons_succ, List.getElem_cons_zero, List.setIfInBounds_toArray, List.set_cons_zero, List.set_cons_succ]
  refine wpAnyH_take (i := 11) (v := ?_) rfl (by kernel_rfl) (by kernel_rfl) (by kernel_rfl) (fun _ _ _ h => h) (Or.inl ⟨by rfl, ?_⟩) (by assumption) ?_
  rotate_left 1
  · (intro W hW; skip; go_simp; try with_reducible rfl)
  simp only [Act.put, List.getElem_toArray, List.getElem_cons_succ, List.getElem_cons_zero, List.setIfInBounds_toArray, List.set_cons_zero, List.set_cons_succ]
  refine wpAnyH_take (i := 12) (v := ?_) rfl (by kernel_rfl) (by kernel_rfl) (by kernel_rfl) (fun _ _ _ h => h) (Or.inl ⟨by rfl, ?_⟩) (by assumption) ?_
  rotate_left 1
  · (intro W hW; clear hW; go_simp; try with_reducible rfl)
  simp only [Act.put, List.getElem_toArray, List.getElem_cons_succ, List.getElem_cons_zero, List.setIfInBounds_toArray, List.set_cons_zero, List.set_cons_succ]
  refine wpAnyH_ready (rs := [13]) (by kernel_rfl) (by simp) ?_
  refine AllReadyH.cons rfl (fun K hK => ?_) AllReadyH.nil
  go_simp
  skip
  refine hK.out _ _ ((((hHeld.setCell (p := ⟨w.heap.size, 0, none⟩) (.inr rfl) _).setCell (p := ⟨w.heap.size, 1, none⟩) (.inr rfl) _).setCell (p := ⟨w.heap.size, 2, none⟩) (.inr rfl) _).setCell (p := ⟨w.heap.size, 3, none⟩) (.inr rfl) _) (fun hHeld => ?_)
  clear hK K
  try simp only [Act.put, List.getElem_toArray, List.getElem_cons_succ, List.getElem_cons_zero, List.setIfInBounds_toArray, List.set_cons_zero, List.set_cons_succ]
  refine wpAnyH_done (by kernel_rfl) ?_ _
  go_wp2
  refine bodyPost_ret (v := .tuple #[.int .i64 seq, .agg #[.int .i64 er, .bool fd, .string val, .int .i64 ver]]) (by simp [results, Try.results31, go_sem, x0, x1, x2, x3]) rfl ⟨rfl, ?_⟩
  exact ((((hs0.trans hsq).setCell (p := ⟨w.heap.size, 0, none⟩) (Nat.le_refl _) _).setCell (p := ⟨w.heap.size, 1, none⟩) (Nat.le_refl _) _).setCell (p := ⟨w.heap.size, 2, none⟩) (Nat.le_refl _) _).setCell (p := ⟨w.heap.size, 3, none⟩) (Nat.le_refl _) _
theorem refLast_any (h : DTab w q L) {c : Int} {R : SR} (hR : lastT L c = R) :
    Calls Try.prog 31 #[.pointer (some ⟨q, 0, none⟩), .int .i64 c] w fun e w' => e = .returned (.tuple #[.int .i64 R.seq, .agg #[.int .i64 R.er, .bool R.fd, .string R.val, .int .i64 R.ver]]) ∧ Since w w' := by
  unfold lastT at hR
  cases hc : cliB c with
  | true => rw [hc, if_pos rfl] at hR; exact refLast_yes h hc hR.symm
  | false =>
    rw [hc] at hR
    subst hR
    exact refLast_no h hc
end
end Go.Proofs.Ytbgfjkgpekkciaa
