/- gleberef03: Last, Sibling of paths that may be. -/
import Derived.Test.YthfhpejpjiaikaaGreatK40
import Derived.Deep.Cut
import Derived.Deep.CutRange
namespace Go.Proofs.YthfhpejpjiaikaaGreat
open Go.RowKit
set_option linter.unusedVariables false
set_option linter.unusedSimpArgs false
/-- The other half's bits. -/
def sibB (b : Int) : Int := 2 * (b / 2) + (1 - b % 2)
set_option maxRecDepth 100000 in
set_option maxHeartbeats 1600000 in
theorem refLast_yes (d b : Int) (w : World) (hf : fine d b = true) (h0 : 0 < d) : Calls Tryz.prog 61 #[.agg #[.int .i64 d, .int .i64 b]] w fun e w' => e = .returned (.int .i64 (b % 2)) ∧ Below w.heap.size w w' := by
  obtain ⟨w0, hw0⟩ : ∃ w0, w0 = w.alloc (.cells #[.int .i64 d, .int .i64 b] 23) := ⟨_, rfl⟩
  have hs0 : Since w w0 := by rw [hw0]; exact (Since.refl w).alloc _
  have wh0 : Whole w0 (w.heap.size) 23 #[.int .i64 d, .int .i64 b] := by rw [hw0]; exact Whole.new w _ _
  have HW := Lib.hid hw0
  have c0_0 := box_cell wh0 0 (.int .i64 d) rfl
  have c0_1 := box_cell wh0 1 (.int .i64 b) rfl
  have hsr := Since.refl w0
  have hsd := hsr.drew
  clear hw0 wh0
  have hfi := (fine_iff d b).1 hf
  obtain ⟨D, hD⟩ : ∃ D, d - 1 = D := ⟨_, rfl⟩
  have w1 : IntKind.i64.wrap (d - 1) = D := (IntWalk.i64_in _ (by omega)).trans hD
  have w2 : wrap64 (d - 1) = D := (IntWalk.wrap64_in _ ⟨by omega, by omega⟩).trans hD
  have HB := Lib.hid (fun W => hD ▸ refBit_last d b W hf h0)
  clear hf h0 hfi hD
  go_enter Tryz.func61, Tryz.ntmps61
  go_wp2_with fail
  rw [← HW.out]
  go_wp2_with (go_at_call 93; (with_reducible refine (Calls.since (by assumption) (HB.out _)).mono ?_); rintro e wr ⟨rfl, hbr⟩)
  go_ret
  exact ⟨rfl, hs0.trans hbr⟩
set_option maxRecDepth 100000 in
set_option maxHeartbeats 1600000 in
theorem refSib_top (b : Int) (w : World) (hf : fine 0 b = true) : Calls Tryz.prog 34 #[.agg #[.int .i64 0, .int .i64 b]] w fun e w' => e = .returned (.tuple #[.agg #[.int .i64 0, .int .i64 0], .bool false]) ∧ Below w.heap.size w w' := by
  obtain ⟨w0, hw0⟩ : ∃ w0, w0 = (w.alloc (.cells #[.int .i64 0, .int .i64 b] 23)).alloc (.cells #[.int .i64 0, .int .i64 0] 23) := ⟨_, rfl⟩
  have hs0 : Since w w0 := by rw [hw0]; exact ((Since.refl w).alloc _).alloc _
  have wh0 : Whole w0 (w.heap.size) 23 #[.int .i64 0, .int .i64 b] := by rw [hw0]; exact (Whole.new w _ _).alloc _
  have wh1 : Whole w0 (w.heap.size + 1) 23 #[.int .i64 0, .int .i64 0] := by rw [hw0]; exact (Whole.new (w.alloc _) _ _).at_ (by simp)
  have HW := Lib.hid hw0
  have c0_0 := box_cell wh0 0 (.int .i64 0) rfl
  have c0_1 := box_cell wh0 1 (.int .i64 b) rfl
  have c1_0 := box_cell wh1 0 (.int .i64 0) rfl
  have f1_0 := box_free wh1 0
  have c1_1 := box_cell wh1 1 (.int .i64 0) rfl
  have f1_1 := box_free wh1 1
  have hsr := Since.refl w0
  have hsd := hsr.drew
  clear hw0
  have HP := Lib.hid (fun W => refParent_top b W hf)
  clear hf
  go_enter Tryz.func34, Tryz.ntmps34
  go_wp2_with fail
  rw [← HW.out]
  go_wp2_with (go_at_call 35; (with_reducible refine (Calls.since (by assumption) (HP.out _)).mono ?_); rintro e wr ⟨rfl, hbr⟩; have hw5 := (Since.whole hbr wh1).alloc (.cells #[.int .i64 0, .int .i64 0] 23); have x0 := hw5.cell 0; have x1 := hw5.cell 1; have y0 := hw5.frozen 0; have y1 := hw5.frozen 1)
  have u := (hw5.set_ 0 (.int .i64 0)).set_ 1 (.int .i64 0)
  have u0 := u.cell 0
  have u1 := u.cell 1
  exact bodyPost_ret (v := .tuple #[.agg #[.int .i64 0, .int .i64 0], .bool false]) (by simp [results, Tryz.results34, go_sem, u0, u1]) rfl ⟨rfl, Below.setCell (Below.setCell ((hs0.trans hbr).alloc _) (by simp) _) (by simp) _⟩
set_option maxRecDepth 100000 in
set_option maxHeartbeats 3200000 in
theorem refSib_yes (d b : Int) (w : World) (hf : fine d b = true) (h0 : 0 < d) : Calls Tryz.prog 34 #[.agg #[.int .i64 d, .int .i64 b]] w fun e w' => e = .returned (.tuple #[.agg #[.int .i64 d, .int .i64 (sibB b)], .bool true]) ∧ Below w.heap.size w w' := by
  obtain ⟨w0, hw0⟩ : ∃ w0, w0 = (w.alloc (.cells #[.int .i64 d, .int .i64 b] 23)).alloc (.cells #[.int .i64 0, .int .i64 0] 23) := ⟨_, rfl⟩
  have hs0 : Since w w0 := by rw [hw0]; exact ((Since.refl w).alloc _).alloc _
  have wh0 : Whole w0 (w.heap.size) 23 #[.int .i64 d, .int .i64 b] := by rw [hw0]; exact (Whole.new w _ _).alloc _
  have wh1 : Whole w0 (w.heap.size + 1) 23 #[.int .i64 0, .int .i64 0] := by rw [hw0]; exact (Whole.new (w.alloc _) _ _).at_ (by simp)
  have HW := Lib.hid hw0
  have c0_0 := box_cell wh0 0 (.int .i64 d) rfl
  have c0_1 := box_cell wh0 1 (.int .i64 b) rfl
  have c1_0 := box_cell wh1 0 (.int .i64 0) rfl
  have f1_0 := box_free wh1 0
  have c1_1 := box_cell wh1 1 (.int .i64 0) rfl
  have f1_1 := box_free wh1 1
  have hsr := Since.refl w0
  have hsd := hsr.drew
  clear hw0
  have hfi := (fine_iff d b).1 hf
  have hfu := fine_up hf h0
  obtain ⟨D, hD⟩ : ∃ D, d - 1 = D := ⟨_, rfl⟩
  obtain ⟨V, hV⟩ : ∃ V, b / 2 = V := ⟨_, rfl⟩
  obtain ⟨L, hL⟩ : ∃ L, b % 2 = L := ⟨_, rfl⟩
  have HP := Lib.hid (fun W => refParent_yes d b W hf h0)
  have HLA := Lib.hid (fun W => refLast_yes d b W hf h0)
  have HCH := Lib.hid (fun W => refChild_yes (d - 1) (b / 2) (1 - b % 2) W hfu (by omega) (by omega))
  have hsb : sibB b = 2 * V + (1 - L) := by unfold sibB; rw [hV, hL]
  rw [show d - 1 + 1 = d by omega] at HCH
  rw [hD, hV] at HP
  rw [hL] at HLA
  rw [hD, hV, hL, ← hsb] at HCH
  obtain ⟨M, hM⟩ : ∃ M, 1 - L = M := ⟨_, rfl⟩
  have w1 : IntKind.i64.wrap (1 - L) = M := (IntWalk.i64_in _ (by omega)).trans hM
  have w2 : wrap64 (1 - L) = M := (IntWalk.wrap64_in _ ⟨by omega, by omega⟩).trans hM
  rw [hM] at HCH
  obtain ⟨S, hS⟩ : ∃ S, sibB b = S := ⟨_, rfl⟩
  rw [hS] at HCH ⊢
  clear hf h0 hfi hfu hD hV hL hsb hM hS
  go_enter Tryz.func34, Tryz.ntmps34
  go_wp2_with fail
  rw [← HW.out]
  go_upto_region 4 with (go_at_call 35; (with_reducible refine (Calls.since (by assumption) (HP.out _)).mono ?_); rintro e wp ⟨rfl, hbp⟩)
  obtain ⟨wr, hwr⟩ : ∃ wr, wr = wp.alloc (.cells #[.int .i64 D, .int .i64 V] 23) := ⟨_, rfl⟩
  rw [← hwr]
  have hbr : Since w0 wr := Since.named (hbp.alloc _) hwr
  have wu : Whole wr wp.heap.size 23 #[.int .i64 D, .int .i64 V] := (Whole.new wp _ _).named hwr
  have b0 := box_cell (Since.whole hbr wh0) 0 (.int .i64 d) rfl
  have b1 := box_cell (Since.whole hbr wh0) 1 (.int .i64 b) rfl
  have b2 := box_cell wu 0 (.int .i64 D) rfl
  have b3 := box_cell wu 1 (.int .i64 V) rfl
  have hrd : Since wr wr.drew := (Since.refl wr).drew
  clear c0_0 c0_1 c1_0 c1_1 f1_0 f1_1 hsr hsd hwr wu
  go_cut [6, 7] from 16 to 24 (fun p z wx => (∃ NB, p = .pointer (some ⟨NB, 0, none⟩) ∧ Whole wx NB 23 #[.int .i64 d, .int .i64 S]) ∧ z = .int .i64 0 ∧ Since wr wx)
  case first =>
    obtain ⟨wq, hwq⟩ : ∃ wq, wq = wr.drew := ⟨_, rfl⟩
    refine wp_region_held_drew (S := fun W => Since wr W) (by kernel_rfl) hrd (fun hHeld => ?_)
    rw [← hwq] at hHeld ⊢
    have hq : Since wr wq := hHeld
    clear hwq hrd
    refine wpAnyH_take (i := 0) (v := ?_) rfl (by kernel_rfl) (by kernel_rfl) (by kernel_rfl) (fun _ _ _ h => h) (Or.inl ⟨by rfl, ?_⟩) (by assumption) ?_
    rotate_left 1
    · (intro W hW; skip; go_simp; try with_reducible rfl)
    simp only [Act.put, List.getElem_toArray, List.getElem_cons_zero, List.setIfInBounds_toArray, List.set_cons_zero, List.set_cons_succ]
    refine wpAnyH_take (i := 1) (v := ?_) rfl (by kernel_rfl) (by kernel_rfl) (by kernel_rfl) (fun _ _ _ h => h) (Or.inl ⟨by rfl, ?_⟩) (by assumption) ?_
    rotate_left 1
    · (intro W hW; skip; go_simp; try with_reducible rfl)
    simp only [Act.put, List.getElem_toArray, List.getElem_cons_succ, List.getElem_cons_zero, List.setIfInBounds_toArray, List.set_cons_zero, List.set_cons_succ]
    refine wpAnyH_ready (rs := [2, 8]) (by kernel_rfl) (by simp) ?_
    refine AllReadyH.cons rfl (fun K hK => ?_) (AllReadyH.cons rfl (fun K hK => ?_) AllReadyH.nil)
    · go_simp
      refine (Calls.since hq (HLA.out _)).mono ?_
      rintro e w2 ⟨rfl, hb2⟩
      go_wp2_with fail
      refine hK.out _ _ (hb2) (fun hHeld => ?_)
      clear hK K
      try simp only [Act.put, List.getElem_toArray, List.getElem_cons_succ, List.getElem_cons_zero, List.setIfInBounds_toArray, List.set_cons_zero, List.set_cons_succ]
      refine wpAnyH_take (i := 3) (v := ?_) rfl (by kernel_rfl) (by kernel_rfl) (by kernel_rfl) (fun _ _ _ h => h) (Or.inl ⟨by rfl, ?_⟩) (by assumption) ?_
      rotate_left 1
      · (intro W hW; clear hW; go_simp; try with_reducible rfl)
      simp only [Act.put, List.getElem_toArray, List.getElem_cons_succ, List.getElem_cons_zero, List.setIfInBounds_toArray, List.set_cons_zero, List.set_cons_succ]
      refine wpAnyH_ready (rs := [4, 8]) (by kernel_rfl) (by simp) ?_
      refine AllReadyH.cons rfl (fun K hK => ?_) (AllReadyH.cons rfl (fun K hK => ?_) AllReadyH.nil)
      · go_simp
        refine (HCH.out _).mono ?_
        rintro e w4 ⟨rfl, hb4'⟩
        have hb4 : Since wr w4 := Since.trans hb2 hb4'
        go_wp2_with fail
        refine hK.out _ _ (hb4) (fun hHeld => ?_)
        clear hK K
        try simp only [Act.put, List.getElem_toArray, List.getElem_cons_succ, List.getElem_cons_zero, List.setIfInBounds_toArray, List.set_cons_zero, List.set_cons_succ]
        refine wpAnyH_take (i := 5) (v := ?_) rfl (by kernel_rfl) (by kernel_rfl) (by kernel_rfl) (fun _ _ _ h => h) (Or.inl ⟨by rfl, ?_⟩) (by assumption) ?_
        rotate_left 1
        · (intro W hW; clear hW; go_simp; try with_reducible rfl)
        simp only [Act.put, List.getElem_toArray, List.getElem_cons_succ, List.getElem_cons_zero, List.setIfInBounds_toArray, List.set_cons_zero, List.set_cons_succ]
        refine wpAnyH_take (i := 6) (v := ?_) rfl (by kernel_rfl) (by kernel_rfl) (by kernel_rfl) (fun _ _ _ h => h) (Or.inl ⟨by rfl, ?_⟩) (by assumption) ?_
        rotate_left 1
        · (intro W hW; clear hW; go_simp; try with_reducible rfl)
        simp only [Act.put, List.getElem_toArray, List.getElem_cons_succ, List.getElem_cons_zero, List.setIfInBounds_toArray, List.set_cons_zero, List.set_cons_succ]
        refine wpAnyH_take (i := 7) (v := ?_) rfl (by kernel_rfl) (by kernel_rfl) (by kernel_rfl) (fun _ _ _ h => h) (Or.inl ⟨by rfl, ?_⟩) (by assumption) ?_
        rotate_left 1
        · (intro W hW; clear hW; go_simp; try with_reducible rfl)
        simp only [Act.put, List.getElem_toArray, List.getElem_cons_succ, List.getElem_cons_zero, List.setIfInBounds_toArray, List.set_cons_zero, List.set_cons_succ]
        refine wpAnyH_ready (rs := [8]) (by kernel_rfl) (by simp) ?_
        refine AllReadyH.cons rfl (fun K hK => ?_) AllReadyH.nil
        go_simp
        skip
        refine hK.out _ _ ((hb4.alloc _)) (fun hHeld => ?_)
        clear hK K
        try simp only [Act.put, List.getElem_toArray, List.getElem_cons_succ, List.getElem_cons_zero, List.setIfInBounds_toArray, List.set_cons_zero, List.set_cons_succ]
        refine wpAnyH_ready (rs := [9]) (by kernel_rfl) (by simp) ?_
        refine AllReadyH.cons rfl (fun K hK => ?_) AllReadyH.nil
        go_simp
        skip
        refine hK.out _ _ ((hb4.alloc _)) (fun hHeld => ?_)
        clear hK K
        try simp only [Act.put, List.getElem_toArray, List.getElem_cons_succ, List.getElem_cons_zero, List.setIfInBounds_toArray, List.set_cons_zero, List.set_cons_succ]
        refine wpAnyH_take (i := 10) (v := ?_) rfl (by kernel_rfl) (by kernel_rfl) (by kernel_rfl) (fun _ _ _ h => h) (Or.inl ⟨by rfl, ?_⟩) (by assumption) ?_
        rotate_left 1
        · (intro W hW; clear hW; go_simp; try with_reducible rfl)
        simp only [Act.put, List.getElem_toArray, List.getElem_cons_succ, List.getElem_cons_zero, List.setIfInBounds_toArray, List.set_cons_zero, List.set_cons_succ]
        refine wpAnyH_done (by kernel_rfl) ?_ _
        go_wp2_with fail
        go_meet
        case rel => exact ⟨⟨_, rfl, Whole.new w4 _ _⟩, rfl, hb4.alloc _⟩
      · go_simp
        skip
        refine hK.out _ _ ((hb2.alloc _)) (fun hHeld => ?_)
        clear hK K
        try simp only [Act.put, List.getElem_toArray, List.getElem_cons_succ, List.getElem_cons_zero, List.setIfInBounds_toArray, List.set_cons_zero, List.set_cons_succ]
        refine wpAnyH_ready (rs := [4]) (by kernel_rfl) (by simp) ?_
        refine AllReadyH.cons rfl (fun K hK => ?_) AllReadyH.nil
        go_simp
        refine (HCH.out _).mono ?_
        rintro e w4 ⟨rfl, hb4'⟩
        have hb4 : Since wr w4 := Since.trans (hb2.alloc (.cells #[.int .i64 0, .int .i64 0] 23)) hb4'
        have hw4 := Since.whole hb4' (Whole.new w2 23 #[.int .i64 0, .int .i64 0])
        have x0 := hw4.cell 0
        have x1 := hw4.cell 1
        have y0 := hw4.frozen 0
        have y1 := hw4.frozen 1
        go_wp2_with fail
        refine hK.out _ _ (hb4) (fun hHeld => ?_)
        clear hK K
        try simp only [Act.put, List.getElem_toArray, List.getElem_cons_succ, List.getElem_cons_zero, List.setIfInBounds_toArray, List.set_cons_zero, List.set_cons_succ]
        refine wpAnyH_take (i := 5) (v := ?_) rfl (by kernel_rfl) (by kernel_rfl) (by kernel_rfl) (fun _ _ _ h => h) (Or.inl ⟨by rfl, ?_⟩) (by assumption) ?_
        rotate_left 1
        · (intro W hW; clear hW; go_simp; try with_reducible rfl)
        simp only [Act.put, List.getElem_toArray, List.getElem_cons_succ, List.getElem_cons_zero, List.setIfInBounds_toArray, List.set_cons_zero, List.set_cons_succ]
        refine wpAnyH_take (i := 6) (v := ?_) rfl (by kernel_rfl) (by kernel_rfl) (by kernel_rfl) (fun _ _ _ h => h) (Or.inl ⟨by rfl, ?_⟩) (by assumption) ?_
        rotate_left 1
        · (intro W hW; clear hW; go_simp; try with_reducible rfl)
        simp only [Act.put, List.getElem_toArray, List.getElem_cons_succ, List.getElem_cons_zero, List.setIfInBounds_toArray, List.set_cons_zero, List.set_cons_succ]
        refine wpAnyH_take (i := 7) (v := ?_) rfl (by kernel_rfl) (by kernel_rfl) (by kernel_rfl) (fun _ _ _ h => h) (Or.inl ⟨by rfl, ?_⟩) (by assumption) ?_
        rotate_left 1
        · (intro W hW; clear hW; go_simp; try with_reducible rfl)
        simp only [Act.put, List.getElem_toArray, List.getElem_cons_succ, List.getElem_cons_zero, List.setIfInBounds_toArray, List.set_cons_zero, List.set_cons_succ]
        refine wpAnyH_ready (rs := [9]) (by kernel_rfl) (by simp) ?_
        refine AllReadyH.cons rfl (fun K hK => ?_) AllReadyH.nil
        go_simp
        skip
        refine hK.out _ _ ((Since.setCell (Since.setCell hb4 (p := ⟨w2.heap.size, 0, none⟩) hb2.size_ _) (p := ⟨w2.heap.size, 1, none⟩) hb2.size_ _)) (fun hHeld => ?_)
        clear hK K
        try simp only [Act.put, List.getElem_toArray, List.getElem_cons_succ, List.getElem_cons_zero, List.setIfInBounds_toArray, List.set_cons_zero, List.set_cons_succ]
        refine wpAnyH_take (i := 10) (v := ?_) rfl (by kernel_rfl) (by kernel_rfl) (by kernel_rfl) (fun _ _ _ h => h) (Or.inl ⟨by rfl, ?_⟩) (by assumption) ?_
        rotate_left 1
        · (intro W hW; clear hW; go_simp; try with_reducible rfl)
        simp only [Act.put, List.getElem_toArray, List.getElem_cons_succ, List.getElem_cons_zero, List.setIfInBounds_toArray, List.set_cons_zero, List.set_cons_succ]
        refine wpAnyH_done (by kernel_rfl) ?_ _
        go_wp2_with fail
        go_meet
        case rel => exact ⟨⟨_, rfl, (hw4.set_ 0 _).set_ 1 _⟩, rfl, Since.setCell (Since.setCell hb4 (p := ⟨w2.heap.size, 0, none⟩) hb2.size_ _) (p := ⟨w2.heap.size, 1, none⟩) hb2.size_ _⟩
    · go_simp
      skip
      refine hK.out _ _ ((hq.alloc _)) (fun hHeld => ?_)
      clear hK K
      try simp only [Act.put, List.getElem_toArray, List.getElem_cons_succ, List.getElem_cons_zero, List.setIfInBounds_toArray, List.set_cons_zero, List.set_cons_succ]
      refine wpAnyH_ready (rs := [2]) (by kernel_rfl) (by simp) ?_
      refine AllReadyH.cons rfl (fun K hK => ?_) AllReadyH.nil
      go_simp
      refine (HLA.out _).mono ?_
      rintro e w2 ⟨rfl, hb2'⟩
      have hb2 : Since wr w2 := Since.trans (hq.alloc (.cells #[.int .i64 0, .int .i64 0] 23)) hb2'
      have hw2 := Since.whole hb2' (Whole.new wq 23 #[.int .i64 0, .int .i64 0])
      go_wp2_with fail
      refine hK.out _ _ (hb2) (fun hHeld => ?_)
      clear hK K
      try simp only [Act.put, List.getElem_toArray, List.getElem_cons_succ, List.getElem_cons_zero, List.setIfInBounds_toArray, List.set_cons_zero, List.set_cons_succ]
      refine wpAnyH_take (i := 3) (v := ?_) rfl (by kernel_rfl) (by kernel_rfl) (by kernel_rfl) (fun _ _ _ h => h) (Or.inl ⟨by rfl, ?_⟩) (by assumption) ?_
      rotate_left 1
      · (intro W hW; clear hW; go_simp; try with_reducible rfl)
      simp only [Act.put, List.getElem_toArray, List.getElem_cons_succ, List.getElem_cons_zero, List.setIfInBounds_toArray, List.set_cons_zero, List.set_cons_succ]
      refine wpAnyH_ready (rs := [4]) (by kernel_rfl) (by simp) ?_
      refine AllReadyH.cons rfl (fun K hK => ?_) AllReadyH.nil
      go_simp
      refine (HCH.out _).mono ?_
      rintro e w4 ⟨rfl, hb4'⟩
      have hb4 : Since wr w4 := Since.trans hb2 hb4'
      have hw4 := Since.whole hb4' hw2
      have x0 := hw4.cell 0
      have x1 := hw4.cell 1
      have y0 := hw4.frozen 0
      have y1 := hw4.frozen 1
      go_wp2_with fail
      refine hK.out _ _ (hb4) (fun hHeld => ?_)
      clear hK K
      try simp only [Act.put, List.getElem_toArray, List.getElem_cons_succ, List.getElem_cons_zero, List.setIfInBounds_toArray, List.set_cons_zero, List.set_cons_succ]
      refine wpAnyH_take (i := 5) (v := ?_) rfl (by kernel_rfl) (by kernel_rfl) (by kernel_rfl) (fun _ _ _ h => h) (Or.inl ⟨by rfl, ?_⟩) (by assumption) ?_
      rotate_left 1
      · (intro W hW; clear hW; go_simp; try with_reducible rfl)
      simp only [Act.put, List.getElem_toArray, List.getElem_cons_succ, List.getElem_cons_zero, List.setIfInBounds_toArray, List.set_cons_zero, List.set_cons_succ]
      refine wpAnyH_take (i := 6) (v := ?_) rfl (by kernel_rfl) (by kernel_rfl) (by kernel_rfl) (fun _ _ _ h => h) (Or.inl ⟨by rfl, ?_⟩) (by assumption) ?_
      rotate_left 1
      · (intro W hW; clear hW; go_simp; try with_reducible rfl)
      simp only [Act.put, List.getElem_toArray, List.getElem_cons_succ, List.getElem_cons_zero, List.setIfInBounds_toArray, List.set_cons_zero, List.set_cons_succ]
      refine wpAnyH_take (i := 7) (v := ?_) rfl (by kernel_rfl) (by kernel_rfl) (by kernel_rfl) (fun _ _ _ h => h) (Or.inl ⟨by rfl, ?_⟩) (by assumption) ?_
      rotate_left 1
      · (intro W hW; clear hW; go_simp; try with_reducible rfl)
      simp only [Act.put, List.getElem_toArray, List.getElem_cons_succ, List.getElem_cons_zero, List.setIfInBounds_toArray, List.set_cons_zero, List.set_cons_succ]
      refine wpAnyH_ready (rs := [9]) (by kernel_rfl) (by simp) ?_
      refine AllReadyH.cons rfl (fun K hK => ?_) AllReadyH.nil
      go_simp
      skip
      refine hK.out _ _ ((Since.setCell (Since.setCell hb4 (p := ⟨wq.heap.size, 0, none⟩) hq.size_ _) (p := ⟨wq.heap.size, 1, none⟩) hq.size_ _)) (fun hHeld => ?_)
      clear hK K
      try simp only [Act.put, List.getElem_toArray, List.getElem_cons_succ, List.getElem_cons_zero, List.setIfInBounds_toArray, List.set_cons_zero, List.set_cons_succ]
      refine wpAnyH_take (i := 10) (v := ?_) rfl (by kernel_rfl) (by kernel_rfl) (by kernel_rfl) (fun _ _ _ h => h) (Or.inl ⟨by rfl, ?_⟩) (by assumption) ?_
      rotate_left 1
      · (intro W hW; clear hW; go_simp; try with_reducible rfl)
      simp only [Act.put, List.getElem_toArray, List.getElem_cons_succ, List.getElem_cons_zero, List.setIfInBounds_toArray, List.set_cons_zero, List.set_cons_succ]
      refine wpAnyH_done (by kernel_rfl) ?_ _
      go_wp2_with fail
      go_meet
      case rel => exact ⟨⟨_, rfl, (hw4.set_ 0 _).set_ 1 _⟩, rfl, Since.setCell (Since.setCell hb4 (p := ⟨wq.heap.size, 0, none⟩) hq.size_ _) (p := ⟨wq.heap.size, 1, none⟩) hq.size_ _⟩
  case rest =>
    obtain ⟨wa, hwa⟩ : ∃ w', w' = wc := ⟨_, rfl⟩
    rw [← hwa] at hcut ⊢
    clear hwa
    obtain ⟨⟨NB, rfl, wn⟩, rfl, hsa⟩ := hcut
    have n0 := wn.cell 0
    have n1 := wn.cell 1
    have hw5 := Since.whole (hbr.trans hsa) wh1
    have x0 := hw5.cell 0
    have x1 := hw5.cell 1
    have y0 := hw5.frozen 0
    have y1 := hw5.frozen 1
    go_wp2_with fail
    have u := (hw5.set_ 0 (.int .i64 d)).set_ 1 (.int .i64 S)
    have u0 := u.cell 0
    have u1 := u.cell 1
    exact bodyPost_ret (v := .tuple #[.agg #[.int .i64 d, .int .i64 S], .bool true]) (by simp [results, Tryz.results34, go_sem, u0, u1]) rfl ⟨rfl, Below.setCell (Below.setCell (hs0.trans (hbr.trans hsa)) (by simp) _) (by simp) _⟩
end Go.Proofs.YthfhpejpjiaikaaGreat
