/- The program's Closer of a list. -/
import Derived.Test.YtbbnojfecmocgaaK32
namespace Go.Proofs.Ytbbnojfecmocgaa
open Go.RowKit
set_option linter.unusedVariables false
set_option linter.unusedSimpArgs false
set_option maxRecDepth 100000 in
set_option maxHeartbeats 3200000 in
theorem closer_any {B : Nat} {v : Value} {L : List Tl} {k d b x y : Int} (w : World) (h : ListE encT 3 B w v L) (hB : B ≤ w.heap.size) (hl : L.length ≤ 64) : Calls Try.prog 10 #[.agg #[.int .i64 k], v, .agg #[.int .i64 d, .int .i64 b], .agg #[.int .i64 x, .int .i64 y]] w fun e w' => e = .returned (tlV (clT k d b x y L)) ∧ Below w.heap.size w w' := by
  obtain ⟨va, cap, rfl, hform⟩ := h.form
  obtain ⟨w0, hw0⟩ : ∃ w0, w0 = (((w.alloc (.cells #[.int .i64 k] 26)).alloc (.cells #[.int .i64 d, .int .i64 b] 35)).alloc (.cells #[.int .i64 x, .int .i64 y] 24)).alloc (.cells #[.int .i64 0, .int .i64 0, .int .i64 0] 37) := ⟨_, rfl⟩
  have hs0 : Since w w0 := by rw [hw0]; exact ((((Since.refl w).alloc _).alloc _).alloc _).alloc _
  have wh0 : Whole w0 (w.heap.size) 26 #[.int .i64 k] := by rw [hw0]; exact (((Whole.new w _ _).alloc _).alloc _).alloc _
  have wh1 : Whole w0 (w.heap.size + 1) 35 #[.int .i64 d, .int .i64 b] := by rw [hw0]; exact (((Whole.new (w.alloc _) _ _).alloc _).alloc _).at_ (by simp)
  have wh2 : Whole w0 (w.heap.size + 1 + 1) 24 #[.int .i64 x, .int .i64 y] := by rw [hw0]; exact ((Whole.new ((w.alloc _).alloc _) _ _).alloc _).at_ (by simp)
  have wh3 : Whole w0 (w.heap.size + 1 + 1 + 1) 37 #[.int .i64 0, .int .i64 0, .int .i64 0] := by rw [hw0]; exact (Whole.new (((w.alloc _).alloc _).alloc _) _ _).at_ (by simp)
  have HW := Lib.hid hw0
  have c0_0 := box_cell wh0 0 (.int .i64 k) rfl
  have c1_0 := box_cell wh1 0 (.int .i64 d) rfl
  have c1_1 := box_cell wh1 1 (.int .i64 b) rfl
  have c2_0 := box_cell wh2 0 (.int .i64 x) rfl
  have c2_1 := box_cell wh2 1 (.int .i64 y) rfl
  have c3_0 := box_cell wh3 0 (.int .i64 0) rfl
  have f3_0 := box_free wh3 0
  have c3_1 := box_cell wh3 1 (.int .i64 0) rfl
  have f3_1 := box_free wh3 1
  have c3_2 := box_cell wh3 2 (.int .i64 0) rfl
  have f3_2 := box_free wh3 2
  have hsr := Since.refl w0
  have hsd := hsr.drew
  clear hw0
  have hB0 : B ≤ w0.heap.size := Nat.le_trans hB hs0.size_
  have h0 := h.since hs0 hB
  have HR := Lib.hid (fun W (hW : Since w0 W) => round_any (k := k) (d := d) (b := b) W (h0.since hW hB0) (Nat.le_trans hB0 hW.size_) hl)
  have hlb : (bsT k d b L).length ≤ 64 := Nat.le_trans (List.length_filter_le _ _) hl
  have HN := Lib.hid (fun W a (hW : RowE encT 3 W w0.heap.size 37 a (bsT k d b L)) => nearest_any (k := k) (x := x) (y := y) W (hW.list encT_len) (Nat.le_refl _) hlb)
  obtain ⟨D, hD⟩ : ∃ D, aptZ k d b x y = D := ⟨_, rfl⟩
  have HE := Lib.hid hD
  have hcl : clT k d b x y L = match nrT k x y (bsT k d b L) with
    | none => none
    | some p => if D ≤ p.2 then none else some p.1 := by unfold clT; rw [hD]; rfl
  have hfin : Since w0 w0 := Since.refl w0
  have HWH3 := Lib.hid wh3
  have HW0 := Lib.hid (show w0.heap.size = w.heap.size + 1 + 1 + 1 + 1 by rw [HW.out]; simp)
  rw [hcl]
  obtain ⟨o, ho⟩ : ∃ o, nrT k x y (bsT k d b L) = o := ⟨_, rfl⟩
  rw [ho] at HN ⊢
  clear hD hcl ho h h0 hform hlb hfin
  cases o with
  | none =>
    simp only [nrV] at HN
    go_enter Try.func10, Try.ntmps10
    go_wp2_with fail
    rw [← HW.out]
    obtain ⟨wq, hwq⟩ : ∃ wq, wq = w0.drew := ⟨_, rfl⟩
    refine wp_region_held_drew (S := fun W => Since w0 W) (by kernel_rfl) hsd (fun hHeld => ?_)
    rw [← hwq] at hHeld ⊢
    have hq : Since w0 wq := hHeld
    clear hwq hsd
    refine wpAnyH_take (i := 0) (v := ?_) rfl (by kernel_rfl) (by kernel_rfl) (by kernel_rfl) (fun _ _ _ h => h) (Or.inl ⟨by rfl, ?_⟩) (by assumption) ?_
    rotate_left 1
    · (intro W hW; skip; go_simp; try with_reducible rfl)
    simp only [Act.put, List.getElem_toArray, List.getElem_cons_zero, List.setIfInBounds_toArray, List.set_cons_zero, List.set_cons_succ]
    refine wpAnyH_take (i := 1) (v := ?_) rfl (by kernel_rfl) (by kernel_rfl) (by kernel_rfl) (fun _ _ _ h => h) (Or.inl ⟨by rfl, ?_⟩) (by assumption) ?_
    rotate_left 1
    · (intro W hW; skip; go_simp; try with_reducible rfl)
    simp only [Act.put, List.getElem_toArray, List.getElem_cons_succ, List.getElem_cons_zero, List.setIfInBounds_toArray, List.set_cons_zero, List.set_cons_succ]
    refine wpAnyH_take (i := 2) (v := ?_) rfl (by kernel_rfl) (by kernel_rfl) (by kernel_rfl) (fun _ _ _ h => h) (Or.inl ⟨by rfl, ?_⟩) (by assumption) ?_
    rotate_left 1
    · (intro W hW; clear hW; go_simp; try with_reducible rfl)
    simp only [Act.put, List.getElem_toArray, List.getElem_cons_succ, List.getElem_cons_zero, List.setIfInBounds_toArray, List.set_cons_zero, List.set_cons_succ]
    refine wpAnyH_take (i := 3) (v := ?_) rfl (by kernel_rfl) (by kernel_rfl) (by kernel_rfl) (fun _ _ _ h => h) (Or.inl ⟨by rfl, ?_⟩) (by assumption) ?_
    rotate_left 1
    · (intro W hW; skip; go_simp; try with_reducible rfl)
    simp only [Act.put, List.getElem_toArray, List.getElem_cons_succ, List.getElem_cons_zero, List.setIfInBounds_toArray, List.set_cons_zero, List.set_cons_succ]
    refine wpAnyH_take (i := 5) (v := ?_) rfl (by kernel_rfl) (by kernel_rfl) (by kernel_rfl) (fun _ _ _ h => h) (Or.inl ⟨by rfl, ?_⟩) (by assumption) ?_
    rotate_left 1
    · (intro W hW; skip; go_simp; try with_reducible rfl)
    simp only [Act.put, List.getElem_toArray, List.getElem_cons_succ, List.getElem_cons_zero, List.setIfInBounds_toArray, List.set_cons_zero, List.set_cons_succ]
    refine wpAnyH_ready (rs := [4, 11]) (by kernel_rfl) (by simp) ?_
    refine AllReadyH.cons rfl (fun K hK => ?_) (AllReadyH.cons rfl (fun K hK => ?_) AllReadyH.nil)
    · go_simp
      refine (HR.out wq hq).mono ?_
      rintro e wc0 ⟨ra, rfl, row2, hd0⟩
      have hc0 : Since w0 wc0 := Since.trans hq hd0
      have row3 : RowE encT 3 wc0 w0.heap.size 37 ra _ := row2.mono (Since.size_ hq)
      go_wp2_with fail
      refine hK.out _ _ (hc0) (fun hHeld => ?_)
      clear hK K
      try simp only [Act.put, List.getElem_toArray, List.getElem_cons_succ, List.getElem_cons_zero, List.setIfInBounds_toArray, List.set_cons_zero, List.set_cons_succ]
      refine wpAnyH_ready (rs := [6, 11]) (by kernel_rfl) (by simp) ?_
      refine AllReadyH.cons rfl (fun K hK => ?_) (AllReadyH.cons rfl (fun K hK => ?_) AllReadyH.nil)
      · go_simp
        refine (HN.out wc0 ra (RowE.since row3 (Since.refl _))).mono ?_
        rintro e wc1 ⟨rfl, hd1⟩
        have hc1 : Since w0 wc1 := Since.trans hc0 hd1
        go_wp2_with fail
        refine hK.out _ _ (hc1) (fun hHeld => ?_)
        clear hK K
        try simp only [Act.put, List.getElem_toArray, List.getElem_cons_succ, List.getElem_cons_zero, List.setIfInBounds_toArray, List.set_cons_zero, List.set_cons_succ]
        refine wpAnyH_take (i := 7) (v := ?_) rfl (by kernel_rfl) (by kernel_rfl) (by kernel_rfl) (fun _ _ _ h => h) (Or.inl ⟨by rfl, ?_⟩) (by assumption) ?_
        rotate_left 1
        · (intro W hW; clear hW; go_simp; try with_reducible rfl)
        simp only [Act.put, List.getElem_toArray, List.getElem_cons_succ, List.getElem_cons_zero, List.setIfInBounds_toArray, List.set_cons_zero, List.set_cons_succ]
        refine wpAnyH_take (i := 8) (v := ?_) rfl (by kernel_rfl) (by kernel_rfl) (by kernel_rfl) (fun _ _ _ h => h) (Or.inl ⟨by rfl, ?_⟩) (by assumption) ?_
        rotate_left 1
        · (intro W hW; clear hW; go_simp; try with_reducible rfl)
        simp only [Act.put, List.getElem_toArray, List.getElem_cons_succ, List.getElem_cons_zero, List.setIfInBounds_toArray, List.set_cons_zero, List.set_cons_succ]
        refine wpAnyH_take (i := 9) (v := ?_) rfl (by kernel_rfl) (by kernel_rfl) (by kernel_rfl) (fun _ _ _ h => h) (Or.inl ⟨by rfl, ?_⟩) (by assumption) ?_
        rotate_left 1
        · (intro W hW; clear hW; go_simp; try with_reducible rfl)
        simp only [Act.put, List.getElem_toArray, List.getElem_cons_succ, List.getElem_cons_zero, List.setIfInBounds_toArray, List.set_cons_zero, List.set_cons_succ]
        refine wpAnyH_take (i := 10) (v := ?_) rfl (by kernel_rfl) (by kernel_rfl) (by kernel_rfl) (fun _ _ _ h => h) (Or.inl ⟨by rfl, ?_⟩) (by assumption) ?_
        rotate_left 1
        · (intro W hW; clear hW; go_simp; try with_reducible rfl)
        simp only [Act.put, List.getElem_toArray, List.getElem_cons_succ, List.getElem_cons_zero, List.setIfInBounds_toArray, List.set_cons_zero, List.set_cons_succ]
        refine wpAnyH_ready (rs := [11]) (by kernel_rfl) (by simp) ?_
        refine AllReadyH.cons rfl (fun K hK => ?_) AllReadyH.nil
        go_simp
        have hgb : w0.heap.size ≤ wc1.heap.size := Since.size_ hc1
        refine hK.out _ _ ((Since.alloc hc1 _)) (fun hHeld => ?_)
        clear hK K
        try simp only [Act.put, List.getElem_toArray, List.getElem_cons_succ, List.getElem_cons_zero, List.setIfInBounds_toArray, List.set_cons_zero, List.set_cons_succ]
        refine wpAnyH_ready (rs := [12]) (by kernel_rfl) (by simp) ?_
        refine AllReadyH.cons rfl (fun K hK => ?_) AllReadyH.nil
        go_simp
        skip
        refine hK.out _ _ ((Since.alloc hc1 _)) (fun hHeld => ?_)
        clear hK K
        try simp only [Act.put, List.getElem_toArray, List.getElem_cons_succ, List.getElem_cons_zero, List.setIfInBounds_toArray, List.set_cons_zero, List.set_cons_succ]
        refine wpAnyH_take (i := 13) (v := ?_) rfl (by kernel_rfl) (by kernel_rfl) (by kernel_rfl) (fun _ _ _ h => h) (Or.inl ⟨by rfl, ?_⟩) (by assumption) ?_
        rotate_left 1
        · (intro W hW; clear hW; go_simp; try with_reducible rfl)
        simp only [Act.put, List.getElem_toArray, List.getElem_cons_succ, List.getElem_cons_zero, List.setIfInBounds_toArray, List.set_cons_zero, List.set_cons_succ]
        refine wpAnyH_take (i := 14) (v := ?_) rfl (by kernel_rfl) (by kernel_rfl) (by kernel_rfl) (fun _ _ _ h => h) (Or.inl ⟨by rfl, ?_⟩) (by assumption) ?_
        rotate_left 1
        · (intro W hW; clear hW; go_simp; try with_reducible rfl)
        simp only [Act.put, List.getElem_toArray, List.getElem_cons_succ, List.getElem_cons_zero, List.setIfInBounds_toArray, List.set_cons_zero, List.set_cons_succ]
        refine wpAnyH_done (by kernel_rfl) ?_ _
        obtain ⟨w5, hw5⟩ : ∃ w5, w5 = wc1.alloc (.cells #[.int .i64 0, .int .i64 0, .int .i64 0] 37) := ⟨_, rfl⟩
        have hS5 : Since w0 w5 := Since.named (Since.alloc hc1 _) hw5
        have hSl : Since wc1 w5 := Since.named (Since.alloc (Since.refl _) _) hw5
        have hN5 : Whole w5 wc1.heap.size 37 #[.int .i64 0, .int .i64 0, .int .i64 0] := (Whole.new wc1 _ _).named hw5
        obtain ⟨NB, hNB⟩ : ∃ NB, NB = wc1.heap.size := ⟨_, rfl⟩
        rw [← hw5, ← hNB]
        rw [← hNB] at hN5
        clear hHeld hw5 hNB
        ((have wR := Since.whole hS5 HWH3.out); (have r0 := wR.frozen 0); (have q0 := wR.cell 0); (have r1 := wR.frozen 1); (have q1 := wR.cell 1); (have r2 := wR.frozen 2); (have q2 := wR.cell 2))
        go_wp2_with fail
        have u := ((wR.set_ 0 (.int .i64 0)).set_ 1 (.int .i64 0)).set_ 2 (.int .i64 0)
        have u0 := u.cell 0
        have u1 := u.cell 1
        have u2 := u.cell 2
        exact bodyPost_ret (v := tlV none) (by simp [tlV, results, Try.results10, go_sem, u0, u1, u2]) rfl ⟨rfl, Below.setCell (Below.setCell (Below.setCell (hs0.trans hS5) (p := ⟨w.heap.size + 1 + 1 + 1, 0, none⟩) (show w.heap.size ≤ w.heap.size + 1 + 1 + 1 by omega) _) (p := ⟨w.heap.size + 1 + 1 + 1, 1, none⟩) (show w.heap.size ≤ w.heap.size + 1 + 1 + 1 by omega) _) (p := ⟨w.heap.size + 1 + 1 + 1, 2, none⟩) (show w.heap.size ≤ w.heap.size + 1 + 1 + 1 by omega) _⟩
      · go_simp
        have hgb : w0.heap.size ≤ wc0.heap.size := Since.size_ hc0
        refine hK.out _ _ ((Since.alloc hc0 _)) (fun hHeld => ?_)
        clear hK K
        try simp only [Act.put, List.getElem_toArray, List.getElem_cons_succ, List.getElem_cons_zero, List.setIfInBounds_toArray, List.set_cons_zero, List.set_cons_succ]
        refine wpAnyH_ready (rs := [6]) (by kernel_rfl) (by simp) ?_
        refine AllReadyH.cons rfl (fun K hK => ?_) AllReadyH.nil
        go_simp
        refine (HN.out (wc0.alloc (.cells #[.int .i64 0, .int .i64 0, .int .i64 0] 37)) ra (RowE.since row3 (Since.alloc (Since.refl _) _))).mono ?_
        rintro e wc1 ⟨rfl, hd1⟩
        have hc1 : Since w0 wc1 := Since.trans (Since.alloc hc0 (.cells #[.int .i64 0, .int .i64 0, .int .i64 0] 37)) hd1
        have b1 : Whole wc1 (wc0.heap.size) 37 #[.int .i64 0, .int .i64 0, .int .i64 0] := Since.whole hd1 (Whole.new wc0 37 #[.int .i64 0, .int .i64 0, .int .i64 0])
        go_wp2_with fail
        refine hK.out _ _ (hc1) (fun hHeld => ?_)
        clear hK K
        try simp only [Act.put, List.getElem_toArray, List.getElem_cons_succ, List.getElem_cons_zero, List.setIfInBounds_toArray, List.set_cons_zero, List.set_cons_succ]
        refine wpAnyH_take (i := 7) (v := ?_) rfl (by kernel_rfl) (by kernel_rfl) (by kernel_rfl) (fun _ _ _ h => h) (Or.inl ⟨by rfl, ?_⟩) (by assumption) ?_
        rotate_left 1
        · (intro W hW; clear hW; go_simp; try with_reducible rfl)
        simp only [Act.put, List.getElem_toArray, List.getElem_cons_succ, List.getElem_cons_zero, List.setIfInBounds_toArray, List.set_cons_zero, List.set_cons_succ]
        refine wpAnyH_take (i := 8) (v := ?_) rfl (by kernel_rfl) (by kernel_rfl) (by kernel_rfl) (fun _ _ _ h => h) (Or.inl ⟨by rfl, ?_⟩) (by assumption) ?_
        rotate_left 1
        · (intro W hW; clear hW; go_simp; try with_reducible rfl)
        simp only [Act.put, List.getElem_toArray, List.getElem_cons_succ, List.getElem_cons_zero, List.setIfInBounds_toArray, List.set_cons_zero, List.set_cons_succ]
        refine wpAnyH_take (i := 9) (v := ?_) rfl (by kernel_rfl) (by kernel_rfl) (by kernel_rfl) (fun _ _ _ h => h) (Or.inl ⟨by rfl, ?_⟩) (by assumption) ?_
        rotate_left 1
        · (intro W hW; clear hW; go_simp; try with_reducible rfl)
        simp only [Act.put, List.getElem_toArray, List.getElem_cons_succ, List.getElem_cons_zero, List.setIfInBounds_toArray, List.set_cons_zero, List.set_cons_succ]
        refine wpAnyH_take (i := 10) (v := ?_) rfl (by kernel_rfl) (by kernel_rfl) (by kernel_rfl) (fun _ _ _ h => h) (Or.inl ⟨by rfl, ?_⟩) (by assumption) ?_
        rotate_left 1
        · (intro W hW; clear hW; go_simp; try with_reducible rfl)
        simp only [Act.put, List.getElem_toArray, List.getElem_cons_succ, List.getElem_cons_zero, List.setIfInBounds_toArray, List.set_cons_zero, List.set_cons_succ]
        refine wpAnyH_ready (rs := [12]) (by kernel_rfl) (by simp) ?_
        refine AllReadyH.cons rfl (fun K hK => ?_) AllReadyH.nil
        have x0 := Whole.cell b1 0
        have y0 := Whole.frozen b1 0
        have x1 := Whole.cell b1 1
        have y1 := Whole.frozen b1 1
        have x2 := Whole.cell b1 2
        have y2 := Whole.frozen b1 2
        go_simp
        clear x0 y0 x1 y1 x2 y2
        refine hK.out _ _ ((Since.setCell (Since.setCell (Since.setCell hc1 (p := ⟨wc0.heap.size, 0, none⟩) hgb (.int .i64 0)) (p := ⟨wc0.heap.size, 1, none⟩) hgb (.int .i64 0)) (p := ⟨wc0.heap.size, 2, none⟩) hgb (.int .i64 0))) (fun hHeld => ?_)
        clear hK K
        try simp only [Act.put, List.getElem_toArray, List.getElem_cons_succ, List.getElem_cons_zero, List.setIfInBounds_toArray, List.set_cons_zero, List.set_cons_succ]
        refine wpAnyH_take (i := 13) (v := ?_) rfl (by kernel_rfl) (by kernel_rfl) (by kernel_rfl) (fun _ _ _ h => h) (Or.inl ⟨by rfl, ?_⟩) (by assumption) ?_
        rotate_left 1
        · (intro W hW; clear hW; go_simp; try with_reducible rfl)
        simp only [Act.put, List.getElem_toArray, List.getElem_cons_succ, List.getElem_cons_zero, List.setIfInBounds_toArray, List.set_cons_zero, List.set_cons_succ]
        refine wpAnyH_take (i := 14) (v := ?_) rfl (by kernel_rfl) (by kernel_rfl) (by kernel_rfl) (fun _ _ _ h => h) (Or.inl ⟨by rfl, ?_⟩) (by assumption) ?_
        rotate_left 1
        · (intro W hW; clear hW; go_simp; try with_reducible rfl)
        simp only [Act.put, List.getElem_toArray, List.getElem_cons_succ, List.getElem_cons_zero, List.setIfInBounds_toArray, List.set_cons_zero, List.set_cons_succ]
        refine wpAnyH_done (by kernel_rfl) ?_ _
        obtain ⟨w5, hw5⟩ : ∃ w5, w5 = (World.setCell (World.setCell (World.setCell wc1 ⟨wc0.heap.size, 0, none⟩ (.int .i64 0)) ⟨wc0.heap.size, 1, none⟩ (.int .i64 0)) ⟨wc0.heap.size, 2, none⟩ (.int .i64 0)) := ⟨_, rfl⟩
        have hS5 : Since w0 w5 := Since.named (Since.setCell (Since.setCell (Since.setCell hc1 (p := ⟨wc0.heap.size, 0, none⟩) hgb (.int .i64 0)) (p := ⟨wc0.heap.size, 1, none⟩) hgb (.int .i64 0)) (p := ⟨wc0.heap.size, 2, none⟩) hgb (.int .i64 0)) hw5
        have hN5 : Whole w5 (wc0.heap.size) 37 #[.int .i64 0, .int .i64 0, .int .i64 0] := Whole.named (Whole.set_ (Whole.set_ (Whole.set_ b1 0 (.int .i64 0)) 1 (.int .i64 0)) 2 (.int .i64 0)) hw5
        obtain ⟨NB, hNB⟩ : ∃ NB, NB = wc0.heap.size := ⟨_, rfl⟩
        rw [← hw5, ← hNB]
        rw [← hNB] at hN5
        clear hHeld hw5 hNB
        ((have wR := Since.whole hS5 HWH3.out); (have r0 := wR.frozen 0); (have q0 := wR.cell 0); (have r1 := wR.frozen 1); (have q1 := wR.cell 1); (have r2 := wR.frozen 2); (have q2 := wR.cell 2))
        go_wp2_with fail
        have u := ((wR.set_ 0 (.int .i64 0)).set_ 1 (.int .i64 0)).set_ 2 (.int .i64 0)
        have u0 := u.cell 0
        have u1 := u.cell 1
        have u2 := u.cell 2
        exact bodyPost_ret (v := tlV none) (by simp [tlV, results, Try.results10, go_sem, u0, u1, u2]) rfl ⟨rfl, Below.setCell (Below.setCell (Below.setCell (hs0.trans hS5) (p := ⟨w.heap.size + 1 + 1 + 1, 0, none⟩) (show w.heap.size ≤ w.heap.size + 1 + 1 + 1 by omega) _) (p := ⟨w.heap.size + 1 + 1 + 1, 1, none⟩) (show w.heap.size ≤ w.heap.size + 1 + 1 + 1 by omega) _) (p := ⟨w.heap.size + 1 + 1 + 1, 2, none⟩) (show w.heap.size ≤ w.heap.size + 1 + 1 + 1 by omega) _⟩
    · go_simp
      have hgb : w0.heap.size ≤ wq.heap.size := Since.size_ hq
      refine hK.out _ _ ((Since.alloc hq _)) (fun hHeld => ?_)
      clear hK K
      try simp only [Act.put, List.getElem_toArray, List.getElem_cons_succ, List.getElem_cons_zero, List.setIfInBounds_toArray, List.set_cons_zero, List.set_cons_succ]
      refine wpAnyH_ready (rs := [4]) (by kernel_rfl) (by simp) ?_
      refine AllReadyH.cons rfl (fun K hK => ?_) AllReadyH.nil
      go_simp
      refine (HR.out (wq.alloc (.cells #[.int .i64 0, .int .i64 0, .int .i64 0] 37)) (Since.alloc hq (.cells #[.int .i64 0, .int .i64 0, .int .i64 0] 37))).mono ?_
      rintro e wc0 ⟨ra, rfl, row2, hd0⟩
      have hc0 : Since w0 wc0 := Since.trans (Since.alloc hq (.cells #[.int .i64 0, .int .i64 0, .int .i64 0] 37)) hd0
      have b0 : Whole wc0 (wq.heap.size) 37 #[.int .i64 0, .int .i64 0, .int .i64 0] := Since.whole hd0 (Whole.new wq 37 #[.int .i64 0, .int .i64 0, .int .i64 0])
      have row3 : RowE encT 3 wc0 w0.heap.size 37 ra _ := row2.mono (Since.size_ (Since.alloc hq (.cells #[.int .i64 0, .int .i64 0, .int .i64 0] 37)))
      go_wp2_with fail
      refine hK.out _ _ (hc0) (fun hHeld => ?_)
      clear hK K
      try simp only [Act.put, List.getElem_toArray, List.getElem_cons_succ, List.getElem_cons_zero, List.setIfInBounds_toArray, List.set_cons_zero, List.set_cons_succ]
      refine wpAnyH_ready (rs := [6]) (by kernel_rfl) (by simp) ?_
      refine AllReadyH.cons rfl (fun K hK => ?_) AllReadyH.nil
      go_simp
      refine (HN.out wc0 ra (RowE.since row3 (Since.refl _))).mono ?_
      rintro e wc1 ⟨rfl, hd1⟩
      have hc1 : Since w0 wc1 := Since.trans hc0 hd1
      have b1 : Whole wc1 (wq.heap.size) 37 #[.int .i64 0, .int .i64 0, .int .i64 0] := Since.whole hd1 b0
      go_wp2_with fail
      refine hK.out _ _ (hc1) (fun hHeld => ?_)
      clear hK K
      try simp only [Act.put, List.getElem_toArray, List.getElem_cons_succ, List.getElem_cons_zero, List.setIfInBounds_toArray, List.set_cons_zero, List.set_cons_succ]
      refine wpAnyH_take (i := 7) (v := ?_) rfl (by kernel_rfl) (by kernel_rfl) (by kernel_rfl) (fun _ _ _ h => h) (Or.inl ⟨by rfl, ?_⟩) (by assumption) ?_
      rotate_left 1
      · (intro W hW; clear hW; go_simp; try with_reducible rfl)
      simp only [Act.put, List.getElem_toArray, List.getElem_cons_succ, List.getElem_cons_zero, List.setIfInBounds_toArray, List.set_cons_zero, List.set_cons_succ]
      refine wpAnyH_take (i := 8) (v := ?_) rfl (by kernel_rfl) (by kernel_rfl) (by kernel_rfl) (fun _ _ _ h => h) (Or.inl ⟨by rfl, ?_⟩) (by assumption) ?_
      rotate_left 1
      · (intro W hW; clear hW; go_simp; try with_reducible rfl)
      simp only [Act.put, List.getElem_toArray, List.getElem_cons_succ, List.getElem_cons_zero, List.setIfInBounds_toArray, List.set_cons_zero, List.set_cons_succ]
      refine wpAnyH_take (i := 9) (v := ?_) rfl (by kernel_rfl) (by kernel_rfl) (by kernel_rfl) (fun _ _ _ h => h) (Or.inl ⟨by rfl, ?_⟩) (by assumption) ?_
      rotate_left 1
      · (intro W hW; clear hW; go_simp; try with_reducible rfl)
      simp only [Act.put, List.getElem_toArray, List.getElem_cons_succ, List.getElem_cons_zero, List.setIfInBounds_toArray, List.set_cons_zero, List.set_cons_succ]
      refine wpAnyH_take (i := 10) (v := ?_) rfl (by kernel_rfl) (by kernel_rfl) (by kernel_rfl) (fun _ _ _ h => h) (Or.inl ⟨by rfl, ?_⟩) (by assumption) ?_
      rotate_left 1
      · (intro W hW; clear hW; go_simp; try with_reducible rfl)
      simp only [Act.put, List.getElem_toArray, List.getElem_cons_succ, List.getElem_cons_zero, List.setIfInBounds_toArray, List.set_cons_zero, List.set_cons_succ]
      refine wpAnyH_ready (rs := [12]) (by kernel_rfl) (by simp) ?_
      refine AllReadyH.cons rfl (fun K hK => ?_) AllReadyH.nil
      have x0 := Whole.cell b1 0
      have y0 := Whole.frozen b1 0
      have x1 := Whole.cell b1 1
      have y1 := Whole.frozen b1 1
      have x2 := Whole.cell b1 2
      have y2 := Whole.frozen b1 2
      go_simp
      clear x0 y0 x1 y1 x2 y2
      refine hK.out _ _ ((Since.setCell (Since.setCell (Since.setCell hc1 (p := ⟨wq.heap.size, 0, none⟩) hgb (.int .i64 0)) (p := ⟨wq.heap.size, 1, none⟩) hgb (.int .i64 0)) (p := ⟨wq.heap.size, 2, none⟩) hgb (.int .i64 0))) (fun hHeld => ?_)
      clear hK K
      try simp only [Act.put, List.getElem_toArray, List.getElem_cons_succ, List.getElem_cons_zero, List.setIfInBounds_toArray, List.set_cons_zero, List.set_cons_succ]
      refine wpAnyH_take (i := 13) (v := ?_) rfl (by kernel_rfl) (by kernel_rfl) (by kernel_rfl) (fun _ _ _ h => h) (Or.inl ⟨by rfl, ?_⟩) (by assumption) ?_
      rotate_left 1
      · (intro W hW; clear hW; go_simp; try with_reducible rfl)
      simp only [Act.put, List.getElem_toArray, List.getElem_cons_succ, List.getElem_cons_zero, List.setIfInBounds_toArray, List.set_cons_zero, List.set_cons_succ]
      refine wpAnyH_take (i := 14) (v := ?_) rfl (by kernel_rfl) (by kernel_rfl) (by kernel_rfl) (fun _ _ _ h => h) (Or.inl ⟨by rfl, ?_⟩) (by assumption) ?_
      rotate_left 1
      · (intro W hW; clear hW; go_simp; try with_reducible rfl)
      simp only [Act.put, List.getElem_toArray, List.getElem_cons_succ, List.getElem_cons_zero, List.setIfInBounds_toArray, List.set_cons_zero, List.set_cons_succ]
      refine wpAnyH_done (by kernel_rfl) ?_ _
      obtain ⟨w5, hw5⟩ : ∃ w5, w5 = (World.setCell (World.setCell (World.setCell wc1 ⟨wq.heap.size, 0, none⟩ (.int .i64 0)) ⟨wq.heap.size, 1, none⟩ (.int .i64 0)) ⟨wq.heap.size, 2, none⟩ (.int .i64 0)) := ⟨_, rfl⟩
      have hS5 : Since w0 w5 := Since.named (Since.setCell (Since.setCell (Since.setCell hc1 (p := ⟨wq.heap.size, 0, none⟩) hgb (.int .i64 0)) (p := ⟨wq.heap.size, 1, none⟩) hgb (.int .i64 0)) (p := ⟨wq.heap.size, 2, none⟩) hgb (.int .i64 0)) hw5
      have hN5 : Whole w5 (wq.heap.size) 37 #[.int .i64 0, .int .i64 0, .int .i64 0] := Whole.named (Whole.set_ (Whole.set_ (Whole.set_ b1 0 (.int .i64 0)) 1 (.int .i64 0)) 2 (.int .i64 0)) hw5
      obtain ⟨NB, hNB⟩ : ∃ NB, NB = wq.heap.size := ⟨_, rfl⟩
      rw [← hw5, ← hNB]
      rw [← hNB] at hN5
      clear hHeld hw5 hNB
      ((have wR := Since.whole hS5 HWH3.out); (have r0 := wR.frozen 0); (have q0 := wR.cell 0); (have r1 := wR.frozen 1); (have q1 := wR.cell 1); (have r2 := wR.frozen 2); (have q2 := wR.cell 2))
      go_wp2_with fail
      have u := ((wR.set_ 0 (.int .i64 0)).set_ 1 (.int .i64 0)).set_ 2 (.int .i64 0)
      have u0 := u.cell 0
      have u1 := u.cell 1
      have u2 := u.cell 2
      exact bodyPost_ret (v := tlV none) (by simp [tlV, results, Try.results10, go_sem, u0, u1, u2]) rfl ⟨rfl, Below.setCell (Below.setCell (Below.setCell (hs0.trans hS5) (p := ⟨w.heap.size + 1 + 1 + 1, 0, none⟩) (show w.heap.size ≤ w.heap.size + 1 + 1 + 1 by omega) _) (p := ⟨w.heap.size + 1 + 1 + 1, 1, none⟩) (show w.heap.size ≤ w.heap.size + 1 + 1 + 1 by omega) _) (p := ⟨w.heap.size + 1 + 1 + 1, 2, none⟩) (show w.heap.size ≤ w.heap.size + 1 + 1 + 1 by omega) _⟩
  | some p =>
    obtain ⟨⟨pd, pb, pw⟩, pe⟩ := p
    simp only [nrV] at HN
    by_cases hle : D ≤ pe
    · have e1 : decide (D ≤ pe) = true := decide_eq_true hle
      rw [show (match (some (⟨pd, pb, pw⟩, pe) : Option (Tl × Int)) with | none => none | some p => if D ≤ p.2 then none else some p.1) = none from if_pos hle]
      clear hle
      go_enter Try.func10, Try.ntmps10
      go_wp2_with fail
      rw [← HW.out]
      obtain ⟨wq, hwq⟩ : ∃ wq, wq = w0.drew := ⟨_, rfl⟩
      refine wp_region_held_drew (S := fun W => Since w0 W) (by kernel_rfl) hsd (fun hHeld => ?_)
      rw [← hwq] at hHeld ⊢
      have hq : Since w0 wq := hHeld
      clear hwq hsd
      refine wpAnyH_take (i := 0) (v := ?_) rfl (by kernel_rfl) (by kernel_rfl) (by kernel_rfl) (fun _ _ _ h => h) (Or.inl ⟨by rfl, ?_⟩) (by assumption) ?_
      rotate_left 1
      · (intro W hW; skip; go_simp; try with_reducible rfl)
      simp only [Act.put, List.getElem_toArray, List.getElem_cons_zero, List.setIfInBounds_toArray, List.set_cons_zero, List.set_cons_succ]
      refine wpAnyH_take (i := 1) (v := ?_) rfl (by kernel_rfl) (by kernel_rfl) (by kernel_rfl) (fun _ _ _ h => h) (Or.inl ⟨by rfl, ?_⟩) (by assumption) ?_
      rotate_left 1
      · (intro W hW; skip; go_simp; try with_reducible rfl)
      simp only [Act.put, List.getElem_toArray, List.getElem_cons_succ, List.getElem_cons_zero, List.setIfInBounds_toArray, List.set_cons_zero, List.set_cons_succ]
      refine wpAnyH_take (i := 2) (v := ?_) rfl (by kernel_rfl) (by kernel_rfl) (by kernel_rfl) (fun _ _ _ h => h) (Or.inl ⟨by rfl, ?_⟩) (by assumption) ?_
      rotate_left 1
      · (intro W hW; clear hW; go_simp; try with_reducible rfl)
      simp only [Act.put, List.getElem_toArray, List.getElem_cons_succ, List.getElem_cons_zero, List.setIfInBounds_toArray, List.set_cons_zero, List.set_cons_succ]
      refine wpAnyH_take (i := 3) (v := ?_) rfl (by kernel_rfl) (by kernel_rfl) (by kernel_rfl) (fun _ _ _ h => h) (Or.inl ⟨by rfl, ?_⟩) (by assumption) ?_
      rotate_left 1
      · (intro W hW; skip; go_simp; try with_reducible rfl)
      simp only [Act.put, List.getElem_toArray, List.getElem_cons_succ, List.getElem_cons_zero, List.setIfInBounds_toArray, List.set_cons_zero, List.set_cons_succ]
      refine wpAnyH_take (i := 5) (v := ?_) rfl (by kernel_rfl) (by kernel_rfl) (by kernel_rfl) (fun _ _ _ h => h) (Or.inl ⟨by rfl, ?_⟩) (by assumption) ?_
      rotate_left 1
      · (intro W hW; skip; go_simp; try with_reducible rfl)
      simp only [Act.put, List.getElem_toArray, List.getElem_cons_succ, List.getElem_cons_zero, List.setIfInBounds_toArray, List.set_cons_zero, List.set_cons_succ]
      refine wpAnyH_ready (rs := [4, 11]) (by kernel_rfl) (by simp) ?_
      refine AllReadyH.cons rfl (fun K hK => ?_) (AllReadyH.cons rfl (fun K hK => ?_) AllReadyH.nil)
      · go_simp
        refine (HR.out wq hq).mono ?_
        rintro e wc0 ⟨ra, rfl, row2, hd0⟩
        have hc0 : Since w0 wc0 := Since.trans hq hd0
        have row3 : RowE encT 3 wc0 w0.heap.size 37 ra _ := row2.mono (Since.size_ hq)
        go_wp2_with fail
        refine hK.out _ _ (hc0) (fun hHeld => ?_)
        clear hK K
        try simp only [Act.put, List.getElem_toArray, List.getElem_cons_succ, List.getElem_cons_zero, List.setIfInBounds_toArray, List.set_cons_zero, List.set_cons_succ]
        refine wpAnyH_ready (rs := [6, 11]) (by kernel_rfl) (by simp) ?_
        refine AllReadyH.cons rfl (fun K hK => ?_) (AllReadyH.cons rfl (fun K hK => ?_) AllReadyH.nil)
        · go_simp
          refine (HN.out wc0 ra (RowE.since row3 (Since.refl _))).mono ?_
          rintro e wc1 ⟨rfl, hd1⟩
          have hc1 : Since w0 wc1 := Since.trans hc0 hd1
          go_wp2_with fail
          refine hK.out _ _ (hc1) (fun hHeld => ?_)
          clear hK K
          try simp only [Act.put, List.getElem_toArray, List.getElem_cons_succ, List.getElem_cons_zero, List.setIfInBounds_toArray, List.set_cons_zero, List.set_cons_succ]
          refine wpAnyH_take (i := 7) (v := ?_) rfl (by kernel_rfl) (by kernel_rfl) (by kernel_rfl) (fun _ _ _ h => h) (Or.inl ⟨by rfl, ?_⟩) (by assumption) ?_
          rotate_left 1
          · (intro W hW; clear hW; go_simp; try with_reducible rfl)
          simp only [Act.put, List.getElem_toArray, List.getElem_cons_succ, List.getElem_cons_zero, List.setIfInBounds_toArray, List.set_cons_zero, List.set_cons_succ]
          refine wpAnyH_take (i := 8) (v := ?_) rfl (by kernel_rfl) (by kernel_rfl) (by kernel_rfl) (fun _ _ _ h => h) (Or.inl ⟨by rfl, ?_⟩) (by assumption) ?_
          rotate_left 1
          · (intro W hW; clear hW; go_simp; try with_reducible rfl)
          simp only [Act.put, List.getElem_toArray, List.getElem_cons_succ, List.getElem_cons_zero, List.setIfInBounds_toArray, List.set_cons_zero, List.set_cons_succ]
          refine wpAnyH_take (i := 9) (v := ?_) rfl (by kernel_rfl) (by kernel_rfl) (by kernel_rfl) (fun _ _ _ h => h) (Or.inl ⟨by rfl, ?_⟩) (by assumption) ?_
          rotate_left 1
          · (intro W hW; clear hW; go_simp; try with_reducible rfl)
          simp only [Act.put, List.getElem_toArray, List.getElem_cons_succ, List.getElem_cons_zero, List.setIfInBounds_toArray, List.set_cons_zero, List.set_cons_succ]
          refine wpAnyH_take (i := 10) (v := ?_) rfl (by kernel_rfl) (by kernel_rfl) (by kernel_rfl) (fun _ _ _ h => h) (Or.inl ⟨by rfl, ?_⟩) (by assumption) ?_
          rotate_left 1
          · (intro W hW; clear hW; go_simp; try with_reducible rfl)
          simp only [Act.put, List.getElem_toArray, List.getElem_cons_succ, List.getElem_cons_zero, List.setIfInBounds_toArray, List.set_cons_zero, List.set_cons_succ]
          refine wpAnyH_ready (rs := [11]) (by kernel_rfl) (by simp) ?_
          refine AllReadyH.cons rfl (fun K hK => ?_) AllReadyH.nil
          go_simp
          have hgb : w0.heap.size ≤ wc1.heap.size := Since.size_ hc1
          refine hK.out _ _ ((Since.alloc hc1 _)) (fun hHeld => ?_)
          clear hK K
          try simp only [Act.put, List.getElem_toArray, List.getElem_cons_succ, List.getElem_cons_zero, List.setIfInBounds_toArray, List.set_cons_zero, List.set_cons_succ]
          refine wpAnyH_ready (rs := [12]) (by kernel_rfl) (by simp) ?_
          refine AllReadyH.cons rfl (fun K hK => ?_) AllReadyH.nil
          go_simp
          skip
          refine hK.out _ _ ((Since.alloc hc1 _)) (fun hHeld => ?_)
          clear hK K
          try simp only [Act.put, List.getElem_toArray, List.getElem_cons_succ, List.getElem_cons_zero, List.setIfInBounds_toArray, List.set_cons_zero, List.set_cons_succ]
          refine wpAnyH_take (i := 13) (v := ?_) rfl (by kernel_rfl) (by kernel_rfl) (by kernel_rfl) (fun _ _ _ h => h) (Or.inl ⟨by rfl, ?_⟩) (by assumption) ?_
          rotate_left 1
          · (intro W hW; clear hW; go_simp; try with_reducible rfl)
          simp only [Act.put, List.getElem_toArray, List.getElem_cons_succ, List.getElem_cons_zero, List.setIfInBounds_toArray, List.set_cons_zero, List.set_cons_succ]
          refine wpAnyH_take (i := 14) (v := ?_) rfl (by kernel_rfl) (by kernel_rfl) (by kernel_rfl) (fun _ _ _ h => h) (Or.inl ⟨by rfl, ?_⟩) (by assumption) ?_
          rotate_left 1
          · (intro W hW; clear hW; go_simp; try with_reducible rfl)
          simp only [Act.put, List.getElem_toArray, List.getElem_cons_succ, List.getElem_cons_zero, List.setIfInBounds_toArray, List.set_cons_zero, List.set_cons_succ]
          refine wpAnyH_done (by kernel_rfl) ?_ _
          obtain ⟨w5, hw5⟩ : ∃ w5, w5 = wc1.alloc (.cells #[.int .i64 pd, .int .i64 pb, .int .i64 pw] 37) := ⟨_, rfl⟩
          have hS5 : Since w0 w5 := Since.named (Since.alloc hc1 _) hw5
          have hSl : Since wc1 w5 := Since.named (Since.alloc (Since.refl _) _) hw5
          have hN5 : Whole w5 wc1.heap.size 37 #[.int .i64 pd, .int .i64 pb, .int .i64 pw] := (Whole.new wc1 _ _).named hw5
          obtain ⟨NB, hNB⟩ : ∃ NB, NB = wc1.heap.size := ⟨_, rfl⟩
          rw [← hw5, ← hNB]
          rw [← hNB] at hN5
          clear hHeld hw5 hNB
          go_wp2_with (go_at_call 9; (with_reducible refine (bApart_at HE.out _).mono ?_); rintro e w6 ⟨rfl, hb6⟩; (have hs6 := hS5.trans hb6); (have hN6 := Since.whole hb6 hN5); (have wR := Since.whole hs6 HWH3.out); (have r0 := wR.frozen 0); (have q0 := wR.cell 0); (have r1 := wR.frozen 1); (have q1 := wR.cell 1); (have r2 := wR.frozen 2); (have q2 := wR.cell 2); (have n0 := hN6.cell 0); (have n1 := hN6.cell 1); (have n2 := hN6.cell 2))
          have u := ((wR.set_ 0 (.int .i64 0)).set_ 1 (.int .i64 0)).set_ 2 (.int .i64 0)
          have u0 := u.cell 0
          have u1 := u.cell 1
          have u2 := u.cell 2
          exact bodyPost_ret (v := tlV none) (by simp [tlV, results, Try.results10, go_sem, u0, u1, u2]) rfl ⟨rfl, Below.setCell (Below.setCell (Below.setCell (hs0.trans hs6) (p := ⟨w.heap.size + 1 + 1 + 1, 0, none⟩) (show w.heap.size ≤ w.heap.size + 1 + 1 + 1 by omega) _) (p := ⟨w.heap.size + 1 + 1 + 1, 1, none⟩) (show w.heap.size ≤ w.heap.size + 1 + 1 + 1 by omega) _) (p := ⟨w.heap.size + 1 + 1 + 1, 2, none⟩) (show w.heap.size ≤ w.heap.size + 1 + 1 + 1 by omega) _⟩
        · go_simp
          have hgb : w0.heap.size ≤ wc0.heap.size := Since.size_ hc0
          refine hK.out _ _ ((Since.alloc hc0 _)) (fun hHeld => ?_)
          clear hK K
          try simp only [Act.put, List.getElem_toArray, List.getElem_cons_succ, List.getElem_cons_zero, List.setIfInBounds_toArray, List.set_cons_zero, List.set_cons_succ]
          refine wpAnyH_ready (rs := [6]) (by kernel_rfl) (by simp) ?_
          refine AllReadyH.cons rfl (fun K hK => ?_) AllReadyH.nil
          go_simp
          refine (HN.out (wc0.alloc (.cells #[.int .i64 0, .int .i64 0, .int .i64 0] 37)) ra (RowE.since row3 (Since.alloc (Since.refl _) _))).mono ?_
          rintro e wc1 ⟨rfl, hd1⟩
          have hc1 : Since w0 wc1 := Since.trans (Since.alloc hc0 (.cells #[.int .i64 0, .int .i64 0, .int .i64 0] 37)) hd1
          have b1 : Whole wc1 (wc0.heap.size) 37 #[.int .i64 0, .int .i64 0, .int .i64 0] := Since.whole hd1 (Whole.new wc0 37 #[.int .i64 0, .int .i64 0, .int .i64 0])
          go_wp2_with fail
          refine hK.out _ _ (hc1) (fun hHeld => ?_)
          clear hK K
          try simp only [Act.put, List.getElem_toArray, List.getElem_cons_succ, List.getElem_cons_zero, List.setIfInBounds_toArray, List.set_cons_zero, List.set_cons_succ]
          refine wpAnyH_take (i := 7) (v := ?_) rfl (by kernel_rfl) (by kernel_rfl) (by kernel_rfl) (fun _ _ _ h => h) (Or.inl ⟨by rfl, ?_⟩) (by assumption) ?_
          rotate_left 1
          · (intro W hW; clear hW; go_simp; try with_reducible rfl)
          simp only [Act.put, List.getElem_toArray, List.getElem_cons_succ, List.getElem_cons_zero, List.setIfInBounds_toArray, List.set_cons_zero, List.set_cons_succ]
          refine wpAnyH_take (i := 8) (v := ?_) rfl (by kernel_rfl) (by kernel_rfl) (by kernel_rfl) (fun _ _ _ h => h) (Or.inl ⟨by rfl, ?_⟩) (by assumption) ?_
          rotate_left 1
          · (intro W hW; clear hW; go_simp; try with_reducible rfl)
          simp only [Act.put, List.getElem_toArray, List.getElem_cons_succ, List.getElem_cons_zero, List.setIfInBounds_toArray, List.set_cons_zero, List.set_cons_succ]
          refine wpAnyH_take (i := 9) (v := ?_) rfl (by kernel_rfl) (by kernel_rfl) (by kernel_rfl) (fun _ _ _ h => h) (Or.inl ⟨by rfl, ?_⟩) (by assumption) ?_
          rotate_left 1
          · (intro W hW; clear hW; go_simp; try with_reducible rfl)
          simp only [Act.put, List.getElem_toArray, List.getElem_cons_succ, List.getElem_cons_zero, List.setIfInBounds_toArray, List.set_cons_zero, List.set_cons_succ]
          refine wpAnyH_take (i := 10) (v := ?_) rfl (by kernel_rfl) (by kernel_rfl) (by kernel_rfl) (fun _ _ _ h => h) (Or.inl ⟨by rfl, ?_⟩) (by assumption) ?_
          rotate_left 1
          · (intro W hW; clear hW; go_simp; try with_reducible rfl)
          simp only [Act.put, List.getElem_toArray, List.getElem_cons_succ, List.getElem_cons_zero, List.setIfInBounds_toArray, List.set_cons_zero, List.set_cons_succ]
          refine wpAnyH_ready (rs := [12]) (by kernel_rfl) (by simp) ?_
          refine AllReadyH.cons rfl (fun K hK => ?_) AllReadyH.nil
          have x0 := Whole.cell b1 0
          have y0 := Whole.frozen b1 0
          have x1 := Whole.cell b1 1
          have y1 := Whole.frozen b1 1
          have x2 := Whole.cell b1 2
          have y2 := Whole.frozen b1 2
          go_simp
          clear x0 y0 x1 y1 x2 y2
          refine hK.out _ _ ((Since.setCell (Since.setCell (Since.setCell hc1 (p := ⟨wc0.heap.size, 0, none⟩) hgb (.int .i64 pd)) (p := ⟨wc0.heap.size, 1, none⟩) hgb (.int .i64 pb)) (p := ⟨wc0.heap.size, 2, none⟩) hgb (.int .i64 pw))) (fun hHeld => ?_)
          clear hK K
          try simp only [Act.put, List.getElem_toArray, List.getElem_cons_succ, List.getElem_cons_zero, List.setIfInBounds_toArray, List.set_cons_zero, List.set_cons_succ]
          refine wpAnyH_take (i := 13) (v := ?_) rfl (by kernel_rfl) (by kernel_rfl) (by kernel_rfl) (fun _ _ _ h => h) (Or.inl ⟨by rfl, ?_⟩) (by assumption) ?_
          rotate_left 1
          · (intro W hW; clear hW; go_simp; try with_reducible rfl)
          simp only [Act.put, List.getElem_toArray, List.getElem_cons_succ, List.getElem_cons_zero, List.setIfInBounds_toArray, List.set_cons_zero, List.set_cons_succ]
          refine wpAnyH_take (i := 14) (v := ?_) rfl (by kernel_rfl) (by kernel_rfl) (by kernel_rfl) (fun _ _ _ h => h) (Or.inl ⟨by rfl, ?_⟩) (by assumption) ?_
          rotate_left 1
          · (intro W hW; clear hW; go_simp; try with_reducible rfl)
          simp only [Act.put, List.getElem_toArray, List.getElem_cons_succ, List.getElem_cons_zero, List.setIfInBounds_toArray, List.set_cons_zero, List.set_cons_succ]
          refine wpAnyH_done (by kernel_rfl) ?_ _
          obtain ⟨w5, hw5⟩ : ∃ w5, w5 = (World.setCell (World.setCell (World.setCell wc1 ⟨wc0.heap.size, 0, none⟩ (.int .i64 pd)) ⟨wc0.heap.size, 1, none⟩ (.int .i64 pb)) ⟨wc0.heap.size, 2, none⟩ (.int .i64 pw)) := ⟨_, rfl⟩
          have hS5 : Since w0 w5 := Since.named (Since.setCell (Since.setCell (Since.setCell hc1 (p := ⟨wc0.heap.size, 0, none⟩) hgb (.int .i64 pd)) (p := ⟨wc0.heap.size, 1, none⟩) hgb (.int .i64 pb)) (p := ⟨wc0.heap.size, 2, none⟩) hgb (.int .i64 pw)) hw5
          have hN5 : Whole w5 (wc0.heap.size) 37 #[.int .i64 pd, .int .i64 pb, .int .i64 pw] := Whole.named (Whole.set_ (Whole.set_ (Whole.set_ b1 0 (.int .i64 pd)) 1 (.int .i64 pb)) 2 (.int .i64 pw)) hw5
          obtain ⟨NB, hNB⟩ : ∃ NB, NB = wc0.heap.size := ⟨_, rfl⟩
          rw [← hw5, ← hNB]
          rw [← hNB] at hN5
          clear hHeld hw5 hNB
          go_wp2_with (go_at_call 9; (with_reducible refine (bApart_at HE.out _).mono ?_); rintro e w6 ⟨rfl, hb6⟩; (have hs6 := hS5.trans hb6); (have hN6 := Since.whole hb6 hN5); (have wR := Since.whole hs6 HWH3.out); (have r0 := wR.frozen 0); (have q0 := wR.cell 0); (have r1 := wR.frozen 1); (have q1 := wR.cell 1); (have r2 := wR.frozen 2); (have q2 := wR.cell 2); (have n0 := hN6.cell 0); (have n1 := hN6.cell 1); (have n2 := hN6.cell 2))
          have u := ((wR.set_ 0 (.int .i64 0)).set_ 1 (.int .i64 0)).set_ 2 (.int .i64 0)
          have u0 := u.cell 0
          have u1 := u.cell 1
          have u2 := u.cell 2
          exact bodyPost_ret (v := tlV none) (by simp [tlV, results, Try.results10, go_sem, u0, u1, u2]) rfl ⟨rfl, Below.setCell (Below.setCell (Below.setCell (hs0.trans hs6) (p := ⟨w.heap.size + 1 + 1 + 1, 0, none⟩) (show w.heap.size ≤ w.heap.size + 1 + 1 + 1 by omega) _) (p := ⟨w.heap.size + 1 + 1 + 1, 1, none⟩) (show w.heap.size ≤ w.heap.size + 1 + 1 + 1 by omega) _) (p := ⟨w.heap.size + 1 + 1 + 1, 2, none⟩) (show w.heap.size ≤ w.heap.size + 1 + 1 + 1 by omega) _⟩
      · go_simp
        have hgb : w0.heap.size ≤ wq.heap.size := Since.size_ hq
        refine hK.out _ _ ((Since.alloc hq _)) (fun hHeld => ?_)
        clear hK K
        try simp only [Act.put, List.getElem_toArray, List.getElem_cons_succ, List.getElem_cons_zero, List.setIfInBounds_toArray, List.set_cons_zero, List.set_cons_succ]
        refine wpAnyH_ready (rs := [4]) (by kernel_rfl) (by simp) ?_
        refine AllReadyH.cons rfl (fun K hK => ?_) AllReadyH.nil
        go_simp
        refine (HR.out (wq.alloc (.cells #[.int .i64 0, .int .i64 0, .int .i64 0] 37)) (Since.alloc hq (.cells #[.int .i64 0, .int .i64 0, .int .i64 0] 37))).mono ?_
        rintro e wc0 ⟨ra, rfl, row2, hd0⟩
        have hc0 : Since w0 wc0 := Since.trans (Since.alloc hq (.cells #[.int .i64 0, .int .i64 0, .int .i64 0] 37)) hd0
        have b0 : Whole wc0 (wq.heap.size) 37 #[.int .i64 0, .int .i64 0, .int .i64 0] := Since.whole hd0 (Whole.new wq 37 #[.int .i64 0, .int .i64 0, .int .i64 0])
        have row3 : RowE encT 3 wc0 w0.heap.size 37 ra _ := row2.mono (Since.size_ (Since.alloc hq (.cells #[.int .i64 0, .int .i64 0, .int .i64 0] 37)))
        go_wp2_with fail
        refine hK.out _ _ (hc0) (fun hHeld => ?_)
        clear hK K
        try simp only [Act.put, List.getElem_toArray, List.getElem_cons_succ, List.getElem_cons_zero, List.setIfInBounds_toArray, List.set_cons_zero, List.set_cons_succ]
        refine wpAnyH_ready (rs := [6]) (by kernel_rfl) (by simp) ?_
        refine AllReadyH.cons rfl (fun K hK => ?_) AllReadyH.nil
        go_simp
        refine (HN.out wc0 ra (RowE.since row3 (Since.refl _))).mono ?_
        rintro e wc1 ⟨rfl, hd1⟩
        have hc1 : Since w0 wc1 := Since.trans hc0 hd1
        have b1 : Whole wc1 (wq.heap.size) 37 #[.int .i64 0, .int .i64 0, .int .i64 0] := Since.whole hd1 b0
        go_wp2_with fail
        refine hK.out _ _ (hc1) (fun hHeld => ?_)
        clear hK K
        try simp only [Act.put, List.getElem_toArray, List.getElem_cons_succ, List.getElem_cons_zero, List.setIfInBounds_toArray, List.set_cons_zero, List.set_cons_succ]
        refine wpAnyH_take (i := 7) (v := ?_) rfl (by kernel_rfl) (by kernel_rfl) (by kernel_rfl) (fun _ _ _ h => h) (Or.inl ⟨by rfl, ?_⟩) (by assumption) ?_
        rotate_left 1
        · (intro W hW; clear hW; go_simp; try with_reducible rfl)
        simp only [Act.put, List.getElem_toArray, List.getElem_cons_succ, List.getElem_cons_zero, List.setIfInBounds_toArray, List.set_cons_zero, List.set_cons_succ]
        refine wpAnyH_take (i := 8) (v := ?_) rfl (by kernel_rfl) (by kernel_rfl) (by kernel_rfl) (fun _ _ _ h => h) (Or.inl ⟨by rfl, ?_⟩) (by assumption) ?_
        rotate_left 1
        · (intro W hW; clear hW; go_simp; try with_reducible rfl)
        simp only [Act.put, List.getElem_toArray, List.getElem_cons_succ, List.getElem_cons_zero, List.setIfInBounds_toArray, List.set_cons_zero, List.set_cons_succ]
        refine wpAnyH_take (i := 9) (v := ?_) rfl (by kernel_rfl) (by kernel_rfl) (by kernel_rfl) (fun _ _ _ h => h) (Or.inl ⟨by rfl, ?_⟩) (by assumption) ?_
        rotate_left 1
        · (intro W hW; clear hW; go_simp; try with_reducible rfl)
        simp only [Act.put, List.getElem_toArray, List.getElem_cons_succ, List.getElem_cons_zero, List.setIfInBounds_toArray, List.set_cons_zero, List.set_cons_succ]
        refine wpAnyH_take (i := 10) (v := ?_) rfl (by kernel_rfl) (by kernel_rfl) (by kernel_rfl) (fun _ _ _ h => h) (Or.inl ⟨by rfl, ?_⟩) (by assumption) ?_
        rotate_left 1
        · (intro W hW; clear hW; go_simp; try with_reducible rfl)
        simp only [Act.put, List.getElem_toArray, List.getElem_cons_succ, List.getElem_cons_zero, List.setIfInBounds_toArray, List.set_cons_zero, List.set_cons_succ]
        refine wpAnyH_ready (rs := [12]) (by kernel_rfl) (by simp) ?_
        refine AllReadyH.cons rfl (fun K hK => ?_) AllReadyH.nil
        have x0 := Whole.cell b1 0
        have y0 := Whole.frozen b1 0
        have x1 := Whole.cell b1 1
        have y1 := Whole.frozen b1 1
        have x2 := Whole.cell b1 2
        have y2 := Whole.frozen b1 2
        go_simp
        clear x0 y0 x1 y1 x2 y2
        refine hK.out _ _ ((Since.setCell (Since.setCell (Since.setCell hc1 (p := ⟨wq.heap.size, 0, none⟩) hgb (.int .i64 pd)) (p := ⟨wq.heap.size, 1, none⟩) hgb (.int .i64 pb)) (p := ⟨wq.heap.size, 2, none⟩) hgb (.int .i64 pw))) (fun hHeld => ?_)
        clear hK K
        try simp only [Act.put, List.getElem_toArray, List.getElem_cons_succ, List.getElem_cons_zero, List.setIfInBounds_toArray, List.set_cons_zero, List.set_cons_succ]
        refine wpAnyH_take (i := 13) (v := ?_) rfl (by kernel_rfl) (by kernel_rfl) (by kernel_rfl) (fun _ _ _ h => h) (Or.inl ⟨by rfl, ?_⟩) (by assumption) ?_
        rotate_left 1
        · (intro W hW; clear hW; go_simp; try with_reducible rfl)
        simp only [Act.put, List.getElem_toArray, List.getElem_cons_succ, List.getElem_cons_zero, List.setIfInBounds_toArray, List.set_cons_zero, List.set_cons_succ]
        refine wpAnyH_take (i := 14) (v := ?_) rfl (by kernel_rfl) (by kernel_rfl) (by kernel_rfl) (fun _ _ _ h => h) (Or.inl ⟨by rfl, ?_⟩) (by assumption) ?_
        rotate_left 1
        · (intro W hW; clear hW; go_simp; try with_reducible rfl)
        simp only [Act.put, List.getElem_toArray, List.getElem_cons_succ, List.getElem_cons_zero, List.setIfInBounds_toArray, List.set_cons_zero, List.set_cons_succ]
        refine wpAnyH_done (by kernel_rfl) ?_ _
        obtain ⟨w5, hw5⟩ : ∃ w5, w5 = (World.setCell (World.setCell (World.setCell wc1 ⟨wq.heap.size, 0, none⟩ (.int .i64 pd)) ⟨wq.heap.size, 1, none⟩ (.int .i64 pb)) ⟨wq.heap.size, 2, none⟩ (.int .i64 pw)) := ⟨_, rfl⟩
        have hS5 : Since w0 w5 := Since.named (Since.setCell (Since.setCell (Since.setCell hc1 (p := ⟨wq.heap.size, 0, none⟩) hgb (.int .i64 pd)) (p := ⟨wq.heap.size, 1, none⟩) hgb (.int .i64 pb)) (p := ⟨wq.heap.size, 2, none⟩) hgb (.int .i64 pw)) hw5
        have hN5 : Whole w5 (wq.heap.size) 37 #[.int .i64 pd, .int .i64 pb, .int .i64 pw] := Whole.named (Whole.set_ (Whole.set_ (Whole.set_ b1 0 (.int .i64 pd)) 1 (.int .i64 pb)) 2 (.int .i64 pw)) hw5
        obtain ⟨NB, hNB⟩ : ∃ NB, NB = wq.heap.size := ⟨_, rfl⟩
        rw [← hw5, ← hNB]
        rw [← hNB] at hN5
        clear hHeld hw5 hNB
        go_wp2_with (go_at_call 9; (with_reducible refine (bApart_at HE.out _).mono ?_); rintro e w6 ⟨rfl, hb6⟩; (have hs6 := hS5.trans hb6); (have hN6 := Since.whole hb6 hN5); (have wR := Since.whole hs6 HWH3.out); (have r0 := wR.frozen 0); (have q0 := wR.cell 0); (have r1 := wR.frozen 1); (have q1 := wR.cell 1); (have r2 := wR.frozen 2); (have q2 := wR.cell 2); (have n0 := hN6.cell 0); (have n1 := hN6.cell 1); (have n2 := hN6.cell 2))
        have u := ((wR.set_ 0 (.int .i64 0)).set_ 1 (.int .i64 0)).set_ 2 (.int .i64 0)
        have u0 := u.cell 0
        have u1 := u.cell 1
        have u2 := u.cell 2
        exact bodyPost_ret (v := tlV none) (by simp [tlV, results, Try.results10, go_sem, u0, u1, u2]) rfl ⟨rfl, Below.setCell (Below.setCell (Below.setCell (hs0.trans hs6) (p := ⟨w.heap.size + 1 + 1 + 1, 0, none⟩) (show w.heap.size ≤ w.heap.size + 1 + 1 + 1 by omega) _) (p := ⟨w.heap.size + 1 + 1 + 1, 1, none⟩) (show w.heap.size ≤ w.heap.size + 1 + 1 + 1 by omega) _) (p := ⟨w.heap.size + 1 + 1 + 1, 2, none⟩) (show w.heap.size ≤ w.heap.size + 1 + 1 + 1 by omega) _⟩
    · have e1 : decide (D ≤ pe) = false := decide_eq_false hle
      rw [show (match (some (⟨pd, pb, pw⟩, pe) : Option (Tl × Int)) with | none => none | some p => if D ≤ p.2 then none else some p.1) = some ⟨pd, pb, pw⟩ from if_neg hle]
      clear hle
      go_enter Try.func10, Try.ntmps10
      go_wp2_with fail
      rw [← HW.out]
      obtain ⟨wq, hwq⟩ : ∃ wq, wq = w0.drew := ⟨_, rfl⟩
      refine wp_region_held_drew (S := fun W => Since w0 W) (by kernel_rfl) hsd (fun hHeld => ?_)
      rw [← hwq] at hHeld ⊢
      have hq : Since w0 wq := hHeld
      clear hwq hsd
      refine wpAnyH_take (i := 0) (v := ?_) rfl (by kernel_rfl) (by kernel_rfl) (by kernel_rfl) (fun _ _ _ h => h) (Or.inl ⟨by rfl, ?_⟩) (by assumption) ?_
      rotate_left 1
      · (intro W hW; skip; go_simp; try with_reducible rfl)
      simp only [Act.put, List.getElem_toArray, List.getElem_cons_zero, List.setIfInBounds_toArray, List.set_cons_zero, List.set_cons_succ]
      refine wpAnyH_take (i := 1) (v := ?_) rfl (by kernel_rfl) (by kernel_rfl) (by kernel_rfl) (fun _ _ _ h => h) (Or.inl ⟨by rfl, ?_⟩) (by assumption) ?_
      rotate_left 1
      · (intro W hW; skip; go_simp; try with_reducible rfl)
      simp only [Act.put, List.getElem_toArray, List.getElem_cons_succ, List.getElem_cons_zero, List.setIfInBounds_toArray, List.set_cons_zero, List.set_cons_succ]
      refine wpAnyH_take (i := 2) (v := ?_) rfl (by kernel_rfl) (by kernel_rfl) (by kernel_rfl) (fun _ _ _ h => h) (Or.inl ⟨by rfl, ?_⟩) (by assumption) ?_
      rotate_left 1
      · (intro W hW; clear hW; go_simp; try with_reducible rfl)
      simp only [Act.put, List.getElem_toArray, List.getElem_cons_succ, List.getElem_cons_zero, List.setIfInBounds_toArray, List.set_cons_zero, List.set_cons_succ]
      refine wpAnyH_take (i := 3) (v := ?_) rfl (by kernel_rfl) (by kernel_rfl) (by kernel_rfl) (fun _ _ _ h => h) (Or.inl ⟨by rfl, ?_⟩) (by assumption) ?_
      rotate_left 1
      · (intro W hW; skip; go_simp; try with_reducible rfl)
      simp only [Act.put, List.getElem_toArray, List.getElem_cons_succ, List.getElem_cons_zero, List.setIfInBounds_toArray, List.set_cons_zero, List.set_cons_succ]
      refine wpAnyH_take (i := 5) (v := ?_) rfl (by kernel_rfl) (by kernel_rfl) (by kernel_rfl) (fun _ _ _ h => h) (Or.inl ⟨by rfl, ?_⟩) (by assumption) ?_
      rotate_left 1
      · (intro W hW; skip; go_simp; try with_reducible rfl)
      simp only [Act.put, List.getElem_toArray, List.getElem_cons_succ, List.getElem_cons_zero, List.setIfInBounds_toArray, List.set_cons_zero, List.set_cons_succ]
      refine wpAnyH_ready (rs := [4, 11]) (by kernel_rfl) (by simp) ?_
      refine AllReadyH.cons rfl (fun K hK => ?_) (AllReadyH.cons rfl (fun K hK => ?_) AllReadyH.nil)
      · go_simp
        refine (HR.out wq hq).mono ?_
        rintro e wc0 ⟨ra, rfl, row2, hd0⟩
        have hc0 : Since w0 wc0 := Since.trans hq hd0
        have row3 : RowE encT 3 wc0 w0.heap.size 37 ra _ := row2.mono (Since.size_ hq)
        go_wp2_with fail
        refine hK.out _ _ (hc0) (fun hHeld => ?_)
        clear hK K
        try simp only [Act.put, List.getElem_toArray, List.getElem_cons_succ, List.getElem_cons_zero, List.setIfInBounds_toArray, List.set_cons_zero, List.set_cons_succ]
        refine wpAnyH_ready (rs := [6, 11]) (by kernel_rfl) (by simp) ?_
        refine AllReadyH.cons rfl (fun K hK => ?_) (AllReadyH.cons rfl (fun K hK => ?_) AllReadyH.nil)
        · go_simp
          refine (HN.out wc0 ra (RowE.since row3 (Since.refl _))).mono ?_
          rintro e wc1 ⟨rfl, hd1⟩
          have hc1 : Since w0 wc1 := Since.trans hc0 hd1
          go_wp2_with fail
          refine hK.out _ _ (hc1) (fun hHeld => ?_)
          clear hK K
          try simp only [Act.put, List.getElem_toArray, List.getElem_cons_succ, List.getElem_cons_zero, List.setIfInBounds_toArray, List.set_cons_zero, List.set_cons_succ]
          refine wpAnyH_take (i := 7) (v := ?_) rfl (by kernel_rfl) (by kernel_rfl) (by kernel_rfl) (fun _ _ _ h => h) (Or.inl ⟨by rfl, ?_⟩) (by assumption) ?_
          rotate_left 1
          · (intro W hW; clear hW; go_simp; try with_reducible rfl)
          simp only [Act.put, List.getElem_toArray, List.getElem_cons_succ, List.getElem_cons_zero, List.setIfInBounds_toArray, List.set_cons_zero, List.set_cons_succ]
          refine wpAnyH_take (i := 8) (v := ?_) rfl (by kernel_rfl) (by kernel_rfl) (by kernel_rfl) (fun _ _ _ h => h) (Or.inl ⟨by rfl, ?_⟩) (by assumption) ?_
          rotate_left 1
          · (intro W hW; clear hW; go_simp; try with_reducible rfl)
          simp only [Act.put, List.getElem_toArray, List.getElem_cons_succ, List.getElem_cons_zero, List.setIfInBounds_toArray, List.set_cons_zero, List.set_cons_succ]
          refine wpAnyH_take (i := 9) (v := ?_) rfl (by kernel_rfl) (by kernel_rfl) (by kernel_rfl) (fun _ _ _ h => h) (Or.inl ⟨by rfl, ?_⟩) (by assumption) ?_
          rotate_left 1
          · (intro W hW; clear hW; go_simp; try with_reducible rfl)
          simp only [Act.put, List.getElem_toArray, List.getElem_cons_succ, List.getElem_cons_zero, List.setIfInBounds_toArray, List.set_cons_zero, List.set_cons_succ]
          refine wpAnyH_take (i := 10) (v := ?_) rfl (by kernel_rfl) (by kernel_rfl) (by kernel_rfl) (fun _ _ _ h => h) (Or.inl ⟨by rfl, ?_⟩) (by assumption) ?_
          rotate_left 1
          · (intro W hW; clear hW; go_simp; try with_reducible rfl)
          simp only [Act.put, List.getElem_toArray, List.getElem_cons_succ, List.getElem_cons_zero, List.setIfInBounds_toArray, List.set_cons_zero, List.set_cons_succ]
          refine wpAnyH_ready (rs := [11]) (by kernel_rfl) (by simp) ?_
          refine AllReadyH.cons rfl (fun K hK => ?_) AllReadyH.nil
          go_simp
          have hgb : w0.heap.size ≤ wc1.heap.size := Since.size_ hc1
          refine hK.out _ _ ((Since.alloc hc1 _)) (fun hHeld => ?_)
          clear hK K
          try simp only [Act.put, List.getElem_toArray, List.getElem_cons_succ, List.getElem_cons_zero, List.setIfInBounds_toArray, List.set_cons_zero, List.set_cons_succ]
          refine wpAnyH_ready (rs := [12]) (by kernel_rfl) (by simp) ?_
          refine AllReadyH.cons rfl (fun K hK => ?_) AllReadyH.nil
          go_simp
          skip
          refine hK.out _ _ ((Since.alloc hc1 _)) (fun hHeld => ?_)
          clear hK K
          try simp only [Act.put, List.getElem_toArray, List.getElem_cons_succ, List.getElem_cons_zero, List.setIfInBounds_toArray, List.set_cons_zero, List.set_cons_succ]
          refine wpAnyH_take (i := 13) (v := ?_) rfl (by kernel_rfl) (by kernel_rfl) (by kernel_rfl) (fun _ _ _ h => h) (Or.inl ⟨by rfl, ?_⟩) (by assumption) ?_
          rotate_left 1
          · (intro W hW; clear hW; go_simp; try with_reducible rfl)
          simp only [Act.put, List.getElem_toArray, List.getElem_cons_succ, List.getElem_cons_zero, List.setIfInBounds_toArray, List.set_cons_zero, List.set_cons_succ]
          refine wpAnyH_take (i := 14) (v := ?_) rfl (by kernel_rfl) (by kernel_rfl) (by kernel_rfl) (fun _ _ _ h => h) (Or.inl ⟨by rfl, ?_⟩) (by assumption) ?_
          rotate_left 1
          · (intro W hW; clear hW; go_simp; try with_reducible rfl)
          simp only [Act.put, List.getElem_toArray, List.getElem_cons_succ, List.getElem_cons_zero, List.setIfInBounds_toArray, List.set_cons_zero, List.set_cons_succ]
          refine wpAnyH_done (by kernel_rfl) ?_ _
          obtain ⟨w5, hw5⟩ : ∃ w5, w5 = wc1.alloc (.cells #[.int .i64 pd, .int .i64 pb, .int .i64 pw] 37) := ⟨_, rfl⟩
          have hS5 : Since w0 w5 := Since.named (Since.alloc hc1 _) hw5
          have hSl : Since wc1 w5 := Since.named (Since.alloc (Since.refl _) _) hw5
          have hN5 : Whole w5 wc1.heap.size 37 #[.int .i64 pd, .int .i64 pb, .int .i64 pw] := (Whole.new wc1 _ _).named hw5
          obtain ⟨NB, hNB⟩ : ∃ NB, NB = wc1.heap.size := ⟨_, rfl⟩
          rw [← hw5, ← hNB]
          rw [← hNB] at hN5
          clear hHeld hw5 hNB
          go_wp2_with (go_at_call 9; (with_reducible refine (bApart_at HE.out _).mono ?_); rintro e w6 ⟨rfl, hb6⟩; (have hs6 := hS5.trans hb6); (have hN6 := Since.whole hb6 hN5); (have wR := Since.whole hs6 HWH3.out); (have r0 := wR.frozen 0); (have q0 := wR.cell 0); (have r1 := wR.frozen 1); (have q1 := wR.cell 1); (have r2 := wR.frozen 2); (have q2 := wR.cell 2); (have n0 := hN6.cell 0); (have n1 := hN6.cell 1); (have n2 := hN6.cell 2))
          have u := ((wR.set_ 0 (.int .i64 pd)).set_ 1 (.int .i64 pb)).set_ 2 (.int .i64 pw)
          have u0 := u.cell 0
          have u1 := u.cell 1
          have u2 := u.cell 2
          exact bodyPost_ret (v := tlV (some ⟨pd, pb, pw⟩)) (by simp [tlV, results, Try.results10, go_sem, u0, u1, u2]) rfl ⟨rfl, Below.setCell (Below.setCell (Below.setCell (hs0.trans hs6) (p := ⟨w.heap.size + 1 + 1 + 1, 0, none⟩) (show w.heap.size ≤ w.heap.size + 1 + 1 + 1 by omega) _) (p := ⟨w.heap.size + 1 + 1 + 1, 1, none⟩) (show w.heap.size ≤ w.heap.size + 1 + 1 + 1 by omega) _) (p := ⟨w.heap.size + 1 + 1 + 1, 2, none⟩) (show w.heap.size ≤ w.heap.size + 1 + 1 + 1 by omega) _⟩
        · go_simp
          have hgb : w0.heap.size ≤ wc0.heap.size := Since.size_ hc0
          refine hK.out _ _ ((Since.alloc hc0 _)) (fun hHeld => ?_)
          clear hK K
          try simp only [Act.put, List.getElem_toArray, List.getElem_cons_succ, List.getElem_cons_zero, List.setIfInBounds_toArray, List.set_cons_zero, List.set_cons_succ]
          refine wpAnyH_ready (rs := [6]) (by kernel_rfl) (by simp) ?_
          refine AllReadyH.cons rfl (fun K hK => ?_) AllReadyH.nil
          go_simp
          refine (HN.out (wc0.alloc (.cells #[.int .i64 0, .int .i64 0, .int .i64 0] 37)) ra (RowE.since row3 (Since.alloc (Since.refl _) _))).mono ?_
          rintro e wc1 ⟨rfl, hd1⟩
          have hc1 : Since w0 wc1 := Since.trans (Since.alloc hc0 (.cells #[.int .i64 0, .int .i64 0, .int .i64 0] 37)) hd1
          have b1 : Whole wc1 (wc0.heap.size) 37 #[.int .i64 0, .int .i64 0, .int .i64 0] := Since.whole hd1 (Whole.new wc0 37 #[.int .i64 0, .int .i64 0, .int .i64 0])
          go_wp2_with fail
          refine hK.out _ _ (hc1) (fun hHeld => ?_)
          clear hK K
          try simp only [Act.put, List.getElem_toArray, List.getElem_cons_succ, List.getElem_cons_zero, List.setIfInBounds_toArray, List.set_cons_zero, List.set_cons_succ]
          refine wpAnyH_take (i := 7) (v := ?_) rfl (by kernel_rfl) (by kernel_rfl) (by kernel_rfl) (fun _ _ _ h => h) (Or.inl ⟨by rfl, ?_⟩) (by assumption) ?_
          rotate_left 1
          · (intro W hW; clear hW; go_simp; try with_reducible rfl)
          simp only [Act.put, List.getElem_toArray, List.getElem_cons_succ, List.getElem_cons_zero, List.setIfInBounds_toArray, List.set_cons_zero, List.set_cons_succ]
          refine wpAnyH_take (i := 8) (v := ?_) rfl (by kernel_rfl) (by kernel_rfl) (by kernel_rfl) (fun _ _ _ h => h) (Or.inl ⟨by rfl, ?_⟩) (by assumption) ?_
          rotate_left 1
          · (intro W hW; clear hW; go_simp; try with_reducible rfl)
          simp only [Act.put, List.getElem_toArray, List.getElem_cons_succ, List.getElem_cons_zero, List.setIfInBounds_toArray, List.set_cons_zero, List.set_cons_succ]
          refine wpAnyH_take (i := 9) (v := ?_) rfl (by kernel_rfl) (by kernel_rfl) (by kernel_rfl) (fun _ _ _ h => h) (Or.inl ⟨by rfl, ?_⟩) (by assumption) ?_
          rotate_left 1
          · (intro W hW; clear hW; go_simp; try with_reducible rfl)
          simp only [Act.put, List.getElem_toArray, List.getElem_cons_succ, List.getElem_cons_zero, List.setIfInBounds_toArray, List.set_cons_zero, List.set_cons_succ]
          refine wpAnyH_take (i := 10) (v := ?_) rfl (by kernel_rfl) (by kernel_rfl) (by kernel_rfl) (fun _ _ _ h => h) (Or.inl ⟨by rfl, ?_⟩) (by assumption) ?_
          rotate_left 1
          · (intro W hW; clear hW; go_simp; try with_reducible rfl)
          simp only [Act.put, List.getElem_toArray, List.getElem_cons_succ, List.getElem_cons_zero, List.setIfInBounds_toArray, List.set_cons_zero, List.set_cons_succ]
          refine wpAnyH_ready (rs := [12]) (by kernel_rfl) (by simp) ?_
          refine AllReadyH.cons rfl (fun K hK => ?_) AllReadyH.nil
          have x0 := Whole.cell b1 0
          have y0 := Whole.frozen b1 0
          have x1 := Whole.cell b1 1
          have y1 := Whole.frozen b1 1
          have x2 := Whole.cell b1 2
          have y2 := Whole.frozen b1 2
          go_simp
          clear x0 y0 x1 y1 x2 y2
          refine hK.out _ _ ((Since.setCell (Since.setCell (Since.setCell hc1 (p := ⟨wc0.heap.size, 0, none⟩) hgb (.int .i64 pd)) (p := ⟨wc0.heap.size, 1, none⟩) hgb (.int .i64 pb)) (p := ⟨wc0.heap.size, 2, none⟩) hgb (.int .i64 pw))) (fun hHeld => ?_)
          clear hK K
          try simp only [Act.put, List.getElem_toArray, List.getElem_cons_succ, List.getElem_cons_zero, List.setIfInBounds_toArray, List.set_cons_zero, List.set_cons_succ]
          refine wpAnyH_take (i := 13) (v := ?_) rfl (by kernel_rfl) (by kernel_rfl) (by kernel_rfl) (fun _ _ _ h => h) (Or.inl ⟨by rfl, ?_⟩) (by assumption) ?_
          rotate_left 1
          · (intro W hW; clear hW; go_simp; try with_reducible rfl)
          simp only [Act.put, List.getElem_toArray, List.getElem_cons_succ, List.getElem_cons_zero, List.setIfInBounds_toArray, List.set_cons_zero, List.set_cons_succ]
          refine wpAnyH_take (i := 14) (v := ?_) rfl (by kernel_rfl) (by kernel_rfl) (by kernel_rfl) (fun _ _ _ h => h) (Or.inl ⟨by rfl, ?_⟩) (by assumption) ?_
          rotate_left 1
          · (intro W hW; clear hW; go_simp; try with_reducible rfl)
          simp only [Act.put, List.getElem_toArray, List.getElem_cons_succ, List.getElem_cons_zero, List.setIfInBounds_toArray, List.set_cons_zero, List.set_cons_succ]
          refine wpAnyH_done (by kernel_rfl) ?_ _
          obtain ⟨w5, hw5⟩ : ∃ w5, w5 = (World.setCell (World.setCell (World.setCell wc1 ⟨wc0.heap.size, 0, none⟩ (.int .i64 pd)) ⟨wc0.heap.size, 1, none⟩ (.int .i64 pb)) ⟨wc0.heap.size, 2, none⟩ (.int .i64 pw)) := ⟨_, rfl⟩
          have hS5 : Since w0 w5 := Since.named (Since.setCell (Since.setCell (Since.setCell hc1 (p := ⟨wc0.heap.size, 0, none⟩) hgb (.int .i64 pd)) (p := ⟨wc0.heap.size, 1, none⟩) hgb (.int .i64 pb)) (p := ⟨wc0.heap.size, 2, none⟩) hgb (.int .i64 pw)) hw5
          have hN5 : Whole w5 (wc0.heap.size) 37 #[.int .i64 pd, .int .i64 pb, .int .i64 pw] := Whole.named (Whole.set_ (Whole.set_ (Whole.set_ b1 0 (.int .i64 pd)) 1 (.int .i64 pb)) 2 (.int .i64 pw)) hw5
          obtain ⟨NB, hNB⟩ : ∃ NB, NB = wc0.heap.size := ⟨_, rfl⟩
          rw [← hw5, ← hNB]
          rw [← hNB] at hN5
          clear hHeld hw5 hNB
          go_wp2_with (go_at_call 9; (with_reducible refine (bApart_at HE.out _).mono ?_); rintro e w6 ⟨rfl, hb6⟩; (have hs6 := hS5.trans hb6); (have hN6 := Since.whole hb6 hN5); (have wR := Since.whole hs6 HWH3.out); (have r0 := wR.frozen 0); (have q0 := wR.cell 0); (have r1 := wR.frozen 1); (have q1 := wR.cell 1); (have r2 := wR.frozen 2); (have q2 := wR.cell 2); (have n0 := hN6.cell 0); (have n1 := hN6.cell 1); (have n2 := hN6.cell 2))
          have u := ((wR.set_ 0 (.int .i64 pd)).set_ 1 (.int .i64 pb)).set_ 2 (.int .i64 pw)
          have u0 := u.cell 0
          have u1 := u.cell 1
          have u2 := u.cell 2
          exact bodyPost_ret (v := tlV (some ⟨pd, pb, pw⟩)) (by simp [tlV, results, Try.results10, go_sem, u0, u1, u2]) rfl ⟨rfl, Below.setCell (Below.setCell (Below.setCell (hs0.trans hs6) (p := ⟨w.heap.size + 1 + 1 + 1, 0, none⟩) (show w.heap.size ≤ w.heap.size + 1 + 1 + 1 by omega) _) (p := ⟨w.heap.size + 1 + 1 + 1, 1, none⟩) (show w.heap.size ≤ w.heap.size + 1 + 1 + 1 by omega) _) (p := ⟨w.heap.size + 1 + 1 + 1, 2, none⟩) (show w.heap.size ≤ w.heap.size + 1 + 1 + 1 by omega) _⟩
      · go_simp
        have hgb : w0.heap.size ≤ wq.heap.size := Since.size_ hq
        refine hK.out _ _ ((Since.alloc hq _)) (fun hHeld => ?_)
        clear hK K
        try simp only [Act.put, List.getElem_toArray, List.getElem_cons_succ, List.getElem_cons_zero, List.setIfInBounds_toArray, List.set_cons_zero, List.set_cons_succ]
        refine wpAnyH_ready (rs := [4]) (by kernel_rfl) (by simp) ?_
        refine AllReadyH.cons rfl (fun K hK => ?_) AllReadyH.nil
        go_simp
        refine (HR.out (wq.alloc (.cells #[.int .i64 0, .int .i64 0, .int .i64 0] 37)) (Since.alloc hq (.cells #[.int .i64 0, .int .i64 0, .int .i64 0] 37))).mono ?_
        rintro e wc0 ⟨ra, rfl, row2, hd0⟩
        have hc0 : Since w0 wc0 := Since.trans (Since.alloc hq (.cells #[.int .i64 0, .int .i64 0, .int .i64 0] 37)) hd0
        have b0 : Whole wc0 (wq.heap.size) 37 #[.int .i64 0, .int .i64 0, .int .i64 0] := Since.whole hd0 (Whole.new wq 37 #[.int .i64 0, .int .i64 0, .int .i64 0])
        have row3 : RowE encT 3 wc0 w0.heap.size 37 ra _ := row2.mono (Since.size_ (Since.alloc hq (.cells #[.int .i64 0, .int .i64 0, .int .i64 0] 37)))
        go_wp2_with fail
        refine hK.out _ _ (hc0) (fun hHeld => ?_)
        clear hK K
        try simp only [Act.put, List.getElem_toArray, List.getElem_cons_succ, List.getElem_cons_zero, List.setIfInBounds_toArray, List.set_cons_zero, List.set_cons_succ]
        refine wpAnyH_ready (rs := [6]) (by kernel_rfl) (by simp) ?_
        refine AllReadyH.cons rfl (fun K hK => ?_) AllReadyH.nil
        go_simp
        refine (HN.out wc0 ra (RowE.since row3 (Since.refl _))).mono ?_
        rintro e wc1 ⟨rfl, hd1⟩
        have hc1 : Since w0 wc1 := Since.trans hc0 hd1
        have b1 : Whole wc1 (wq.heap.size) 37 #[.int .i64 0, .int .i64 0, .int .i64 0] := Since.whole hd1 b0
        go_wp2_with fail
        refine hK.out _ _ (hc1) (fun hHeld => ?_)
        clear hK K
        try simp only [Act.put, List.getElem_toArray, List.getElem_cons_succ, List.getElem_cons_zero, List.setIfInBounds_toArray, List.set_cons_zero, List.set_cons_succ]
        refine wpAnyH_take (i := 7) (v := ?_) rfl (by kernel_rfl) (by kernel_rfl) (by kernel_rfl) (fun _ _ _ h => h) (Or.inl ⟨by rfl, ?_⟩) (by assumption) ?_
        rotate_left 1
        · (intro W hW; clear hW; go_simp; try with_reducible rfl)
        simp only [Act.put, List.getElem_toArray, List.getElem_cons_succ, List.getElem_cons_zero, List.setIfInBounds_toArray, List.set_cons_zero, List.set_cons_succ]
        refine wpAnyH_take (i := 8) (v := ?_) rfl (by kernel_rfl) (by kernel_rfl) (by kernel_rfl) (fun _ _ _ h => h) (Or.inl ⟨by rfl, ?_⟩) (by assumption) ?_
        rotate_left 1
        · (intro W hW; clear hW; go_simp; try with_reducible rfl)
        simp only [Act.put, List.getElem_toArray, List.getElem_cons_succ, List.getElem_cons_zero, List.setIfInBounds_toArray, List.set_cons_zero, List.set_cons_succ]
        refine wpAnyH_take (i := 9) (v := ?_) rfl (by kernel_rfl) (by kernel_rfl) (by kernel_rfl) (fun _ _ _ h => h) (Or.inl ⟨by rfl, ?_⟩) (by assumption) ?_
        rotate_left 1
        · (intro W hW; clear hW; go_simp; try with_reducible rfl)
        simp only [Act.put, List.getElem_toArray, List.getElem_cons_succ, List.getElem_cons_zero, List.setIfInBounds_toArray, List.set_cons_zero, List.set_cons_succ]
        refine wpAnyH_take (i := 10) (v := ?_) rfl (by kernel_rfl) (by kernel_rfl) (by kernel_rfl) (fun _ _ _ h => h) (Or.inl ⟨by rfl, ?_⟩) (by assumption) ?_
        rotate_left 1
        · (intro W hW; clear hW; go_simp; try with_reducible rfl)
        simp only [Act.put, List.getElem_toArray, List.getElem_cons_succ, List.getElem_cons_zero, List.setIfInBounds_toArray, List.set_cons_zero, List.set_cons_succ]
        refine wpAnyH_ready (rs := [12]) (by kernel_rfl) (by simp) ?_
        refine AllReadyH.cons rfl (fun K hK => ?_) AllReadyH.nil
        have x0 := Whole.cell b1 0
        have y0 := Whole.frozen b1 0
        have x1 := Whole.cell b1 1
        have y1 := Whole.frozen b1 1
        have x2 := Whole.cell b1 2
        have y2 := Whole.frozen b1 2
        go_simp
        clear x0 y0 x1 y1 x2 y2
        refine hK.out _ _ ((Since.setCell (Since.setCell (Since.setCell hc1 (p := ⟨wq.heap.size, 0, none⟩) hgb (.int .i64 pd)) (p := ⟨wq.heap.size, 1, none⟩) hgb (.int .i64 pb)) (p := ⟨wq.heap.size, 2, none⟩) hgb (.int .i64 pw))) (fun hHeld => ?_)
        clear hK K
        try simp only [Act.put, List.getElem_toArray, List.getElem_cons_succ, List.getElem_cons_zero, List.setIfInBounds_toArray, List.set_cons_zero, List.set_cons_succ]
        refine wpAnyH_take (i := 13) (v := ?_) rfl (by kernel_rfl) (by kernel_rfl) (by kernel_rfl) (fun _ _ _ h => h) (Or.inl ⟨by rfl, ?_⟩) (by assumption) ?_
        rotate_left 1
        · (intro W hW; clear hW; go_simp; try with_reducible rfl)
        simp only [Act.put, List.getElem_toArray, List.getElem_cons_succ, List.getElem_cons_zero, List.setIfInBounds_toArray, List.set_cons_zero, List.set_cons_succ]
        refine wpAnyH_take (i := 14) (v := ?_) rfl (by kernel_rfl) (by kernel_rfl) (by kernel_rfl) (fun _ _ _ h => h) (Or.inl ⟨by rfl, ?_⟩) (by assumption) ?_
        rotate_left 1
        · (intro W hW; clear hW; go_simp; try with_reducible rfl)
        simp only [Act.put, List.getElem_toArray, List.getElem_cons_succ, List.getElem_cons_zero, List.setIfInBounds_toArray, List.set_cons_zero, List.set_cons_succ]
        refine wpAnyH_done (by kernel_rfl) ?_ _
        obtain ⟨w5, hw5⟩ : ∃ w5, w5 = (World.setCell (World.setCell (World.setCell wc1 ⟨wq.heap.size, 0, none⟩ (.int .i64 pd)) ⟨wq.heap.size, 1, none⟩ (.int .i64 pb)) ⟨wq.heap.size, 2, none⟩ (.int .i64 pw)) := ⟨_, rfl⟩
        have hS5 : Since w0 w5 := Since.named (Since.setCell (Since.setCell (Since.setCell hc1 (p := ⟨wq.heap.size, 0, none⟩) hgb (.int .i64 pd)) (p := ⟨wq.heap.size, 1, none⟩) hgb (.int .i64 pb)) (p := ⟨wq.heap.size, 2, none⟩) hgb (.int .i64 pw)) hw5
        have hN5 : Whole w5 (wq.heap.size) 37 #[.int .i64 pd, .int .i64 pb, .int .i64 pw] := Whole.named (Whole.set_ (Whole.set_ (Whole.set_ b1 0 (.int .i64 pd)) 1 (.int .i64 pb)) 2 (.int .i64 pw)) hw5
        obtain ⟨NB, hNB⟩ : ∃ NB, NB = wq.heap.size := ⟨_, rfl⟩
        rw [← hw5, ← hNB]
        rw [← hNB] at hN5
        clear hHeld hw5 hNB
        go_wp2_with (go_at_call 9; (with_reducible refine (bApart_at HE.out _).mono ?_); rintro e w6 ⟨rfl, hb6⟩; (have hs6 := hS5.trans hb6); (have hN6 := Since.whole hb6 hN5); (have wR := Since.whole hs6 HWH3.out); (have r0 := wR.frozen 0); (have q0 := wR.cell 0); (have r1 := wR.frozen 1); (have q1 := wR.cell 1); (have r2 := wR.frozen 2); (have q2 := wR.cell 2); (have n0 := hN6.cell 0); (have n1 := hN6.cell 1); (have n2 := hN6.cell 2))
        have u := ((wR.set_ 0 (.int .i64 pd)).set_ 1 (.int .i64 pb)).set_ 2 (.int .i64 pw)
        have u0 := u.cell 0
        have u1 := u.cell 1
        have u2 := u.cell 2
        exact bodyPost_ret (v := tlV (some ⟨pd, pb, pw⟩)) (by simp [tlV, results, Try.results10, go_sem, u0, u1, u2]) rfl ⟨rfl, Below.setCell (Below.setCell (Below.setCell (hs0.trans hs6) (p := ⟨w.heap.size + 1 + 1 + 1, 0, none⟩) (show w.heap.size ≤ w.heap.size + 1 + 1 + 1 by omega) _) (p := ⟨w.heap.size + 1 + 1 + 1, 1, none⟩) (show w.heap.size ≤ w.heap.size + 1 + 1 + 1 by omega) _) (p := ⟨w.heap.size + 1 + 1 + 1, 2, none⟩) (show w.heap.size ≤ w.heap.size + 1 + 1 + 1 by omega) _⟩
end Go.Proofs.Ytbbnojfecmocgaa
