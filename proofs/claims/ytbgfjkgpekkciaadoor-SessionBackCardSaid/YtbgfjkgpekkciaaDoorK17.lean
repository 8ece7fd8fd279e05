/- point.TakeRec, TakeOp, TakeAns. -/
import Derived.Test.YtbgfjkgpekkciaaDoorK16
namespace Go.Proofs.YtbgfjkgpekkciaaDoor
open Go.RowKit
set_option linter.unusedVariables false
set_option maxRecDepth 100000 in
set_option maxHeartbeats 1600000 in
theorem takeAns_any {w : World} {base g : Nat} {s t : RSt} (h : RdS w base g s) {rer : Int} {rfd : Bool} {rval : ByteArray} {rver : Int} (hr : readAns s = ((rer, rfd, rval, rver), t)) :
    Calls Tryd.prog 49 #[.pointer (some ⟨g, 0, none⟩)] w (RPs base g t (.agg #[.int .i64 rer, .bool rfd, .string rval, .int .i64 rver]) w) := by
  have hg := h.lt
  unfold readAns at hr
  obtain ⟨⟨er, s0⟩, e0⟩ : ∃ r, numS s = r := ⟨_, rfl⟩
  obtain ⟨⟨fv, s1⟩, e1⟩ : ∃ r, numS s0 = r := ⟨_, rfl⟩
  have hv0 : 0 ≤ fv := by have := numS_pos s0; rw [e1] at this; exact this
  obtain ⟨fd, hfd⟩ : ∃ b, (fv == 1) = b := ⟨_, rfl⟩
  obtain ⟨⟨val, s3⟩, e3⟩ : ∃ r, txS s1 = r := ⟨_, rfl⟩
  obtain ⟨⟨ver, s4⟩, e4⟩ : ∃ r, numS s3 = r := ⟨_, rfl⟩
  simp only [e0, e1, hfd, e3, e4] at hr
  obtain ⟨b1, hb1'⟩ : ∃ b, decide (fv ≤ 1) = b := ⟨_, rfl⟩
  obtain ⟨ok, hok⟩ : ∃ b, ansB er fd val ver = b := ⟨_, rfl⟩
  rw [hb1', hok] at hr
  injection hr with hr1 hr2
  rw [hr2] at hr1
  have HT := Lib.hid hr2
  have HR := Lib.hid hr1
  have E0 := Lib.hid e0
  have E1 := Lib.hid e1
  have E3 := Lib.hid e3
  have E4 := Lib.hid e4
  clear hr1 hr2 e0 e1 e3 e4
  have RX : Hid (∀ W, Calls Tryd.prog 29 #[.agg #[.int .i64 er, .bool fd, .string val, .int .i64 ver]] W fun e w' => e = .returned (.bool ok) ∧ Below W.heap.size W w') := by
    unfold Hid
    intro W
    rw [← hok]
    exact rightAns_any er fd val ver W
  clear hok
  obtain ⟨fl, hfl⟩ : ∃ fl : Int, (if fd then 1 else 0) = fl := ⟨_, rfl⟩
  have hfe : (fv == fl) = b1 := by
    rw [← hb1', ← hfl, ← hfd]
    by_cases h1 : fv = 1
    · subst h1; rfl
    · have h2 : (fv == 1) = false := by simpa using h1
      rw [h2, Bool.eq_iff_iff, beq_iff_eq, decide_eq_true_iff]
      simp only [Bool.false_eq_true, if_false]
      omega
  have HFL := Lib.hid hfl
  clear hfl hb1' hv0
  obtain ⟨w1, hw1⟩ : ∃ w1, w1 = (w.alloc (.cells #[.int .i64 0, .bool false, .string ⟨#[]⟩, .int .i64 0] 35)).alloc (.cells #[.int .i64 0, .bool false, .string ⟨#[]⟩, .int .i64 0] 35) := ⟨_, rfl⟩
  have hs1 : Since w w1 := by rw [hw1]; exact ((Since.refl w).alloc _).alloc _
  have hb2 : Whole w1 w.heap.size 35 #[.int .i64 0, .bool false, .string ⟨#[]⟩, .int .i64 0] := by rw [hw1]; exact (Whole.new w _ _).alloc _
  have hb3 : Whole w1 (w.heap.size + 1) 35 #[.int .i64 0, .bool false, .string ⟨#[]⟩, .int .i64 0] := by rw [hw1]; exact (Whole.new (w.alloc _) _ _).at_ (by simp)
  have hR := h.since hs1
  have hO : Off (fun b => b = g) w w1 := hs1.off _
  have HW := Lib.hid hw1
  clear hw1 hs1 h
  go_enter Tryd.func49, Tryd.ntmps49
  go_wp2_with fail
  rw [← HW.out]
  refine (numP hR E0.out).mono ?_
  rintro y w2 ⟨rfl, hR', ho'⟩
  replace hb2 := ho'.whole hb2 (by omega)
  replace hb3 := ho'.whole hb3 (by omega)
  replace hO := hO.trans ho' (fun _ _ z => z)
  clear ho' hR
  have y0 := hb3.cell 0
  have f0 := hb3.frozen 0
  go_wp2_with fail
  obtain ⟨w3, hv⟩ : ∃ wx, wx = (w2.setCell ⟨w.heap.size + 1, 0, none⟩ (.int .i64 er)) := ⟨_, rfl⟩
  rw [← hv]
  have hR : RdS w3 base g s0 := by rw [hv]; exact (hR'.set_ ⟨w.heap.size + 1, 0, none⟩ (show g < w.heap.size + 1 by omega) _)
  replace hO : Off (fun b => b = g) w w3 := by rw [hv]; exact (Off.setCell hO (p := ⟨w.heap.size + 1, 0, none⟩) (.inl (Nat.le_add_right _ 1)) _)
  replace hb2 : Whole w3 w.heap.size 35 #[.int .i64 0, .bool false, .string ⟨#[]⟩, .int .i64 0] := by rw [hv]; exact (Whole.far hb2 (p := ⟨w.heap.size + 1, 0, none⟩) (show w.heap.size ≠ w.heap.size + 1 by omega) _)
  replace hb3 : Whole w3 (w.heap.size + 1) 35 #[.int .i64 er, .bool false, .string ⟨#[]⟩, .int .i64 0] := by rw [hv]; exact (Whole.set_ hb3 0 _)
  clear hv hR' y0 f0
  refine (numP hR E1.out).mono ?_
  rintro y w4 ⟨rfl, hR', ho'⟩
  replace hb2 := ho'.whole hb2 (by omega)
  replace hb3 := ho'.whole hb3 (by omega)
  replace hO := hO.trans ho' (fun _ _ z => z)
  clear ho' hR
  go_wp2_with fail
  have hR := hR'
  clear hR'
  refine (flag_at (b := true) (v := 1) rfl _).mono ?_
  rintro e w9 ⟨rfl, rfl⟩
  have y1 := hb3.cell 1
  have f1 := hb3.frozen 1
  go_wp2_with fail
  obtain ⟨w5, hv⟩ : ∃ wx, wx = w4.setCell ⟨w.heap.size + 1, 1, none⟩ (.bool fd) := ⟨_, rfl⟩
  rw [← hv]
  replace hR : RdS w5 base g s1 := by rw [hv]; exact hR.set_ ⟨w.heap.size + 1, 1, none⟩ (show g < w.heap.size + 1 by omega) _
  replace hO : Off (fun b => b = g) w w5 := by rw [hv]; exact hO.setCell (p := ⟨w.heap.size + 1, 1, none⟩) (.inl (Nat.le_add_right _ 1)) _
  replace hb2 : Whole w5 w.heap.size 35 #[.int .i64 0, .bool false, .string ⟨#[]⟩, .int .i64 0] := by rw [hv]; exact hb2.far (p := ⟨w.heap.size + 1, 1, none⟩) (show w.heap.size ≠ w.heap.size + 1 by omega) _
  replace hb3 : Whole w5 (w.heap.size + 1) 35 #[.int .i64 er, .bool fd, .string ⟨#[]⟩, .int .i64 0] := by rw [hv]; exact hb3.set_ 1 _
  clear hv y1 f1
  refine (textP hR E3.out).mono ?_
  rintro y w6 ⟨rfl, hR', ho'⟩
  replace hb2 := ho'.whole hb2 (by omega)
  replace hb3 := ho'.whole hb3 (by omega)
  replace hO := hO.trans ho' (fun _ _ z => z)
  clear ho' hR
  have y2 := hb3.cell 2
  have f2 := hb3.frozen 2
  go_wp2_with fail
  obtain ⟨w7, hv⟩ : ∃ wx, wx = (w6.setCell ⟨w.heap.size + 1, 2, none⟩ (.string val)) := ⟨_, rfl⟩
  rw [← hv]
  have hR : RdS w7 base g s3 := by rw [hv]; exact (hR'.set_ ⟨w.heap.size + 1, 2, none⟩ (show g < w.heap.size + 1 by omega) _)
  replace hO : Off (fun b => b = g) w w7 := by rw [hv]; exact (Off.setCell hO (p := ⟨w.heap.size + 1, 2, none⟩) (.inl (Nat.le_add_right _ 1)) _)
  replace hb2 : Whole w7 w.heap.size 35 #[.int .i64 0, .bool false, .string ⟨#[]⟩, .int .i64 0] := by rw [hv]; exact (Whole.far hb2 (p := ⟨w.heap.size + 1, 2, none⟩) (show w.heap.size ≠ w.heap.size + 1 by omega) _)
  replace hb3 : Whole w7 (w.heap.size + 1) 35 #[.int .i64 er, .bool fd, .string val, .int .i64 0] := by rw [hv]; exact (Whole.set_ hb3 2 _)
  clear hv hR' y2 f2
  refine (numP hR E4.out).mono ?_
  rintro y w8 ⟨rfl, hR', ho'⟩
  replace hb2 := ho'.whole hb2 (by omega)
  replace hb3 := ho'.whole hb3 (by omega)
  replace hO := hO.trans ho' (fun _ _ z => z)
  clear ho' hR
  have y3 := hb3.cell 3
  have f3 := hb3.frozen 3
  go_wp2_with fail
  obtain ⟨w9, hv⟩ : ∃ wx, wx = (w8.setCell ⟨w.heap.size + 1, 3, none⟩ (.int .i64 ver)) := ⟨_, rfl⟩
  rw [← hv]
  have hR : RdS w9 base g s4 := by rw [hv]; exact (hR'.set_ ⟨w.heap.size + 1, 3, none⟩ (show g < w.heap.size + 1 by omega) _)
  replace hO : Off (fun b => b = g) w w9 := by rw [hv]; exact (Off.setCell hO (p := ⟨w.heap.size + 1, 3, none⟩) (.inl (Nat.le_add_right _ 1)) _)
  replace hb2 : Whole w9 w.heap.size 35 #[.int .i64 0, .bool false, .string ⟨#[]⟩, .int .i64 0] := by rw [hv]; exact (Whole.far hb2 (p := ⟨w.heap.size + 1, 3, none⟩) (show w.heap.size ≠ w.heap.size + 1 by omega) _)
  replace hb3 : Whole w9 (w.heap.size + 1) 35 #[.int .i64 er, .bool fd, .string val, .int .i64 ver] := by rw [hv]; exact (Whole.set_ hb3 3 _)
  clear hv hR' y3 f3
  obtain ⟨wq, hwq⟩ : ∃ wq, wq = w9.drew := ⟨_, rfl⟩
  have hb2q : Whole wq w.heap.size 35 #[.int .i64 0, .bool false, .string ⟨#[]⟩, .int .i64 0] := by rw [hwq]; exact hb2.drew
  have hRq : RdS wq base g s4 := by rw [hwq]; exact hR.since (Since.refl _).drew
  have hOq : Off (fun b => b = g) w wq := by rw [hwq]; exact hO.drew
  have z0 := off_cell (F := (fun b => b = g ∨ b = w.heap.size)) hb3 (by omega) 0 _ rfl
  have z1 := off_cell (F := (fun b => b = g ∨ b = w.heap.size)) hb3 (by omega) 1 _ rfl
  have z2 := off_cell (F := (fun b => b = g ∨ b = w.heap.size)) hb3 (by omega) 2 _ rfl
  have z3 := off_cell (F := (fun b => b = g ∨ b = w.heap.size)) hb3 (by omega) 3 _ rfl
  refine wp_region_held_drew (S := fun W => Off (fun b => b = g ∨ b = w.heap.size) w9 W) (by kernel_rfl) (Off.drew (Off.refl _ _)) (fun hHeld => ?_)
  rw [← hwq] at hHeld ⊢
  have hq : Off (fun b => b = g ∨ b = w.heap.size) w9 wq := hHeld
  clear hwq hHeld hR hO hb2
  refine wpAnyH_take (i := 0) (v := ?_) rfl (by kernel_rfl) (by kernel_rfl) (by kernel_rfl) (fun _ _ _ h => h) (Or.inl ⟨by rfl, ?_⟩) (by assumption) ?_
  rotate_left 1
  · (intro W hW; clear hW; go_simp; try with_reducible rfl)
  simp only [Act.put, List.getElem_toArray, List.getElem_cons_zero, List.setIfInBounds_toArray, List.set_cons_zero, List.set_cons_succ]
  refine wpAnyH_take (i := 1) (v := ?_) rfl (by kernel_rfl) (by kernel_rfl) (by kernel_rfl) (fun _ _ _ h => h) (Or.inl ⟨by rfl, ?_⟩) (by assumption) ?_
  rotate_left 1
  · (intro W hW; skip; go_simp; try with_reducible rfl)
  simp only [Act.put, List.getElem_toArray, List.getElem_cons_succ, List.getElem_cons_zero, List.setIfInBounds_toArray, List.set_cons_zero, List.set_cons_succ]
  refine wpAnyH_take (i := 2) (v := ?_) rfl (by kernel_rfl) (by kernel_rfl) (by kernel_rfl) (fun _ _ _ h => h) (Or.inl ⟨by rfl, ?_⟩) (by assumption) ?_
  rotate_left 1
  · (intro W hW; clear hW; go_simp; try with_reducible rfl)
  simp only [Act.put, List.getElem_toArray, List.getElem_cons_succ, List.getElem_cons_zero, List.setIfInBounds_toArray, List.set_cons_zero, List.set_cons_succ]
  refine wpAnyH_take (i := 3) (v := ?_) rfl (by kernel_rfl) (by kernel_rfl) (by kernel_rfl) (fun _ _ _ h => h) (Or.inl ⟨by rfl, ?_⟩) (by assumption) ?_
  rotate_left 1
  · (intro W hW; clear hW; go_simp; try with_reducible rfl)
  simp only [Act.put, List.getElem_toArray, List.getElem_cons_succ, List.getElem_cons_zero, List.setIfInBounds_toArray, List.set_cons_zero, List.set_cons_succ]
  refine wpAnyH_take (i := 4) (v := ?_) rfl (by kernel_rfl) (by kernel_rfl) (by kernel_rfl) (fun _ _ _ h => h) (Or.inl ⟨by rfl, ?_⟩) (by assumption) ?_
  rotate_left 1
  · (intro W hW; skip; go_simp; try with_reducible rfl)
  simp only [Act.put, List.getElem_toArray, List.getElem_cons_succ, List.getElem_cons_zero, List.setIfInBounds_toArray, List.set_cons_zero, List.set_cons_succ]
  refine wpAnyH_take (i := 7) (v := ?_) rfl (by kernel_rfl) (by kernel_rfl) (by kernel_rfl) (fun _ _ _ h => h) (Or.inl ⟨by rfl, ?_⟩) (by assumption) ?_
  rotate_left 1
  · (intro W hW; skip; go_simp; try with_reducible rfl)
  simp only [Act.put, List.getElem_toArray, List.getElem_cons_succ, List.getElem_cons_zero, List.setIfInBounds_toArray, List.set_cons_zero, List.set_cons_succ]
  refine wpAnyH_ready (rs := [5]) (by kernel_rfl) (by simp) ?_
  refine AllReadyH.cons rfl (fun K hK => ?_) AllReadyH.nil
  go_simp
  refine (flag_at HFL.out _).mono ?_
  rintro e w99 ⟨rfl, rfl⟩
  go_wp2_with fail
  refine hK.out _ _ (hq) (fun hHeld => ?_)
  clear hK K
  try simp only [Act.put, List.getElem_toArray, List.getElem_cons_succ, List.getElem_cons_zero, List.setIfInBounds_toArray, List.set_cons_zero, List.set_cons_succ]
  refine wpAnyH_take (i := 6) (v := ?_) rfl (by kernel_rfl) (by kernel_rfl) (by kernel_rfl) (fun _ _ _ h => h) (Or.inl ⟨by rfl, ?_⟩) (by assumption) ?_
  rotate_left 1
  · (intro W hW; clear hW; go_simp; try with_reducible rfl)
  simp only [Act.put, List.getElem_toArray, List.getElem_cons_succ, List.getElem_cons_zero, List.setIfInBounds_toArray, List.set_cons_zero, List.set_cons_succ]
  refine wpAnyH_ready (rs := [8]) (by kernel_rfl) (by simp) ?_
  refine AllReadyH.cons rfl (fun K hK => ?_) AllReadyH.nil
  go_simp
  refine (RX.out _).mono ?_
  rintro y wa ⟨rfl, hba⟩
  go_wp2_with fail
  refine hK.out _ _ (hq.since hba) (fun hHeld => ?_)
  clear hK K
  try simp only [Act.put, List.getElem_toArray, List.getElem_cons_succ, List.getElem_cons_zero, List.setIfInBounds_toArray, List.set_cons_zero, List.set_cons_succ]
  refine wpAnyH_ready (rs := [9]) (by kernel_rfl) (by simp) ?_
  refine AllReadyH.cons rfl (fun K hK => ?_) AllReadyH.nil
  go_simp
  skip
  refine hK.out _ _ ((hq.since hba).alloc _) (fun hHeld => ?_)
  clear hK K
  try simp only [Act.put, List.getElem_toArray, List.getElem_cons_succ, List.getElem_cons_zero, List.setIfInBounds_toArray, List.set_cons_zero, List.set_cons_succ]
  refine wpAnyH_ready (rs := [10]) (by kernel_rfl) (by simp) ?_
  refine AllReadyH.cons rfl (fun K hK => ?_) AllReadyH.nil
  go_simp
  refine (all_two (Whole.new _ _ _)).mono ?_
  rintro e w99 ⟨rfl, rfl⟩
  go_wp2_with fail
  refine hK.out _ _ ((hq.since hba).alloc _) (fun hHeld => ?_)
  clear hK K
  try simp only [Act.put, List.getElem_toArray, List.getElem_cons_succ, List.getElem_cons_zero, List.setIfInBounds_toArray, List.set_cons_zero, List.set_cons_succ]
  refine wpAnyH_ready (rs := [11]) (by kernel_rfl) (by simp) ?_
  refine AllReadyH.cons rfl (fun K hK => ?_) AllReadyH.nil
  go_simp
  refine (takenAns_any (hRq.since (Since.alloc hba _)) er fd val ver (b1 && ok) HT.out HR.out).mono ?_
  rintro y wb ⟨rfl, hRb, hob⟩
  have d2 := hob.whole (Whole.below hb2q (Since.alloc hba _) hb2q.lt) (by omega)
  have y0 := d2.cell 0
  have f0 := d2.frozen 0
  have y1 := d2.cell 1
  have f1 := d2.frozen 1
  have y2 := d2.cell 2
  have f2 := d2.frozen 2
  have y3 := d2.cell 3
  have f3 := d2.frozen 3
  go_wp2_with fail
  refine hK.out _ _ ((hq.since (Since.alloc hba _)).trans hob (fun b _ z => Or.inl z)) (fun hHeld => ?_)
  clear hK K
  try simp only [Act.put, List.getElem_toArray, List.getElem_cons_succ, List.getElem_cons_zero, List.setIfInBounds_toArray, List.set_cons_zero, List.set_cons_succ]
  refine wpAnyH_ready (rs := [12]) (by kernel_rfl) (by simp) ?_
  refine AllReadyH.cons rfl (fun K hK => ?_) AllReadyH.nil
  go_simp
  skip
  refine hK.out _ _ ((Off.setCell (Off.setCell (Off.setCell (Off.setCell ((hq.since (Since.alloc hba _)).trans hob (fun b _ z => Or.inl z)) (p := ⟨w.heap.size, 0, none⟩) (.inr (Or.inr rfl)) _) (p := ⟨w.heap.size, 1, none⟩) (.inr (Or.inr rfl)) _) (p := ⟨w.heap.size, 2, none⟩) (.inr (Or.inr rfl)) _) (p := ⟨w.heap.size, 3, none⟩) (.inr (Or.inr rfl)) _)) (fun hHeld => ?_)
  clear hK K
  try simp only [Act.put, List.getElem_toArray, List.getElem_cons_succ, List.getElem_cons_zero, List.setIfInBounds_toArray, List.set_cons_zero, List.set_cons_succ]
  refine wpAnyH_done (by kernel_rfl) ?_ _
  go_wp2
  exact bodyPost_ret (results_cell_row rfl _ _ w.heap.size 35 _ (0, 0) _ rfl (Whole.set_ (Whole.set_ (Whole.set_ (Whole.set_ d2 0 _) 1 _) 2 _) 3 _) Tryd.underlying35 rfl (by kernel_rfl)) rfl ⟨rfl, ((((hRb.set_ ⟨w.heap.size, 0, none⟩ hg _).set_ ⟨w.heap.size, 1, none⟩ hg _).set_ ⟨w.heap.size, 2, none⟩ hg _).set_ ⟨w.heap.size, 3, none⟩ hg _), (Off.setCell (Off.setCell (Off.setCell (Off.setCell ((hOq.since (Since.alloc hba _)).trans hob (fun _ _ z => z)) (p := ⟨w.heap.size, 0, none⟩) (.inl (Nat.le_refl _)) _) (p := ⟨w.heap.size, 1, none⟩) (.inl (Nat.le_refl _)) _) (p := ⟨w.heap.size, 2, none⟩) (.inl (Nat.le_refl _)) _) (p := ⟨w.heap.size, 3, none⟩) (.inl (Nat.le_refl _)) _)⟩
end Go.Proofs.YtbgfjkgpekkciaaDoor
