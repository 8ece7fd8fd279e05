/- point.TakeRec, TakeOp, TakeAns. -/
import Derived.Test.YtimmnmidhjbanaaDoorK34
namespace Go.Proofs.YtimmnmidhjbanaaDoor
open Go.RowKit
set_option linter.unusedVariables false
set_option maxRecDepth 100000 in
set_option maxHeartbeats 1600000 in
theorem takeOp_any {w : World} {base g : Nat} {s t : RSt} (h : RdS w base g s) {rkind : Int} {rx : Int} {ry : Int} {rkey : ByteArray} {rval : ByteArray} {rcl : Int} {rseq : Int} (hr : readOp s = ((rkind, rx, ry, rkey, rval, rcl, rseq), t)) :
    Calls Tryd.prog 80 #[.pointer (some ⟨g, 0, none⟩)] w (RPs base g t (.agg #[.int .i64 rkind, .int .i64 rx, .int .i64 ry, .string rkey, .string rval, .int .i64 rcl, .int .i64 rseq]) w) := by
  have hg := h.lt
  unfold readOp at hr
  obtain ⟨⟨kind, s0⟩, e0⟩ : ∃ r, numS s = r := ⟨_, rfl⟩
  obtain ⟨⟨x, s1⟩, e1⟩ : ∃ r, numS s0 = r := ⟨_, rfl⟩
  obtain ⟨⟨y, s2⟩, e2⟩ : ∃ r, numS s1 = r := ⟨_, rfl⟩
  obtain ⟨⟨key, s3⟩, e3⟩ : ∃ r, txS s2 = r := ⟨_, rfl⟩
  obtain ⟨⟨val, s4⟩, e4⟩ : ∃ r, txS s3 = r := ⟨_, rfl⟩
  obtain ⟨⟨cl, s5⟩, e5⟩ : ∃ r, numS s4 = r := ⟨_, rfl⟩
  obtain ⟨⟨seq, s6⟩, e6⟩ : ∃ r, numS s5 = r := ⟨_, rfl⟩
  simp only [e0, e1, e2, e3, e4, e5, e6] at hr
  obtain ⟨ok, hok⟩ : ∃ b, opB kind x y key val cl seq = b := ⟨_, rfl⟩
  rw [hok] at hr
  injection hr with hr1 hr2
  rw [hr2] at hr1
  have HT := Lib.hid hr2
  have HR := Lib.hid hr1
  have E0 := Lib.hid e0
  have E1 := Lib.hid e1
  have E2 := Lib.hid e2
  have E3 := Lib.hid e3
  have E4 := Lib.hid e4
  have E5 := Lib.hid e5
  have E6 := Lib.hid e6
  clear hr1 hr2 e0 e1 e2 e3 e4 e5 e6
  have RX : Hid (∀ W, Calls Tryd.prog 50 #[.agg #[.int .i64 kind, .int .i64 x, .int .i64 y, .string key, .string val, .int .i64 cl, .int .i64 seq]] W fun e w' => e = .returned (.bool ok) ∧ Below W.heap.size W w') := by
    unfold Hid
    intro W
    rw [← hok]
    exact rightOp_any kind x y key val cl seq W
  clear hok
  obtain ⟨w1, hw1⟩ : ∃ w1, w1 = (w.alloc (.cells #[.int .i64 0, .int .i64 0, .int .i64 0, .string ⟨#[]⟩, .string ⟨#[]⟩, .int .i64 0, .int .i64 0] 35)).alloc (.cells #[.int .i64 0, .int .i64 0, .int .i64 0, .string ⟨#[]⟩, .string ⟨#[]⟩, .int .i64 0, .int .i64 0] 35) := ⟨_, rfl⟩
  have hs1 : Since w w1 := by rw [hw1]; exact ((Since.refl w).alloc _).alloc _
  have hb2 : Whole w1 w.heap.size 35 #[.int .i64 0, .int .i64 0, .int .i64 0, .string ⟨#[]⟩, .string ⟨#[]⟩, .int .i64 0, .int .i64 0] := by rw [hw1]; exact (Whole.new w _ _).alloc _
  have hb3 : Whole w1 (w.heap.size + 1) 35 #[.int .i64 0, .int .i64 0, .int .i64 0, .string ⟨#[]⟩, .string ⟨#[]⟩, .int .i64 0, .int .i64 0] := by rw [hw1]; exact (Whole.new (w.alloc _) _ _).at_ (by simp)
  have hR := h.since hs1
  have hO : Off (fun b => b = g) w w1 := hs1.off _
  have HW := Lib.hid hw1
  clear hw1 hs1 h
  go_enter Tryd.func80, Tryd.ntmps80
  go_wp2_with fail
  rw [← HW.out]
  refine (numP hR E0.out).mono ?_
  rintro y w2 ⟨rfl, hR', ho'⟩
  replace hb2 := ho'.whole hb2 (by omega)
  replace hb3 := ho'.whole hb3 (by omega)
  replace hO := hO.trans ho' (fun _ _ z => z)
  clear ho' hR
  have y0 := hb3.cell 0
  have f0 := hb3.frozen 0
  go_wp2_with fail
  obtain ⟨w3, hv⟩ : ∃ wx, wx = (w2.setCell ⟨w.heap.size + 1, 0, none⟩ (.int .i64 kind)) := ⟨_, rfl⟩
  rw [← hv]
  have hR : RdS w3 base g s0 := by rw [hv]; exact (hR'.set_ ⟨w.heap.size + 1, 0, none⟩ (show g < w.heap.size + 1 by omega) _)
  replace hO : Off (fun b => b = g) w w3 := by rw [hv]; exact (Off.setCell hO (p := ⟨w.heap.size + 1, 0, none⟩) (.inl (Nat.le_add_right _ 1)) _)
  replace hb2 : Whole w3 w.heap.size 35 #[.int .i64 0, .int .i64 0, .int .i64 0, .string ⟨#[]⟩, .string ⟨#[]⟩, .int .i64 0, .int .i64 0] := by rw [hv]; exact (Whole.far hb2 (p := ⟨w.heap.size + 1, 0, none⟩) (show w.heap.size ≠ w.heap.size + 1 by omega) _)
  replace hb3 : Whole w3 (w.heap.size + 1) 35 #[.int .i64 kind, .int .i64 0, .int .i64 0, .string ⟨#[]⟩, .string ⟨#[]⟩, .int .i64 0, .int .i64 0] := by rw [hv]; exact (Whole.set_ hb3 0 _)
  clear hv hR' y0 f0
  refine (cellP hR E1.out E2.out).mono ?_
  rintro y w4 ⟨rfl, hR', ho'⟩
  replace hb2 := ho'.whole hb2 (by omega)
  replace hb3 := ho'.whole hb3 (by omega)
  replace hO := hO.trans ho' (fun _ _ z => z)
  clear ho' hR
  have y1 := hb3.cell 1
  have f1 := hb3.frozen 1
  have y2 := hb3.cell 2
  have f2 := hb3.frozen 2
  go_wp2_with fail
  obtain ⟨w5, hv⟩ : ∃ wx, wx = ((w4.setCell ⟨w.heap.size + 1, 1, none⟩ (.int .i64 x)).setCell ⟨w.heap.size + 1, 2, none⟩ (.int .i64 y)) := ⟨_, rfl⟩
  rw [← hv]
  have hR : RdS w5 base g s2 := by rw [hv]; exact ((hR'.set_ ⟨w.heap.size + 1, 1, none⟩ (show g < w.heap.size + 1 by omega) _).set_ ⟨w.heap.size + 1, 2, none⟩ (show g < w.heap.size + 1 by omega) _)
  replace hO : Off (fun b => b = g) w w5 := by rw [hv]; exact (Off.setCell (Off.setCell hO (p := ⟨w.heap.size + 1, 1, none⟩) (.inl (Nat.le_add_right _ 1)) _) (p := ⟨w.heap.size + 1, 2, none⟩) (.inl (Nat.le_add_right _ 1)) _)
  replace hb2 : Whole w5 w.heap.size 35 #[.int .i64 0, .int .i64 0, .int .i64 0, .string ⟨#[]⟩, .string ⟨#[]⟩, .int .i64 0, .int .i64 0] := by rw [hv]; exact (Whole.far (Whole.far hb2 (p := ⟨w.heap.size + 1, 1, none⟩) (show w.heap.size ≠ w.heap.size + 1 by omega) _) (p := ⟨w.heap.size + 1, 2, none⟩) (show w.heap.size ≠ w.heap.size + 1 by omega) _)
  replace hb3 : Whole w5 (w.heap.size + 1) 35 #[.int .i64 kind, .int .i64 x, .int .i64 y, .string ⟨#[]⟩, .string ⟨#[]⟩, .int .i64 0, .int .i64 0] := by rw [hv]; exact (Whole.set_ (Whole.set_ hb3 1 _) 2 _)
  clear hv hR' y1 f1 y2 f2
  refine (textP hR E3.out).mono ?_
  rintro y w6 ⟨rfl, hR', ho'⟩
  replace hb2 := ho'.whole hb2 (by omega)
  replace hb3 := ho'.whole hb3 (by omega)
  replace hO := hO.trans ho' (fun _ _ z => z)
  clear ho' hR
  have y3 := hb3.cell 3
  have f3 := hb3.frozen 3
  go_wp2_with fail
  obtain ⟨w7, hv⟩ : ∃ wx, wx = (w6.setCell ⟨w.heap.size + 1, 3, none⟩ (.string key)) := ⟨_, rfl⟩
  rw [← hv]
  have hR : RdS w7 base g s3 := by rw [hv]; exact (hR'.set_ ⟨w.heap.size + 1, 3, none⟩ (show g < w.heap.size + 1 by omega) _)
  replace hO : Off (fun b => b = g) w w7 := by rw [hv]; exact (Off.setCell hO (p := ⟨w.heap.size + 1, 3, none⟩) (.inl (Nat.le_add_right _ 1)) _)
  replace hb2 : Whole w7 w.heap.size 35 #[.int .i64 0, .int .i64 0, .int .i64 0, .string ⟨#[]⟩, .string ⟨#[]⟩, .int .i64 0, .int .i64 0] := by rw [hv]; exact (Whole.far hb2 (p := ⟨w.heap.size + 1, 3, none⟩) (show w.heap.size ≠ w.heap.size + 1 by omega) _)
  replace hb3 : Whole w7 (w.heap.size + 1) 35 #[.int .i64 kind, .int .i64 x, .int .i64 y, .string key, .string ⟨#[]⟩, .int .i64 0, .int .i64 0] := by rw [hv]; exact (Whole.set_ hb3 3 _)
  clear hv hR' y3 f3
  refine (textP hR E4.out).mono ?_
  rintro y w8 ⟨rfl, hR', ho'⟩
  replace hb2 := ho'.whole hb2 (by omega)
  replace hb3 := ho'.whole hb3 (by omega)
  replace hO := hO.trans ho' (fun _ _ z => z)
  clear ho' hR
  have y4 := hb3.cell 4
  have f4 := hb3.frozen 4
  go_wp2_with fail
  obtain ⟨w9, hv⟩ : ∃ wx, wx = (w8.setCell ⟨w.heap.size + 1, 4, none⟩ (.string val)) := ⟨_, rfl⟩
  rw [← hv]
  have hR : RdS w9 base g s4 := by rw [hv]; exact (hR'.set_ ⟨w.heap.size + 1, 4, none⟩ (show g < w.heap.size + 1 by omega) _)
  replace hO : Off (fun b => b = g) w w9 := by rw [hv]; exact (Off.setCell hO (p := ⟨w.heap.size + 1, 4, none⟩) (.inl (Nat.le_add_right _ 1)) _)
  replace hb2 : Whole w9 w.heap.size 35 #[.int .i64 0, .int .i64 0, .int .i64 0, .string ⟨#[]⟩, .string ⟨#[]⟩, .int .i64 0, .int .i64 0] := by rw [hv]; exact (Whole.far hb2 (p := ⟨w.heap.size + 1, 4, none⟩) (show w.heap.size ≠ w.heap.size + 1 by omega) _)
  replace hb3 : Whole w9 (w.heap.size + 1) 35 #[.int .i64 kind, .int .i64 x, .int .i64 y, .string key, .string val, .int .i64 0, .int .i64 0] := by rw [hv]; exact (Whole.set_ hb3 4 _)
  clear hv hR' y4 f4
  refine (numP hR E5.out).mono ?_
  rintro y w10 ⟨rfl, hR', ho'⟩
  replace hb2 := ho'.whole hb2 (by omega)
  replace hb3 := ho'.whole hb3 (by omega)
  replace hO := hO.trans ho' (fun _ _ z => z)
  clear ho' hR
  have y5 := hb3.cell 5
  have f5 := hb3.frozen 5
  go_wp2_with fail
  obtain ⟨w11, hv⟩ : ∃ wx, wx = (w10.setCell ⟨w.heap.size + 1, 5, none⟩ (.int .i64 cl)) := ⟨_, rfl⟩
  rw [← hv]
  have hR : RdS w11 base g s5 := by rw [hv]; exact (hR'.set_ ⟨w.heap.size + 1, 5, none⟩ (show g < w.heap.size + 1 by omega) _)
  replace hO : Off (fun b => b = g) w w11 := by rw [hv]; exact (Off.setCell hO (p := ⟨w.heap.size + 1, 5, none⟩) (.inl (Nat.le_add_right _ 1)) _)
  replace hb2 : Whole w11 w.heap.size 35 #[.int .i64 0, .int .i64 0, .int .i64 0, .string ⟨#[]⟩, .string ⟨#[]⟩, .int .i64 0, .int .i64 0] := by rw [hv]; exact (Whole.far hb2 (p := ⟨w.heap.size + 1, 5, none⟩) (show w.heap.size ≠ w.heap.size + 1 by omega) _)
  replace hb3 : Whole w11 (w.heap.size + 1) 35 #[.int .i64 kind, .int .i64 x, .int .i64 y, .string key, .string val, .int .i64 cl, .int .i64 0] := by rw [hv]; exact (Whole.set_ hb3 5 _)
  clear hv hR' y5 f5
  refine (numP hR E6.out).mono ?_
  rintro y w12 ⟨rfl, hR', ho'⟩
  replace hb2 := ho'.whole hb2 (by omega)
  replace hb3 := ho'.whole hb3 (by omega)
  replace hO := hO.trans ho' (fun _ _ z => z)
  clear ho' hR
  have y6 := hb3.cell 6
  have f6 := hb3.frozen 6
  go_wp2_with fail
  obtain ⟨w13, hv⟩ : ∃ wx, wx = (w12.setCell ⟨w.heap.size + 1, 6, none⟩ (.int .i64 seq)) := ⟨_, rfl⟩
  rw [← hv]
  have hR : RdS w13 base g s6 := by rw [hv]; exact (hR'.set_ ⟨w.heap.size + 1, 6, none⟩ (show g < w.heap.size + 1 by omega) _)
  replace hO : Off (fun b => b = g) w w13 := by rw [hv]; exact (Off.setCell hO (p := ⟨w.heap.size + 1, 6, none⟩) (.inl (Nat.le_add_right _ 1)) _)
  replace hb2 : Whole w13 w.heap.size 35 #[.int .i64 0, .int .i64 0, .int .i64 0, .string ⟨#[]⟩, .string ⟨#[]⟩, .int .i64 0, .int .i64 0] := by rw [hv]; exact (Whole.far hb2 (p := ⟨w.heap.size + 1, 6, none⟩) (show w.heap.size ≠ w.heap.size + 1 by omega) _)
  replace hb3 : Whole w13 (w.heap.size + 1) 35 #[.int .i64 kind, .int .i64 x, .int .i64 y, .string key, .string val, .int .i64 cl, .int .i64 seq] := by rw [hv]; exact (Whole.set_ hb3 6 _)
  clear hv hR' y6 f6
  obtain ⟨wq, hwq⟩ : ∃ wq, wq = w13.drew := ⟨_, rfl⟩
  have hb2q : Whole wq w.heap.size 35 #[.int .i64 0, .int .i64 0, .int .i64 0, .string ⟨#[]⟩, .string ⟨#[]⟩, .int .i64 0, .int .i64 0] := by rw [hwq]; exact hb2.drew
  have hRq : RdS wq base g s6 := by rw [hwq]; exact hR.since (Since.refl _).drew
  have hOq : Off (fun b => b = g) w wq := by rw [hwq]; exact hO.drew
  have z0 := off_cell (F := (fun b => b = g ∨ b = w.heap.size)) hb3 (by omega) 0 _ rfl
  have z1 := off_cell (F := (fun b => b = g ∨ b = w.heap.size)) hb3 (by omega) 1 _ rfl
  have z2 := off_cell (F := (fun b => b = g ∨ b = w.heap.size)) hb3 (by omega) 2 _ rfl
  have z3 := off_cell (F := (fun b => b = g ∨ b = w.heap.size)) hb3 (by omega) 3 _ rfl
  have z4 := off_cell (F := (fun b => b = g ∨ b = w.heap.size)) hb3 (by omega) 4 _ rfl
  have z5 := off_cell (F := (fun b => b = g ∨ b = w.heap.size)) hb3 (by omega) 5 _ rfl
  have z6 := off_cell (F := (fun b => b = g ∨ b = w.heap.size)) hb3 (by omega) 6 _ rfl
  refine wp_region_held_drew (S := fun W => Off (fun b => b = g ∨ b = w.heap.size) w13 W) (by kernel_rfl) (Off.drew (Off.refl _ _)) (fun hHeld => ?_)
  rw [← hwq] at hHeld ⊢
  have hq : Off (fun b => b = g ∨ b = w.heap.size) w13 wq := hHeld
  clear hwq hHeld hR hO hb2
  refine wpAnyH_take (i := 0) (v := ?_) rfl (by kernel_rfl) (by kernel_rfl) (by kernel_rfl) (fun _ _ _ h => h) (Or.inl ⟨by rfl, ?_⟩) (by assumption) ?_
  rotate_left 1
  · (intro W hW; clear hW; go_simp; try with_reducible rfl)
  simp only [Act.put, List.getElem_toArray, List.getElem_cons_zero, List.setIfInBounds_toArray, List.set_cons_zero, List.set_cons_succ]
  refine wpAnyH_take (i := 1) (v := ?_) rfl (by kernel_rfl) (by kernel_rfl) (by kernel_rfl) (fun _ _ _ h => h) (Or.inl ⟨by rfl, ?_⟩) (by assumption) ?_
  rotate_left 1
  · (intro W hW; skip; go_simp; try with_reducible rfl)
  simp only [Act.put, List.getElem_toArray, List.getElem_cons_succ, List.getElem_cons_zero, List.setIfInBounds_toArray, List.set_cons_zero, List.set_cons_succ]
  refine wpAnyH_take (i := 2) (v := ?_) rfl (by kernel_rfl) (by kernel_rfl) (by kernel_rfl) (fun _ _ _ h => h) (Or.inl ⟨by rfl, ?_⟩) (by assumption) ?_
  rotate_left 1
  · (intro W hW; skip; go_simp; try with_reducible rfl)
  simp only [Act.put, List.getElem_toArray, List.getElem_cons_succ, List.getElem_cons_zero, List.setIfInBounds_toArray, List.set_cons_zero, List.set_cons_succ]
  refine wpAnyH_ready (rs := [3]) (by kernel_rfl) (by simp) ?_
  refine AllReadyH.cons rfl (fun K hK => ?_) AllReadyH.nil
  go_simp
  refine (RX.out _).mono ?_
  rintro y wa ⟨rfl, hba⟩
  go_wp2_with fail
  refine hK.out _ _ (hq.since hba) (fun hHeld => ?_)
  clear hK K
  try simp only [Act.put, List.getElem_toArray, List.getElem_cons_succ, List.getElem_cons_zero, List.setIfInBounds_toArray, List.set_cons_zero, List.set_cons_succ]
  refine wpAnyH_ready (rs := [4]) (by kernel_rfl) (by simp) ?_
  refine AllReadyH.cons rfl (fun K hK => ?_) AllReadyH.nil
  go_simp
  refine (takenOp_any (hRq.since hba) kind x y key val cl seq ok HT.out HR.out).mono ?_
  rintro y wb ⟨rfl, hRb, hob⟩
  have d2 := hob.whole (Whole.below hb2q hba hb2q.lt) (by omega)
  have y0 := d2.cell 0
  have f0 := d2.frozen 0
  have y1 := d2.cell 1
  have f1 := d2.frozen 1
  have y2 := d2.cell 2
  have f2 := d2.frozen 2
  have y3 := d2.cell 3
  have f3 := d2.frozen 3
  have y4 := d2.cell 4
  have f4 := d2.frozen 4
  have y5 := d2.cell 5
  have f5 := d2.frozen 5
  have y6 := d2.cell 6
  have f6 := d2.frozen 6
  go_wp2_with fail
  refine hK.out _ _ ((hq.since hba).trans hob (fun b _ z => Or.inl z)) (fun hHeld => ?_)
  clear hK K
  try simp only [Act.put, List.getElem_toArray, List.getElem_cons_succ, List.getElem_cons_zero, List.setIfInBounds_toArray, List.set_cons_zero, List.set_cons_succ]
  refine wpAnyH_ready (rs := [5]) (by kernel_rfl) (by simp) ?_
  refine AllReadyH.cons rfl (fun K hK => ?_) AllReadyH.nil
  go_simp
  skip
  refine hK.out _ _ ((Off.setCell (Off.setCell (Off.setCell (Off.setCell (Off.setCell (Off.setCell (Off.setCell ((hq.since hba).trans hob (fun b _ z => Or.inl z)) (p := ⟨w.heap.size, 0, none⟩) (.inr (Or.inr rfl)) _) (p := ⟨w.heap.size, 1, none⟩) (.inr (Or.inr rfl)) _) (p := ⟨w.heap.size, 2, none⟩) (.inr (Or.inr rfl)) _) (p := ⟨w.heap.size, 3, none⟩) (.inr (Or.inr rfl)) _) (p := ⟨w.heap.size, 4, none⟩) (.inr (Or.inr rfl)) _) (p := ⟨w.heap.size, 5, none⟩) (.inr (Or.inr rfl)) _) (p := ⟨w.heap.size, 6, none⟩) (.inr (Or.inr rfl)) _)) (fun hHeld => ?_)
  clear hK K
  try simp only [Act.put, List.getElem_toArray, List.getElem_cons_succ, List.getElem_cons_zero, List.setIfInBounds_toArray, List.set_cons_zero, List.set_cons_succ]
  refine wpAnyH_done (by kernel_rfl) ?_ _
  go_wp2
  exact bodyPost_ret (results_cell_row rfl _ _ w.heap.size 35 _ (0, 0) _ rfl (Whole.set_ (Whole.set_ (Whole.set_ (Whole.set_ (Whole.set_ (Whole.set_ (Whole.set_ d2 0 _) 1 _) 2 _) 3 _) 4 _) 5 _) 6 _) Tryd.underlying35 rfl (by kernel_rfl)) rfl ⟨rfl, (((((((hRb.set_ ⟨w.heap.size, 0, none⟩ hg _).set_ ⟨w.heap.size, 1, none⟩ hg _).set_ ⟨w.heap.size, 2, none⟩ hg _).set_ ⟨w.heap.size, 3, none⟩ hg _).set_ ⟨w.heap.size, 4, none⟩ hg _).set_ ⟨w.heap.size, 5, none⟩ hg _).set_ ⟨w.heap.size, 6, none⟩ hg _), (Off.setCell (Off.setCell (Off.setCell (Off.setCell (Off.setCell (Off.setCell (Off.setCell ((hOq.since hba).trans hob (fun _ _ z => z)) (p := ⟨w.heap.size, 0, none⟩) (.inl (Nat.le_refl _)) _) (p := ⟨w.heap.size, 1, none⟩) (.inl (Nat.le_refl _)) _) (p := ⟨w.heap.size, 2, none⟩) (.inl (Nat.le_refl _)) _) (p := ⟨w.heap.size, 3, none⟩) (.inl (Nat.le_refl _)) _) (p := ⟨w.heap.size, 4, none⟩) (.inl (Nat.le_refl _)) _) (p := ⟨w.heap.size, 5, none⟩) (.inl (Nat.le_refl _)) _) (p := ⟨w.heap.size, 6, none⟩) (.inl (Nat.le_refl _)) _)⟩
end Go.Proofs.YtimmnmidhjbanaaDoor
