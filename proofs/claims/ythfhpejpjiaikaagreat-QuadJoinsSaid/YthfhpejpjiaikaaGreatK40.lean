/- gleberef03: Parent, Bit, Last, Sibling of paths that may be. -/
import Derived.Test.YthfhpejpjiaikaaGreatK39
namespace Go.Proofs.YthfhpejpjiaikaaGreat
open Go.RowKit
set_option linter.unusedVariables false
set_option linter.unusedSimpArgs false
theorem pv_up {d b : Int} (h0 : 0 < d) : pv d b (d - 1) = b / 2 := by rw [pv_half (by omega), show d - 1 + 1 = d by omega, pv_all]
theorem fine_up {d b : Int} (hf : fine d b = true) (h0 : 0 < d) : fine (d - 1) (b / 2) = true := by
  have h := pv_fine (m := d - 1) hf (by omega) (by omega)
  rw [pv_up h0] at h
  exact h
theorem bit_last {d b : Int} (hf : fine d b = true) (h0 : 0 < d) : bitI d b (d - 1) = b % 2 := by
  rw [bitI_yes hf (by omega) (by omega), show d - 1 + 1 = d by omega, pv_all]
theorem parent_of {d b D V : Int} (hf : fine d b = true) (h0 : 0 < d) (e1 : d - 1 = D) (e2 : b / 2 = V) (W : World) : Calls Tryz.prog 63 #[.string ((txt d b).extract 0 D.toNat)] W fun e w' => e = .returned (.agg #[.int .i64 D, .int .i64 V]) ∧ Below W.heap.size W w' := by
  have hfi := (fine_iff d b).1 hf
  have hfp := fine_up hf h0
  have hcut : (txt d b).extract 0 D.toNat = txt D V := by rw [← e1, txt_cut hf (by omega), pv_up h0, e2]
  rw [e1, e2] at hfp
  have hdg := digT_digs hfp D.toNat (by omega)
  rw [hcut]
  refine refOf_at W (by rw [txt_list]; exact hdg.1) (by rw [txt_size]; omega) (by rw [txt_size]; omega) ?_
  rw [txt_list, hdg.2, show ((D.toNat : Nat) : Int) = D by omega]
  exact pv_all D V
set_option maxRecDepth 100000 in
set_option maxHeartbeats 1600000 in
theorem refParent_yes (d b : Int) (w : World) (hf : fine d b = true) (h0 : 0 < d) : Calls Tryz.prog 35 #[.agg #[.int .i64 d, .int .i64 b]] w fun e w' => e = .returned (.tuple #[.agg #[.int .i64 (d - 1), .int .i64 (b / 2)], .bool true]) ∧ Below w.heap.size w w' := by
  obtain ⟨w0, hw0⟩ : ∃ w0, w0 = (w.alloc (.cells #[.int .i64 d, .int .i64 b] 23)).alloc (.cells #[.int .i64 0, .int .i64 0] 23) := ⟨_, rfl⟩
  have hs0 : Since w w0 := by rw [hw0]; exact ((Since.refl w).alloc _).alloc _
  have wh0 : Whole w0 (w.heap.size) 23 #[.int .i64 d, .int .i64 b] := by rw [hw0]; exact (Whole.new w _ _).alloc _
  have wh1 : Whole w0 (w.heap.size + 1) 23 #[.int .i64 0, .int .i64 0] := by rw [hw0]; exact (Whole.new (w.alloc _) _ _).at_ (by simp)
  have HW := Lib.hid hw0
  have c0_0 := box_cell wh0 0 (.int .i64 d) rfl
  have c0_1 := box_cell wh0 1 (.int .i64 b) rfl
  have c1_0 := box_cell wh1 0 (.int .i64 0) rfl
  have f1_0 := box_free wh1 0
  have c1_1 := box_cell wh1 1 (.int .i64 0) rfl
  have f1_1 := box_free wh1 1
  have hsr := Since.refl w0
  have hsd := hsr.drew
  clear hw0
  have hfi := (fine_iff d b).1 hf
  obtain ⟨D, hD⟩ : ∃ D, d - 1 = D := ⟨_, rfl⟩
  obtain ⟨V, hV⟩ : ∃ V, b / 2 = V := ⟨_, rfl⟩
  have HOF := Lib.hid (fun W => parent_of hf h0 hD hV W)
  have HF := Lib.hid (fun W => refFine_at hf W)
  have HH := Lib.hid (fun W => refHalves_at hf rfl W)
  have hsz := txt_size d b
  have hd0 : (d == 0) = false := by simp; omega
  have w1 : IntKind.i64.wrap (d - 1) = D := (IntWalk.i64_in _ (by omega)).trans hD
  have w2 : wrap64 (d - 1) = D := (IntWalk.wrap64_in _ ⟨by omega, by omega⟩).trans hD
  have i0 : (0 : Int) ≤ D := by omega
  have i1 : D ≤ ((txt d b).size : Int) := by rw [hsz]; omega
  rw [hD, hV]
  obtain ⟨tx, htx⟩ : ∃ tx, txt d b = tx := ⟨_, rfl⟩
  rw [htx] at HOF HH i1
  clear hf h0 hfi hD hV hsz htx
  go_enter Tryz.func35, Tryz.ntmps35
  go_wp2_with fail
  rw [← HW.out]
  go_wp2_with (go_at_call 62; (with_reducible refine (Calls.since (by assumption) (HF.out _)).mono ?_); rintro e wr ⟨rfl, hbr⟩)
  have hne : w.heap.size ≠ w.heap.size + 1 := by omega
  have b0 := but_cell (Since.whole hbr wh0) (g := w.heap.size + 1) hne 0 (.int .i64 d) rfl
  have b1 := but_cell (Since.whole hbr wh0) (g := w.heap.size + 1) hne 1 (.int .i64 b) rfl
  clear hne c0_0 c0_1 c1_0 c1_1 f1_0 f1_1 hsr hsd
  obtain ⟨wq, hwq⟩ : ∃ wq, wq = wr.drew := ⟨_, rfl⟩
  have hrd : Since wr wr.drew := (Since.refl wr).drew
  refine wp_region_held_drew (S := fun W => But (w.heap.size + 1) wr W) (by kernel_rfl) (Since.but hrd _) (fun hHeld => ?_)
  rw [← hwq] at hHeld hrd ⊢
  have hq : Since wr wq := hrd
  clear hwq hrd
  refine wpAnyH_take (i := 0) (v := ?_) rfl (by kernel_rfl) (by kernel_rfl) (by kernel_rfl) (fun _ _ _ h => h) (Or.inl ⟨by rfl, ?_⟩) (by assumption) ?_
  rotate_left 1
  · (intro W hW; skip; go_simp; try with_reducible rfl)
  simp only [Act.put, List.getElem_toArray, List.getElem_cons_zero, List.setIfInBounds_toArray, List.set_cons_zero, List.set_cons_succ]
  refine wpAnyH_take (i := 2) (v := ?_) rfl (by kernel_rfl) (by kernel_rfl) (by kernel_rfl) (fun _ _ _ h => h) (Or.inl ⟨by rfl, ?_⟩) (by assumption) ?_
  rotate_left 1
  · (intro W hW; clear hW; go_simp; try with_reducible rfl)
  simp only [Act.put, List.getElem_toArray, List.getElem_cons_succ, List.getElem_cons_zero, List.setIfInBounds_toArray, List.set_cons_zero, List.set_cons_succ]
  refine wpAnyH_take (i := 3) (v := ?_) rfl (by kernel_rfl) (by kernel_rfl) (by kernel_rfl) (fun _ _ _ h => h) (Or.inl ⟨by rfl, ?_⟩) (by assumption) ?_
  rotate_left 1
  · (intro W hW; skip; go_simp; try with_reducible rfl)
  simp only [Act.put, List.getElem_toArray, List.getElem_cons_succ, List.getElem_cons_zero, List.setIfInBounds_toArray, List.set_cons_zero, List.set_cons_succ]
  refine wpAnyH_take (i := 4) (v := ?_) rfl (by kernel_rfl) (by kernel_rfl) (by kernel_rfl) (fun _ _ _ h => h) (Or.inl ⟨by rfl, ?_⟩) (by assumption) ?_
  rotate_left 1
  · (intro W hW; clear hW; go_simp; try with_reducible rfl)
  simp only [Act.put, List.getElem_toArray, List.getElem_cons_succ, List.getElem_cons_zero, List.setIfInBounds_toArray, List.set_cons_zero, List.set_cons_succ]
  refine wpAnyH_ready (rs := [1]) (by kernel_rfl) (by simp) ?_
  refine AllReadyH.cons rfl (fun K hK => ?_) AllReadyH.nil
  go_simp
  refine (Calls.since hq (HH.out _)).mono ?_
  rintro e w2 ⟨rfl, hb2⟩
  go_wp2_with fail
  refine hK.out _ _ (Since.but hb2 _) (fun hHeld => ?_)
  clear hK K
  try simp only [Act.put, List.getElem_toArray, List.getElem_cons_succ, List.getElem_cons_zero, List.setIfInBounds_toArray, List.set_cons_zero, List.set_cons_succ]
  refine wpAnyH_take (i := 5) (v := ?_) rfl (by kernel_rfl) (by kernel_rfl) (by kernel_rfl) (fun _ _ _ h => h) (Or.inl ⟨by rfl, ?_⟩) (by assumption) ?_
  rotate_left 1
  · (intro W hW; clear hW; go_simp; try with_reducible rfl)
  simp only [Act.put, List.getElem_toArray, List.getElem_cons_succ, List.getElem_cons_zero, List.setIfInBounds_toArray, List.set_cons_zero, List.set_cons_succ]
  refine wpAnyH_ready (rs := [6]) (by kernel_rfl) (by simp) ?_
  refine AllReadyH.cons rfl (fun K hK => ?_) AllReadyH.nil
  go_simp
  refine (Calls.since hb2 (HOF.out _)).mono ?_
  rintro e w4 ⟨rfl, hb4⟩
  have hw4 := Since.whole (hbr.trans hb4) wh1
  have x0 := hw4.cell 0
  have x1 := hw4.cell 1
  have y0 := hw4.frozen 0
  have y1 := hw4.frozen 1
  go_wp2_with fail
  refine hK.out _ _ (Since.but hb4 _) (fun hHeld => ?_)
  clear hK K
  try simp only [Act.put, List.getElem_toArray, List.getElem_cons_succ, List.getElem_cons_zero, List.setIfInBounds_toArray, List.set_cons_zero, List.set_cons_succ]
  refine wpAnyH_ready (rs := [7]) (by kernel_rfl) (by simp) ?_
  refine AllReadyH.cons rfl (fun K hK => ?_) AllReadyH.nil
  go_simp
  skip
  refine hK.out _ _ (But.set2 hb4 _ _ _ _) (fun hHeld => ?_)
  clear hK K
  try simp only [Act.put, List.getElem_toArray, List.getElem_cons_succ, List.getElem_cons_zero, List.setIfInBounds_toArray, List.set_cons_zero, List.set_cons_succ]
  refine wpAnyH_take (i := 8) (v := ?_) rfl (by kernel_rfl) (by kernel_rfl) (by kernel_rfl) (fun _ _ _ h => h) (Or.inl ⟨by rfl, ?_⟩) (by assumption) ?_
  rotate_left 1
  · (intro W hW; clear hW; go_simp; try with_reducible rfl)
  simp only [Act.put, List.getElem_toArray, List.getElem_cons_succ, List.getElem_cons_zero, List.setIfInBounds_toArray, List.set_cons_zero, List.set_cons_succ]
  refine wpAnyH_done (by kernel_rfl) ?_ _
  go_wp2_with fail
  have u := (hw4.set_ 0 (.int .i64 D)).set_ 1 (.int .i64 V)
  have u0 := u.cell 0
  have u1 := u.cell 1
  exact bodyPost_ret (v := .tuple #[.agg #[.int .i64 D, .int .i64 V], .bool true]) (by simp [results, Tryz.results35, go_sem, u0, u1]) rfl ⟨rfl, Below.setCell (Below.setCell (hs0.trans (hbr.trans hb4)) (by simp) _) (by simp) _⟩
set_option maxRecDepth 100000 in
set_option maxHeartbeats 1600000 in
theorem refParent_top (b : Int) (w : World) (hf : fine 0 b = true) : Calls Tryz.prog 35 #[.agg #[.int .i64 0, .int .i64 b]] w fun e w' => e = .returned (.tuple #[.agg #[.int .i64 0, .int .i64 0], .bool false]) ∧ Below w.heap.size w w' := by
  obtain ⟨w0, hw0⟩ : ∃ w0, w0 = (w.alloc (.cells #[.int .i64 0, .int .i64 b] 23)).alloc (.cells #[.int .i64 0, .int .i64 0] 23) := ⟨_, rfl⟩
  have hs0 : Since w w0 := by rw [hw0]; exact ((Since.refl w).alloc _).alloc _
  have wh0 : Whole w0 (w.heap.size) 23 #[.int .i64 0, .int .i64 b] := by rw [hw0]; exact (Whole.new w _ _).alloc _
  have wh1 : Whole w0 (w.heap.size + 1) 23 #[.int .i64 0, .int .i64 0] := by rw [hw0]; exact (Whole.new (w.alloc _) _ _).at_ (by simp)
  have HW := Lib.hid hw0
  have c0_0 := box_cell wh0 0 (.int .i64 0) rfl
  have c0_1 := box_cell wh0 1 (.int .i64 b) rfl
  have c1_0 := box_cell wh1 0 (.int .i64 0) rfl
  have f1_0 := box_free wh1 0
  have c1_1 := box_cell wh1 1 (.int .i64 0) rfl
  have f1_1 := box_free wh1 1
  have hsr := Since.refl w0
  have hsd := hsr.drew
  clear hw0
  have HF := Lib.hid (fun W => refFine_at hf W)
  clear hf
  go_enter Tryz.func35, Tryz.ntmps35
  go_wp2_with fail
  rw [← HW.out]
  go_wp2_with (go_at_call 62; (with_reducible refine (Calls.since (by assumption) (HF.out _)).mono ?_); rintro e wr ⟨rfl, hbr⟩; have hw5 := Since.whole hbr wh1; have x0 := hw5.cell 0; have x1 := hw5.cell 1; have y0 := hw5.frozen 0; have y1 := hw5.frozen 1)
  have u := (hw5.set_ 0 (.int .i64 0)).set_ 1 (.int .i64 0)
  have u0 := u.cell 0
  have u1 := u.cell 1
  exact bodyPost_ret (v := .tuple #[.agg #[.int .i64 0, .int .i64 0], .bool false]) (by simp [results, Tryz.results35, go_sem, u0, u1]) rfl ⟨rfl, Below.setCell (Below.setCell (hs0.trans hbr) (by simp) _) (by simp) _⟩
set_option maxRecDepth 100000 in
set_option maxHeartbeats 1600000 in
theorem refBit_last (d b : Int) (w : World) (hf : fine d b = true) (h0 : 0 < d) : Calls Tryz.prog 93 #[.agg #[.int .i64 d, .int .i64 b], .int .i64 (d - 1)] w fun e w' => e = .returned (.int .i64 (b % 2)) ∧ Below w.heap.size w w' := by
  obtain ⟨w0, hw0⟩ : ∃ w0, w0 = w.alloc (.cells #[.int .i64 d, .int .i64 b] 23) := ⟨_, rfl⟩
  have hs0 : Since w w0 := by rw [hw0]; exact (Since.refl w).alloc _
  have wh0 : Whole w0 (w.heap.size) 23 #[.int .i64 d, .int .i64 b] := by rw [hw0]; exact Whole.new w _ _
  have HW := Lib.hid hw0
  have c0_0 := box_cell wh0 0 (.int .i64 d) rfl
  have c0_1 := box_cell wh0 1 (.int .i64 b) rfl
  have hsr := Since.refl w0
  have hsd := hsr.drew
  clear hw0 wh0
  have HF := Lib.hid (fun W => refFine_at hf W)
  obtain ⟨n, hn⟩ : ∃ n : Nat, d - 1 = (n : Int) := ⟨(d - 1).toNat, by omega⟩
  obtain ⟨T, hT⟩ : ∃ T, txt d b = T := ⟨_, rfl⟩
  have HH := Lib.hid (fun W => refHalves_at hf hT W)
  have hsz : T.size = d.toNat := by rw [← hT]; exact txt_size d b
  have gs : ∀ hn : n < T.size, ((T[n]'hn).toNat : Int) = 48 + b % 2 := by
    intro h
    have z := txt_get hf n (by rw [hT]; exact h)
    rw [← hn, bit_last hf h0] at z
    subst hT
    exact z
  have d1 : decide (d - 1 < 0) = false := decide_eq_false (by omega)
  have d2 : decide (d ≤ d - 1) = false := decide_eq_false (by omega)
  rw [hn] at d1 d2 ⊢
  have i1 : n < T.size := by omega
  have i2 : (n : Int) < T.size := by omega
  have g1 := gs i1
  obtain ⟨c, hc⟩ : ∃ c, 48 + b % 2 = c := ⟨_, rfl⟩
  rw [hc] at g1
  obtain ⟨V, hV⟩ : ∃ V, b % 2 = V := ⟨_, rfl⟩
  rw [hV] at hc ⊢
  have hV2 : 0 ≤ V ∧ V ≤ 1 := by omega
  have w1 : IntKind.u8.wrap (c - 48) = V := by rcases (show V = 0 ∨ V = 1 by omega) with rfl | rfl <;> (obtain rfl := hc.symm; decide)
  have w2 : IntKind.i64.wrap V = V := IntWalk.i64_in _ (by omega)
  have w3 : wrap64 V = V := IntWalk.wrap64_in _ ⟨by omega, by omega⟩
  clear hf h0 hT hsz gs hn hc hV hV2
  go_enter Tryz.func93, Tryz.ntmps93
  go_wp2_with fail
  rw [← HW.out]
  go_wp2_with (first | (go_at_call 62; (with_reducible refine (Calls.since (by assumption) (HF.out _)).mono ?_); rintro e wr ⟨rfl, hbr⟩) | (go_at_call 64; (with_reducible refine (Calls.since (by assumption) (HH.out _)).mono ?_); rintro e wh ⟨rfl, hbh⟩))
  go_ret
  exact ⟨by first | rfl | exact ret_int (by simp [w1, w2, w3]), hs0.trans hbh⟩
end Go.Proofs.YthfhpejpjiaikaaGreat
