/- gleberef07.PutRec, PutOp, PutAns. -/
import Derived.Test.YtimmnmidhjbanaaDoorK26
namespace Go.Proofs.YtimmnmidhjbanaaDoor
open Go.RowKit
set_option linter.unusedVariables false
set_option maxRecDepth 100000 in
set_option maxHeartbeats 3200000 in
theorem refPutOp_yes (kind x y : Int) (key val : ByteArray) (cl seq : Int) (w : World) (h : opB kind x y key val cl seq = true) :
    Calls Tryd.prog 47 #[.agg #[.int .i64 kind, .int .i64 x, .int .i64 y, .string key, .string val, .int .i64 cl, .int .i64 seq]] w (SlicePost w.heap.size (opL kind x y key val cl seq) w) := by
  unfold opL
  obtain ⟨w0, hw0⟩ : ∃ w0, w0 = w.alloc (.cells #[.int .i64 kind, .int .i64 x, .int .i64 y, .string key, .string val, .int .i64 cl, .int .i64 seq] 25) := ⟨_, rfl⟩
  have hs0 : Since w w0 := by rw [hw0]; exact (Since.refl w).alloc _
  have wh0 : Whole w0 (w.heap.size) 25 #[.int .i64 kind, .int .i64 x, .int .i64 y, .string key, .string val, .int .i64 cl, .int .i64 seq] := by rw [hw0]; exact Whole.new w _ _
  have HW := Lib.hid hw0
  have c0_0 := box_cell wh0 0 (.int .i64 kind) rfl
  have c0_1 := box_cell wh0 1 (.int .i64 x) rfl
  have c0_2 := box_cell wh0 2 (.int .i64 y) rfl
  have c0_3 := box_cell wh0 3 (.string key) rfl
  have c0_4 := box_cell wh0 4 (.string val) rfl
  have c0_5 := box_cell wh0 5 (.int .i64 cl) rfl
  have c0_6 := box_cell wh0 6 (.int .i64 seq) rfl
  have hsr := Since.refl w0
  have hsd := hsr.drew
  clear hw0 wh0
  have HR := Lib.hid (refRightOp_at h w0)
  have HB := Lib.hid (opB_bd h)
  clear h
  go_enter Tryd.func47, Tryd.ntmps47
  go_wp2_with fail
  rw [← HW.out]
  refine HR.out.mono ?_
  rintro e w1 ⟨rfl, hb0⟩
  have hS1 : Since w0 w1 := hb0
  clear hb0 hsr hsd
  go_wp2_with fail
  obtain ⟨wq, hwq⟩ : ∃ wq, wq = w1.drew := ⟨_, rfl⟩
  refine wp_region_held_drew (S := fun W => Since w0 W) (by kernel_rfl) hS1.drew (fun hHeld => ?_)
  rw [← hwq] at hHeld ⊢
  have hq : Since w0 wq := hHeld
  clear hwq
  refine wpAnyH_take (i := 0) (v := ?_) rfl (by kernel_rfl) (by kernel_rfl) (by kernel_rfl) (fun _ _ _ h => h) (Or.inl ⟨by rfl, ?_⟩) (by assumption) ?_
  rotate_left 1
  · (intro W hW; clear hW; go_simp; try with_reducible rfl)
  simp only [Act.put, List.getElem_toArray, List.getElem_cons_zero, List.setIfInBounds_toArray, List.set_cons_zero, List.set_cons_succ]
  refine wpAnyH_take (i := 1) (v := ?_) rfl (by kernel_rfl) (by kernel_rfl) (by kernel_rfl) (fun _ _ _ h => h) (Or.inl ⟨by rfl, ?_⟩) (by assumption) ?_
  rotate_left 1
  · (intro W hW; skip; go_simp; try with_reducible rfl)
  simp only [Act.put, List.getElem_toArray, List.getElem_cons_succ, List.getElem_cons_zero, List.setIfInBounds_toArray, List.set_cons_zero, List.set_cons_succ]
  refine wpAnyH_take (i := 3) (v := ?_) rfl (by kernel_rfl) (by kernel_rfl) (by kernel_rfl) (fun _ _ _ h => h) (Or.inl ⟨by rfl, ?_⟩) (by assumption) ?_
  rotate_left 1
  · (intro W hW; clear hW; go_simp; try with_reducible rfl)
  simp only [Act.put, List.getElem_toArray, List.getElem_cons_succ, List.getElem_cons_zero, List.setIfInBounds_toArray, List.set_cons_zero, List.set_cons_succ]
  refine wpAnyH_take (i := 4) (v := ?_) rfl (by kernel_rfl) (by kernel_rfl) (by kernel_rfl) (fun _ _ _ h => h) (Or.inl ⟨by rfl, ?_⟩) (by assumption) ?_
  rotate_left 1
  · (intro W hW; clear hW; go_simp; try with_reducible rfl)
  simp only [Act.put, List.getElem_toArray, List.getElem_cons_succ, List.getElem_cons_zero, List.setIfInBounds_toArray, List.set_cons_zero, List.set_cons_succ]
  refine wpAnyH_take (i := 5) (v := ?_) rfl (by kernel_rfl) (by kernel_rfl) (by kernel_rfl) (fun _ _ _ h => h) (Or.inl ⟨by rfl, ?_⟩) (by assumption) ?_
  rotate_left 1
  · (intro W hW; skip; go_simp; try with_reducible rfl)
  simp only [Act.put, List.getElem_toArray, List.getElem_cons_succ, List.getElem_cons_zero, List.setIfInBounds_toArray, List.set_cons_zero, List.set_cons_succ]
  refine wpAnyH_take (i := 7) (v := ?_) rfl (by kernel_rfl) (by kernel_rfl) (by kernel_rfl) (fun _ _ _ h => h) (Or.inl ⟨by rfl, ?_⟩) (by assumption) ?_
  rotate_left 1
  · (intro W hW; clear hW; go_simp; try with_reducible rfl)
  simp only [Act.put, List.getElem_toArray, List.getElem_cons_succ, List.getElem_cons_zero, List.setIfInBounds_toArray, List.set_cons_zero, List.set_cons_succ]
  refine wpAnyH_take (i := 8) (v := ?_) rfl (by kernel_rfl) (by kernel_rfl) (by kernel_rfl) (fun _ _ _ h => h) (Or.inl ⟨by rfl, ?_⟩) (by assumption) ?_
  rotate_left 1
  · (intro W hW; clear hW; go_simp; try with_reducible rfl)
  simp only [Act.put, List.getElem_toArray, List.getElem_cons_succ, List.getElem_cons_zero, List.setIfInBounds_toArray, List.set_cons_zero, List.set_cons_succ]
  refine wpAnyH_take (i := 9) (v := ?_) rfl (by kernel_rfl) (by kernel_rfl) (by kernel_rfl) (fun _ _ _ h => h) (Or.inl ⟨by rfl, ?_⟩) (by assumption) ?_
  rotate_left 1
  · (intro W hW; skip; go_simp; try with_reducible rfl)
  simp only [Act.put, List.getElem_toArray, List.getElem_cons_succ, List.getElem_cons_zero, List.setIfInBounds_toArray, List.set_cons_zero, List.set_cons_succ]
  refine wpAnyH_take (i := 11) (v := ?_) rfl (by kernel_rfl) (by kernel_rfl) (by kernel_rfl) (fun _ _ _ h => h) (Or.inl ⟨by rfl, ?_⟩) (by assumption) ?_
  rotate_left 1
  · (intro W hW; clear hW; go_simp; try with_reducible rfl)
  simp only [Act.put, List.getElem_toArray, List.getElem_cons_succ, List.getElem_cons_zero, List.setIfInBounds_toArray, List.set_cons_zero, List.set_cons_succ]
  refine wpAnyH_take (i := 12) (v := ?_) rfl (by kernel_rfl) (by kernel_rfl) (by kernel_rfl) (fun _ _ _ h => h) (Or.inl ⟨by rfl, ?_⟩) (by assumption) ?_
  rotate_left 1
  · (intro W hW; skip; go_simp; try with_reducible rfl)
  simp only [Act.put, List.getElem_toArray, List.getElem_cons_succ, List.getElem_cons_zero, List.setIfInBounds_toArray, List.set_cons_zero, List.set_cons_succ]
  refine wpAnyH_take (i := 14) (v := ?_) rfl (by kernel_rfl) (by kernel_rfl) (by kernel_rfl) (fun _ _ _ h => h) (Or.inl ⟨by rfl, ?_⟩) (by assumption) ?_
  rotate_left 1
  · (intro W hW; clear hW; go_simp; try with_reducible rfl)
  simp only [Act.put, List.getElem_toArray, List.getElem_cons_succ, List.getElem_cons_zero, List.setIfInBounds_toArray, List.set_cons_zero, List.set_cons_succ]
  refine wpAnyH_take (i := 15) (v := ?_) rfl (by kernel_rfl) (by kernel_rfl) (by kernel_rfl) (fun _ _ _ h => h) (Or.inl ⟨by rfl, ?_⟩) (by assumption) ?_
  rotate_left 1
  · (intro W hW; skip; go_simp; try with_reducible rfl)
  simp only [Act.put, List.getElem_toArray, List.getElem_cons_succ, List.getElem_cons_zero, List.setIfInBounds_toArray, List.set_cons_zero, List.set_cons_succ]
  refine wpAnyH_take (i := 17) (v := ?_) rfl (by kernel_rfl) (by kernel_rfl) (by kernel_rfl) (fun _ _ _ h => h) (Or.inl ⟨by rfl, ?_⟩) (by assumption) ?_
  rotate_left 1
  · (intro W hW; clear hW; go_simp; try with_reducible rfl)
  simp only [Act.put, List.getElem_toArray, List.getElem_cons_succ, List.getElem_cons_zero, List.setIfInBounds_toArray, List.set_cons_zero, List.set_cons_succ]
  refine wpAnyH_take (i := 18) (v := ?_) rfl (by kernel_rfl) (by kernel_rfl) (by kernel_rfl) (fun _ _ _ h => h) (Or.inl ⟨by rfl, ?_⟩) (by assumption) ?_
  rotate_left 1
  · (intro W hW; skip; go_simp; try with_reducible rfl)
  simp only [Act.put, List.getElem_toArray, List.getElem_cons_succ, List.getElem_cons_zero, List.setIfInBounds_toArray, List.set_cons_zero, List.set_cons_succ]
  refine wpAnyH_take (i := 20) (v := ?_) rfl (by kernel_rfl) (by kernel_rfl) (by kernel_rfl) (fun _ _ _ h => h) (Or.inl ⟨by rfl, ?_⟩) (by assumption) ?_
  rotate_left 1
  · (intro W hW; clear hW; go_simp; try with_reducible rfl)
  simp only [Act.put, List.getElem_toArray, List.getElem_cons_succ, List.getElem_cons_zero, List.setIfInBounds_toArray, List.set_cons_zero, List.set_cons_succ]
  refine wpAnyH_take (i := 21) (v := ?_) rfl (by kernel_rfl) (by kernel_rfl) (by kernel_rfl) (fun _ _ _ h => h) (Or.inl ⟨by rfl, ?_⟩) (by assumption) ?_
  rotate_left 1
  · (intro W hW; skip; go_simp; try with_reducible rfl)
  simp only [Act.put, List.getElem_toArray, List.getElem_cons_succ, List.getElem_cons_zero, List.setIfInBounds_toArray, List.set_cons_zero, List.set_cons_succ]
  refine wpAnyH_ready (rs := [2]) (by kernel_rfl) (by simp) ?_
  refine AllReadyH.cons rfl (fun K hK => ?_) AllReadyH.nil
  go_simp
  refine (refNum_any _ _).mono ?_
  rintro e w2 ⟨v1, rfl, hn1, hb1'⟩
  obtain ⟨A1, n1, c1, rfl, hh1⟩ := hn1.has
  have ho1 := hh1.own
  clear hh1
  have hb1 : Since w0 w2 := Since.trans hq hb1'
  go_wp2_with fail
  refine hK.out _ _ (hb1) (fun hHeld => ?_)
  clear hK K
  try simp only [Act.put, List.getElem_toArray, List.getElem_cons_succ, List.getElem_cons_zero, List.setIfInBounds_toArray, List.set_cons_zero, List.set_cons_succ]
  refine wpAnyH_ready (rs := [6]) (by kernel_rfl) (by simp) ?_
  refine AllReadyH.cons rfl (fun K hK => ?_) AllReadyH.nil
  go_simp
  refine (refNum_any _ _).mono ?_
  rintro e w3 ⟨v2, rfl, hn2, hb2'⟩
  obtain ⟨A2, n2, c2, rfl, hh2⟩ := hn2.has
  have ho2 := hh2.own
  clear hh2
  have hb2 : Since w0 w3 := Since.trans hb1 hb2'
  replace ho1 := ho1.below hb2'
  go_wp2_with fail
  refine hK.out _ _ (hb2) (fun hHeld => ?_)
  clear hK K
  try simp only [Act.put, List.getElem_toArray, List.getElem_cons_succ, List.getElem_cons_zero, List.setIfInBounds_toArray, List.set_cons_zero, List.set_cons_succ]
  refine wpAnyH_ready (rs := [10]) (by kernel_rfl) (by simp) ?_
  refine AllReadyH.cons rfl (fun K hK => ?_) AllReadyH.nil
  go_simp
  refine (refNum_any _ _).mono ?_
  rintro e w4 ⟨v3, rfl, hn3, hb3'⟩
  obtain ⟨A3, n3, c3, rfl, hh3⟩ := hn3.has
  have ho3 := hh3.own
  clear hh3
  have hb3 : Since w0 w4 := Since.trans hb2 hb3'
  replace ho1 := ho1.below hb3'
  replace ho2 := ho2.below hb3'
  go_wp2_with fail
  refine hK.out _ _ (hb3) (fun hHeld => ?_)
  clear hK K
  try simp only [Act.put, List.getElem_toArray, List.getElem_cons_succ, List.getElem_cons_zero, List.setIfInBounds_toArray, List.set_cons_zero, List.set_cons_succ]
  refine wpAnyH_ready (rs := [13]) (by kernel_rfl) (by simp) ?_
  refine AllReadyH.cons rfl (fun K hK => ?_) AllReadyH.nil
  go_simp
  refine (refText_any _ _ (by have := HB.out; omega)).mono ?_
  rintro e w5 ⟨A4, n4, c4, rfl, hh4, hb4'⟩
  have ho4 := hh4.own
  clear hh4
  have hb4 : Since w0 w5 := Since.trans hb3 hb4'
  replace ho1 := ho1.below hb4'
  replace ho2 := ho2.below hb4'
  replace ho3 := ho3.below hb4'
  go_wp2_with fail
  refine hK.out _ _ (hb4) (fun hHeld => ?_)
  clear hK K
  try simp only [Act.put, List.getElem_toArray, List.getElem_cons_succ, List.getElem_cons_zero, List.setIfInBounds_toArray, List.set_cons_zero, List.set_cons_succ]
  refine wpAnyH_ready (rs := [16]) (by kernel_rfl) (by simp) ?_
  refine AllReadyH.cons rfl (fun K hK => ?_) AllReadyH.nil
  go_simp
  refine (refText_any _ _ (by have := HB.out; omega)).mono ?_
  rintro e w6 ⟨A5, n5, c5, rfl, hh5, hb5'⟩
  have ho5 := hh5.own
  clear hh5
  have hb5 : Since w0 w6 := Since.trans hb4 hb5'
  replace ho1 := ho1.below hb5'
  replace ho2 := ho2.below hb5'
  replace ho3 := ho3.below hb5'
  replace ho4 := ho4.below hb5'
  go_wp2_with fail
  refine hK.out _ _ (hb5) (fun hHeld => ?_)
  clear hK K
  try simp only [Act.put, List.getElem_toArray, List.getElem_cons_succ, List.getElem_cons_zero, List.setIfInBounds_toArray, List.set_cons_zero, List.set_cons_succ]
  refine wpAnyH_ready (rs := [19]) (by kernel_rfl) (by simp) ?_
  refine AllReadyH.cons rfl (fun K hK => ?_) AllReadyH.nil
  go_simp
  refine (refNum_any _ _).mono ?_
  rintro e w7 ⟨v6, rfl, hn6, hb6'⟩
  obtain ⟨A6, n6, c6, rfl, hh6⟩ := hn6.has
  have ho6 := hh6.own
  clear hh6
  have hb6 : Since w0 w7 := Since.trans hb5 hb6'
  replace ho1 := ho1.below hb6'
  replace ho2 := ho2.below hb6'
  replace ho3 := ho3.below hb6'
  replace ho4 := ho4.below hb6'
  replace ho5 := ho5.below hb6'
  go_wp2_with fail
  refine hK.out _ _ (hb6) (fun hHeld => ?_)
  clear hK K
  try simp only [Act.put, List.getElem_toArray, List.getElem_cons_succ, List.getElem_cons_zero, List.setIfInBounds_toArray, List.set_cons_zero, List.set_cons_succ]
  refine wpAnyH_ready (rs := [22]) (by kernel_rfl) (by simp) ?_
  refine AllReadyH.cons rfl (fun K hK => ?_) AllReadyH.nil
  go_simp
  refine (refNum_any _ _).mono ?_
  rintro e w8 ⟨v7, rfl, hn7, hb7'⟩
  obtain ⟨A7, n7, c7, rfl, hh7⟩ := hn7.has
  have ho7 := hh7.own
  clear hh7
  have hb7 : Since w0 w8 := Since.trans hb6 hb7'
  replace ho1 := ho1.below hb7'
  replace ho2 := ho2.below hb7'
  replace ho3 := ho3.below hb7'
  replace ho4 := ho4.below hb7'
  replace ho5 := ho5.below hb7'
  replace ho6 := ho6.below hb7'
  go_wp2_with fail
  refine hK.out _ _ (hb7) (fun hHeld => ?_)
  clear hK K
  try simp only [Act.put, List.getElem_toArray, List.getElem_cons_succ, List.getElem_cons_zero, List.setIfInBounds_toArray, List.set_cons_zero, List.set_cons_succ]
  refine wpAnyH_ready (rs := [23]) (by kernel_rfl) (by simp) ?_
  refine AllReadyH.cons rfl (fun K hK => ?_) AllReadyH.nil
  go_simp
  skip
  refine hK.out _ _ (Since.alloc hb7 _) (fun hHeld => ?_)
  clear hK K
  try simp only [Act.put, List.getElem_toArray, List.getElem_cons_succ, List.getElem_cons_zero, List.setIfInBounds_toArray, List.set_cons_zero, List.set_cons_succ]
  have HVOp : Hid (∀ p ∈ ([(.slice A1 n1 c1, numL kind), (.slice A2 n2 c2, numL x), (.slice A3 n3 c3, numL y), (.slice A4 n4 c4, textL key), (.slice A5 n5 c5, textL val), (.slice A6 n6 c6, numL cl), (.slice A7 n7 c7, numL seq)] : List (Value × List UInt8)), ∃ B, Own (w8.alloc (.cells #[.slice A1 n1 c1, .slice A2 n2 c2, .slice A3 n3 c3, .slice A4 n4 c4, .slice A5 n5 c5, .slice A6 n6 c6, .slice A7 n7 c7] 31)) B p.1 p.2 ∧ p.2.length ≤ 10000) := by
    unfold Hid
    have hbd := HB.out
    simp only [List.mem_cons, List.not_mem_nil, or_false]
    rintro p (rfl | rfl | rfl | rfl | rfl | rfl | rfl)
    · exact ⟨_, Own.alloc ho1 _, show (numL kind).length ≤ 10000 from Nat.le_trans (numL_len _) (by decide)⟩
    · exact ⟨_, Own.alloc ho2 _, show (numL x).length ≤ 10000 from Nat.le_trans (numL_len _) (by decide)⟩
    · exact ⟨_, Own.alloc ho3 _, show (numL y).length ≤ 10000 from Nat.le_trans (numL_len _) (by decide)⟩
    · exact ⟨_, Own.alloc ho4 _, Nat.le_trans (textL_len (by omega)) (by decide)⟩
    · exact ⟨_, Own.alloc ho5 _, Nat.le_trans (textL_len (by omega)) (by decide)⟩
    · exact ⟨_, Own.alloc ho6 _, show (numL cl).length ≤ 10000 from Nat.le_trans (numL_len _) (by decide)⟩
    · exact ⟨_, Own.alloc ho7 _, show (numL seq).length ≤ 10000 from Nat.le_trans (numL_len _) (by decide)⟩
  refine wpAnyH_ready (rs := [24]) (by kernel_rfl) (by simp) ?_
  refine AllReadyH.cons rfl (fun K hK => ?_) AllReadyH.nil
  go_simp
  refine (join_any (l := [(.slice A1 n1 c1, numL kind), (.slice A2 n2 c2, numL x), (.slice A3 n3 c3, numL y), (.slice A4 n4 c4, textL key), (.slice A5 n5 c5, textL val), (.slice A6 n6 c6, numL cl), (.slice A7 n7 c7, numL seq)]) (Whole.new w8 _ _) rfl rfl (show 7 ≤ 100 by decide) HVOp.out).mono ?_
  rintro e wj ⟨AJ, nJ, cJ, rfl, hhJ, hbJ⟩
  go_wp2_with fail
  refine hK.out _ _ (Since.trans (Since.alloc hb7 _) hbJ) (fun hHeld => ?_)
  clear hK K
  try simp only [Act.put, List.getElem_toArray, List.getElem_cons_succ, List.getElem_cons_zero, List.setIfInBounds_toArray, List.set_cons_zero, List.set_cons_succ]
  refine wpAnyH_take (i := 25) (v := ?_) rfl (by kernel_rfl) (by kernel_rfl) (by kernel_rfl) (fun _ _ _ h => h) (Or.inl ⟨by rfl, ?_⟩) (by assumption) ?_
  rotate_left 1
  · (intro W hW; clear hW; go_simp; try with_reducible rfl)
  simp only [Act.put, List.getElem_toArray, List.getElem_cons_succ, List.getElem_cons_zero, List.setIfInBounds_toArray, List.set_cons_zero, List.set_cons_succ]
  refine wpAnyH_done (by kernel_rfl) ?_ _
  go_wp2
  go_ret
  refine ⟨AJ, nJ, cJ, rfl, ?_, hs0.trans (Since.trans (Since.alloc hb7 _) hbJ)⟩
  have e : ([(.slice A1 n1 c1, numL kind), (.slice A2 n2 c2, numL x), (.slice A3 n3 c3, numL y), (.slice A4 n4 c4, textL key), (.slice A5 n5 c5, textL val), (.slice A6 n6 c6, numL cl), (.slice A7 n7 c7, numL seq)].flatMap fun p : Value × List UInt8 => p.2) = [kind, x, y].flatMap numL ++ [key, val].flatMap textL ++ [cl, seq].flatMap numL := by simp
  rw [e] at hhJ
  exact hhJ.lower (Nat.le_trans hs0.size_ (Since.alloc hb7 _).size_)
end Go.Proofs.YtimmnmidhjbanaaDoor
