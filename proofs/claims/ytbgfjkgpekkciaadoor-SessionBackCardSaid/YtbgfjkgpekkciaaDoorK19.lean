/- gleberef07.PutRec, PutOp, PutAns. -/
import Derived.Test.YtbgfjkgpekkciaaDoorK18
namespace Go.Proofs.YtbgfjkgpekkciaaDoor
open Go.RowKit
set_option linter.unusedVariables false
set_option maxRecDepth 100000 in
set_option maxHeartbeats 3200000 in
theorem refPutAns_yes (er : Int) (found : Bool) (val : ByteArray) (ver : Int) (w : World) (h : ansB er found val ver = true) :
    Calls Tryd.prog 34 #[.agg #[.int .i64 er, .bool found, .string val, .int .i64 ver]] w (SlicePost w.heap.size (ansL er found val ver) w) := by
  unfold ansL
  cases found with
  | true =>
    rw [if_pos rfl]
    obtain ⟨w0, hw0⟩ : ∃ w0, w0 = w.alloc (.cells #[.int .i64 er, .bool true, .string val, .int .i64 ver] 42) := ⟨_, rfl⟩
    have hs0 : Since w w0 := by rw [hw0]; exact (Since.refl w).alloc _
    have wh0 : Whole w0 (w.heap.size) 42 #[.int .i64 er, .bool true, .string val, .int .i64 ver] := by rw [hw0]; exact Whole.new w _ _
    have HW := Lib.hid hw0
    have c0_0 := box_cell wh0 0 (.int .i64 er) rfl
    have c0_1 := box_cell wh0 1 (.bool true) rfl
    have c0_2 := box_cell wh0 2 (.string val) rfl
    have c0_3 := box_cell wh0 3 (.int .i64 ver) rfl
    have hsr := Since.refl w0
    have hsd := hsr.drew
    clear hw0 wh0
    have HR := Lib.hid (refRightAns_at h w0)
    have HB := Lib.hid (ansB_bd h)
    clear h
    go_enter Tryd.func34, Tryd.ntmps34
    go_wp2_with fail
    rw [← HW.out]
    refine HR.out.mono ?_
    rintro e w1 ⟨rfl, hb0⟩
    have hS1 : Since w0 w1 := hb0
    clear hb0 hsr hsd
    go_wp2_with fail
    obtain ⟨wq, hwq⟩ : ∃ wq, wq = w1.drew := ⟨_, rfl⟩
    refine wp_region_held_drew (S := fun W => Since w0 W) (by kernel_rfl) hS1.drew (fun hHeld => ?_)
    rw [← hwq] at hHeld ⊢
    have hq : Since w0 wq := hHeld
    clear hwq
    refine wpAnyH_take (i := 0) (v := ?_) rfl (by kernel_rfl) (by kernel_rfl) (by kernel_rfl) (fun _ _ _ h => h) (Or.inl ⟨by rfl, ?_⟩) (by assumption) ?_
    rotate_left 1
    · (intro W hW; clear hW; go_simp; try with_reducible rfl)
    simp only [Act.put, List.getElem_toArray, List.getElem_cons_zero, List.setIfInBounds_toArray, List.set_cons_zero, List.set_cons_succ]
    refine wpAnyH_take (i := 1) (v := ?_) rfl (by kernel_rfl) (by kernel_rfl) (by kernel_rfl) (fun _ _ _ h => h) (Or.inl ⟨by rfl, ?_⟩) (by assumption) ?_
    rotate_left 1
    · (intro W hW; skip; go_simp; try with_reducible rfl)
    simp only [Act.put, List.getElem_toArray, List.getElem_cons_succ, List.getElem_cons_zero, List.setIfInBounds_toArray, List.set_cons_zero, List.set_cons_succ]
    refine wpAnyH_take (i := 3) (v := ?_) rfl (by kernel_rfl) (by kernel_rfl) (by kernel_rfl) (fun _ _ _ h => h) (Or.inl ⟨by rfl, ?_⟩) (by assumption) ?_
    rotate_left 1
    · (intro W hW; clear hW; go_simp; try with_reducible rfl)
    simp only [Act.put, List.getElem_toArray, List.getElem_cons_succ, List.getElem_cons_zero, List.setIfInBounds_toArray, List.set_cons_zero, List.set_cons_succ]
    refine wpAnyH_take (i := 5) (v := ?_) rfl (by kernel_rfl) (by kernel_rfl) (by kernel_rfl) (fun _ _ _ h => h) (Or.inl ⟨by rfl, ?_⟩) (by assumption) ?_
    rotate_left 1
    · (intro W hW; clear hW; go_simp; try with_reducible rfl)
    simp only [Act.put, List.getElem_toArray, List.getElem_cons_succ, List.getElem_cons_zero, List.setIfInBounds_toArray, List.set_cons_zero, List.set_cons_succ]
    refine wpAnyH_take (i := 6) (v := ?_) rfl (by kernel_rfl) (by kernel_rfl) (by kernel_rfl) (fun _ _ _ h => h) (Or.inl ⟨by rfl, ?_⟩) (by assumption) ?_
    rotate_left 1
    · (intro W hW; skip; go_simp; try with_reducible rfl)
    simp only [Act.put, List.getElem_toArray, List.getElem_cons_succ, List.getElem_cons_zero, List.setIfInBounds_toArray, List.set_cons_zero, List.set_cons_succ]
    refine wpAnyH_take (i := 8) (v := ?_) rfl (by kernel_rfl) (by kernel_rfl) (by kernel_rfl) (fun _ _ _ h => h) (Or.inl ⟨by rfl, ?_⟩) (by assumption) ?_
    rotate_left 1
    · (intro W hW; clear hW; go_simp; try with_reducible rfl)
    simp only [Act.put, List.getElem_toArray, List.getElem_cons_succ, List.getElem_cons_zero, List.setIfInBounds_toArray, List.set_cons_zero, List.set_cons_succ]
    refine wpAnyH_take (i := 9) (v := ?_) rfl (by kernel_rfl) (by kernel_rfl) (by kernel_rfl) (fun _ _ _ h => h) (Or.inl ⟨by rfl, ?_⟩) (by assumption) ?_
    rotate_left 1
    · (intro W hW; skip; go_simp; try with_reducible rfl)
    simp only [Act.put, List.getElem_toArray, List.getElem_cons_succ, List.getElem_cons_zero, List.setIfInBounds_toArray, List.set_cons_zero, List.set_cons_succ]
    refine wpAnyH_ready (rs := [2]) (by kernel_rfl) (by simp) ?_
    refine AllReadyH.cons rfl (fun K hK => ?_) AllReadyH.nil
    go_simp
    refine (refNum_any _ _).mono ?_
    rintro e w2 ⟨v1, rfl, hn1, hb1'⟩
    obtain ⟨A1, n1, c1, rfl, hh1⟩ := hn1.has
    have ho1 := hh1.own
    clear hh1
    have hb1 : Since w0 w2 := Since.trans hq hb1'
    go_wp2_with fail
    refine hK.out _ _ (hb1) (fun hHeld => ?_)
    clear hK K
    try simp only [Act.put, List.getElem_toArray, List.getElem_cons_succ, List.getElem_cons_zero, List.setIfInBounds_toArray, List.set_cons_zero, List.set_cons_succ]
    refine wpAnyH_ready (rs := [4]) (by kernel_rfl) (by simp) ?_
    refine AllReadyH.cons rfl (fun K hK => ?_) AllReadyH.nil
    go_simp
    refine (refNum_any _ _).mono ?_
    rintro e w3 ⟨v2, rfl, hn2, hb2'⟩
    obtain ⟨A2, n2, c2, rfl, hh2⟩ := hn2.has
    have ho2 := hh2.own
    clear hh2
    have hb2 : Since w0 w3 := Since.trans hb1 hb2'
    replace ho1 := ho1.below hb2'
    go_wp2_with fail
    refine hK.out _ _ (hb2) (fun hHeld => ?_)
    clear hK K
    try simp only [Act.put, List.getElem_toArray, List.getElem_cons_succ, List.getElem_cons_zero, List.setIfInBounds_toArray, List.set_cons_zero, List.set_cons_succ]
    refine wpAnyH_ready (rs := [7]) (by kernel_rfl) (by simp) ?_
    refine AllReadyH.cons rfl (fun K hK => ?_) AllReadyH.nil
    go_simp
    refine (refText_any _ _ (by have := HB.out; omega)).mono ?_
    rintro e w4 ⟨A3, n3, c3, rfl, hh3, hb3'⟩
    have ho3 := hh3.own
    clear hh3
    have hb3 : Since w0 w4 := Since.trans hb2 hb3'
    replace ho1 := ho1.below hb3'
    replace ho2 := ho2.below hb3'
    go_wp2_with fail
    refine hK.out _ _ (hb3) (fun hHeld => ?_)
    clear hK K
    try simp only [Act.put, List.getElem_toArray, List.getElem_cons_succ, List.getElem_cons_zero, List.setIfInBounds_toArray, List.set_cons_zero, List.set_cons_succ]
    refine wpAnyH_ready (rs := [10]) (by kernel_rfl) (by simp) ?_
    refine AllReadyH.cons rfl (fun K hK => ?_) AllReadyH.nil
    go_simp
    refine (refNum_any _ _).mono ?_
    rintro e w5 ⟨v4, rfl, hn4, hb4'⟩
    obtain ⟨A4, n4, c4, rfl, hh4⟩ := hn4.has
    have ho4 := hh4.own
    clear hh4
    have hb4 : Since w0 w5 := Since.trans hb3 hb4'
    replace ho1 := ho1.below hb4'
    replace ho2 := ho2.below hb4'
    replace ho3 := ho3.below hb4'
    go_wp2_with fail
    refine hK.out _ _ (hb4) (fun hHeld => ?_)
    clear hK K
    try simp only [Act.put, List.getElem_toArray, List.getElem_cons_succ, List.getElem_cons_zero, List.setIfInBounds_toArray, List.set_cons_zero, List.set_cons_succ]
    refine wpAnyH_ready (rs := [11]) (by kernel_rfl) (by simp) ?_
    refine AllReadyH.cons rfl (fun K hK => ?_) AllReadyH.nil
    go_simp
    skip
    refine hK.out _ _ (Since.alloc hb4 _) (fun hHeld => ?_)
    clear hK K
    try simp only [Act.put, List.getElem_toArray, List.getElem_cons_succ, List.getElem_cons_zero, List.setIfInBounds_toArray, List.set_cons_zero, List.set_cons_succ]
    have HVAns : Hid (∀ p ∈ ([(.slice A1 n1 c1, numL er), (.slice A2 n2 c2, numL 1), (.slice A3 n3 c3, textL val), (.slice A4 n4 c4, numL ver)] : List (Value × List UInt8)), ∃ B, Own (w5.alloc (.cells #[.slice A1 n1 c1, .slice A2 n2 c2, .slice A3 n3 c3, .slice A4 n4 c4] 38)) B p.1 p.2 ∧ p.2.length ≤ 10000) := by
      unfold Hid
      have hbd := HB.out
      simp only [List.mem_cons, List.not_mem_nil, or_false]
      rintro p (rfl | rfl | rfl | rfl)
      · exact ⟨_, Own.alloc ho1 _, show (numL er).length ≤ 10000 from Nat.le_trans (numL_len _) (by decide)⟩
      · exact ⟨_, Own.alloc ho2 _, show (numL 1).length ≤ 10000 from Nat.le_trans (numL_len _) (by decide)⟩
      · exact ⟨_, Own.alloc ho3 _, Nat.le_trans (textL_len (by omega)) (by decide)⟩
      · exact ⟨_, Own.alloc ho4 _, show (numL ver).length ≤ 10000 from Nat.le_trans (numL_len _) (by decide)⟩
    refine wpAnyH_ready (rs := [12]) (by kernel_rfl) (by simp) ?_
    refine AllReadyH.cons rfl (fun K hK => ?_) AllReadyH.nil
    go_simp
    refine (join_any (l := [(.slice A1 n1 c1, numL er), (.slice A2 n2 c2, numL 1), (.slice A3 n3 c3, textL val), (.slice A4 n4 c4, numL ver)]) (Whole.new w5 _ _) rfl rfl (show 4 ≤ 100 by decide) HVAns.out).mono ?_
    rintro e wj ⟨AJ, nJ, cJ, rfl, hhJ, hbJ⟩
    go_wp2_with fail
    refine hK.out _ _ (Since.trans (Since.alloc hb4 _) hbJ) (fun hHeld => ?_)
    clear hK K
    try simp only [Act.put, List.getElem_toArray, List.getElem_cons_succ, List.getElem_cons_zero, List.setIfInBounds_toArray, List.set_cons_zero, List.set_cons_succ]
    refine wpAnyH_take (i := 13) (v := ?_) rfl (by kernel_rfl) (by kernel_rfl) (by kernel_rfl) (fun _ _ _ h => h) (Or.inl ⟨by rfl, ?_⟩) (by assumption) ?_
    rotate_left 1
    · (intro W hW; clear hW; go_simp; try with_reducible rfl)
    simp only [Act.put, List.getElem_toArray, List.getElem_cons_succ, List.getElem_cons_zero, List.setIfInBounds_toArray, List.set_cons_zero, List.set_cons_succ]
    refine wpAnyH_done (by kernel_rfl) ?_ _
    go_wp2
    go_ret
    refine ⟨AJ, nJ, cJ, rfl, ?_, hs0.trans (Since.trans (Since.alloc hb4 _) hbJ)⟩
    have e : ([(.slice A1 n1 c1, numL er), (.slice A2 n2 c2, numL 1), (.slice A3 n3 c3, textL val), (.slice A4 n4 c4, numL ver)].flatMap fun p : Value × List UInt8 => p.2) = [er, 1].flatMap numL ++ [val].flatMap textL ++ [ver].flatMap numL := by simp
    rw [e] at hhJ
    exact hhJ.lower (Nat.le_trans hs0.size_ (Since.alloc hb4 _).size_)
  | false =>
    rw [if_neg (by decide)]
    obtain ⟨w0, hw0⟩ : ∃ w0, w0 = w.alloc (.cells #[.int .i64 er, .bool false, .string val, .int .i64 ver] 42) := ⟨_, rfl⟩
    have hs0 : Since w w0 := by rw [hw0]; exact (Since.refl w).alloc _
    have wh0 : Whole w0 (w.heap.size) 42 #[.int .i64 er, .bool false, .string val, .int .i64 ver] := by rw [hw0]; exact Whole.new w _ _
    have HW := Lib.hid hw0
    have c0_0 := box_cell wh0 0 (.int .i64 er) rfl
    have c0_1 := box_cell wh0 1 (.bool false) rfl
    have c0_2 := box_cell wh0 2 (.string val) rfl
    have c0_3 := box_cell wh0 3 (.int .i64 ver) rfl
    have hsr := Since.refl w0
    have hsd := hsr.drew
    clear hw0 wh0
    have HR := Lib.hid (refRightAns_at h w0)
    have HB := Lib.hid (ansB_bd h)
    clear h
    go_enter Tryd.func34, Tryd.ntmps34
    go_wp2_with fail
    rw [← HW.out]
    refine HR.out.mono ?_
    rintro e w1 ⟨rfl, hb0⟩
    have hS1 : Since w0 w1 := hb0
    clear hb0 hsr hsd
    go_wp2_with fail
    obtain ⟨wq, hwq⟩ : ∃ wq, wq = w1.drew := ⟨_, rfl⟩
    refine wp_region_held_drew (S := fun W => Since w0 W) (by kernel_rfl) hS1.drew (fun hHeld => ?_)
    rw [← hwq] at hHeld ⊢
    have hq : Since w0 wq := hHeld
    clear hwq
    refine wpAnyH_take (i := 0) (v := ?_) rfl (by kernel_rfl) (by kernel_rfl) (by kernel_rfl) (fun _ _ _ h => h) (Or.inl ⟨by rfl, ?_⟩) (by assumption) ?_
    rotate_left 1
    · (intro W hW; clear hW; go_simp; try with_reducible rfl)
    simp only [Act.put, List.getElem_toArray, List.getElem_cons_zero, List.setIfInBounds_toArray, List.set_cons_zero, List.set_cons_succ]
    refine wpAnyH_take (i := 1) (v := ?_) rfl (by kernel_rfl) (by kernel_rfl) (by kernel_rfl) (fun _ _ _ h => h) (Or.inl ⟨by rfl, ?_⟩) (by assumption) ?_
    rotate_left 1
    · (intro W hW; skip; go_simp; try with_reducible rfl)
    simp only [Act.put, List.getElem_toArray, List.getElem_cons_succ, List.getElem_cons_zero, List.setIfInBounds_toArray, List.set_cons_zero, List.set_cons_succ]
    refine wpAnyH_take (i := 3) (v := ?_) rfl (by kernel_rfl) (by kernel_rfl) (by kernel_rfl) (fun _ _ _ h => h) (Or.inl ⟨by rfl, ?_⟩) (by assumption) ?_
    rotate_left 1
    · (intro W hW; clear hW; go_simp; try with_reducible rfl)
    simp only [Act.put, List.getElem_toArray, List.getElem_cons_succ, List.getElem_cons_zero, List.setIfInBounds_toArray, List.set_cons_zero, List.set_cons_succ]
    refine wpAnyH_take (i := 5) (v := ?_) rfl (by kernel_rfl) (by kernel_rfl) (by kernel_rfl) (fun _ _ _ h => h) (Or.inl ⟨by rfl, ?_⟩) (by assumption) ?_
    rotate_left 1
    · (intro W hW; clear hW; go_simp; try with_reducible rfl)
    simp only [Act.put, List.getElem_toArray, List.getElem_cons_succ, List.getElem_cons_zero, List.setIfInBounds_toArray, List.set_cons_zero, List.set_cons_succ]
    refine wpAnyH_take (i := 6) (v := ?_) rfl (by kernel_rfl) (by kernel_rfl) (by kernel_rfl) (fun _ _ _ h => h) (Or.inl ⟨by rfl, ?_⟩) (by assumption) ?_
    rotate_left 1
    · (intro W hW; skip; go_simp; try with_reducible rfl)
    simp only [Act.put, List.getElem_toArray, List.getElem_cons_succ, List.getElem_cons_zero, List.setIfInBounds_toArray, List.set_cons_zero, List.set_cons_succ]
    refine wpAnyH_take (i := 8) (v := ?_) rfl (by kernel_rfl) (by kernel_rfl) (by kernel_rfl) (fun _ _ _ h => h) (Or.inl ⟨by rfl, ?_⟩) (by assumption) ?_
    rotate_left 1
    · (intro W hW; clear hW; go_simp; try with_reducible rfl)
    simp only [Act.put, List.getElem_toArray, List.getElem_cons_succ, List.getElem_cons_zero, List.setIfInBounds_toArray, List.set_cons_zero, List.set_cons_succ]
    refine wpAnyH_take (i := 9) (v := ?_) rfl (by kernel_rfl) (by kernel_rfl) (by kernel_rfl) (fun _ _ _ h => h) (Or.inl ⟨by rfl, ?_⟩) (by assumption) ?_
    rotate_left 1
    · (intro W hW; skip; go_simp; try with_reducible rfl)
    simp only [Act.put, List.getElem_toArray, List.getElem_cons_succ, List.getElem_cons_zero, List.setIfInBounds_toArray, List.set_cons_zero, List.set_cons_succ]
    refine wpAnyH_ready (rs := [2]) (by kernel_rfl) (by simp) ?_
    refine AllReadyH.cons rfl (fun K hK => ?_) AllReadyH.nil
    go_simp
    refine (refNum_any _ _).mono ?_
    rintro e w2 ⟨v1, rfl, hn1, hb1'⟩
    obtain ⟨A1, n1, c1, rfl, hh1⟩ := hn1.has
    have ho1 := hh1.own
    clear hh1
    have hb1 : Since w0 w2 := Since.trans hq hb1'
    go_wp2_with fail
    refine hK.out _ _ (hb1) (fun hHeld => ?_)
    clear hK K
    try simp only [Act.put, List.getElem_toArray, List.getElem_cons_succ, List.getElem_cons_zero, List.setIfInBounds_toArray, List.set_cons_zero, List.set_cons_succ]
    refine wpAnyH_ready (rs := [4]) (by kernel_rfl) (by simp) ?_
    refine AllReadyH.cons rfl (fun K hK => ?_) AllReadyH.nil
    go_simp
    refine (refNum_any _ _).mono ?_
    rintro e w3 ⟨v2, rfl, hn2, hb2'⟩
    obtain ⟨A2, n2, c2, rfl, hh2⟩ := hn2.has
    have ho2 := hh2.own
    clear hh2
    have hb2 : Since w0 w3 := Since.trans hb1 hb2'
    replace ho1 := ho1.below hb2'
    go_wp2_with fail
    refine hK.out _ _ (hb2) (fun hHeld => ?_)
    clear hK K
    try simp only [Act.put, List.getElem_toArray, List.getElem_cons_succ, List.getElem_cons_zero, List.setIfInBounds_toArray, List.set_cons_zero, List.set_cons_succ]
    refine wpAnyH_ready (rs := [7]) (by kernel_rfl) (by simp) ?_
    refine AllReadyH.cons rfl (fun K hK => ?_) AllReadyH.nil
    go_simp
    refine (refText_any _ _ (by have := HB.out; omega)).mono ?_
    rintro e w4 ⟨A3, n3, c3, rfl, hh3, hb3'⟩
    have ho3 := hh3.own
    clear hh3
    have hb3 : Since w0 w4 := Since.trans hb2 hb3'
    replace ho1 := ho1.below hb3'
    replace ho2 := ho2.below hb3'
    go_wp2_with fail
    refine hK.out _ _ (hb3) (fun hHeld => ?_)
    clear hK K
    try simp only [Act.put, List.getElem_toArray, List.getElem_cons_succ, List.getElem_cons_zero, List.setIfInBounds_toArray, List.set_cons_zero, List.set_cons_succ]
    refine wpAnyH_ready (rs := [10]) (by kernel_rfl) (by simp) ?_
    refine AllReadyH.cons rfl (fun K hK => ?_) AllReadyH.nil
    go_simp
    refine (refNum_any _ _).mono ?_
    rintro e w5 ⟨v4, rfl, hn4, hb4'⟩
    obtain ⟨A4, n4, c4, rfl, hh4⟩ := hn4.has
    have ho4 := hh4.own
    clear hh4
    have hb4 : Since w0 w5 := Since.trans hb3 hb4'
    replace ho1 := ho1.below hb4'
    replace ho2 := ho2.below hb4'
    replace ho3 := ho3.below hb4'
    go_wp2_with fail
    refine hK.out _ _ (hb4) (fun hHeld => ?_)
    clear hK K
    try simp only [Act.put, List.getElem_toArray, List.getElem_cons_succ, List.getElem_cons_zero, List.setIfInBounds_toArray, List.set_cons_zero, List.set_cons_succ]
    refine wpAnyH_ready (rs := [11]) (by kernel_rfl) (by simp) ?_
    refine AllReadyH.cons rfl (fun K hK => ?_) AllReadyH.nil
    go_simp
    skip
    refine hK.out _ _ (Since.alloc hb4 _) (fun hHeld => ?_)
    clear hK K
    try simp only [Act.put, List.getElem_toArray, List.getElem_cons_succ, List.getElem_cons_zero, List.setIfInBounds_toArray, List.set_cons_zero, List.set_cons_succ]
    have HVAns : Hid (∀ p ∈ ([(.slice A1 n1 c1, numL er), (.slice A2 n2 c2, numL 0), (.slice A3 n3 c3, textL val), (.slice A4 n4 c4, numL ver)] : List (Value × List UInt8)), ∃ B, Own (w5.alloc (.cells #[.slice A1 n1 c1, .slice A2 n2 c2, .slice A3 n3 c3, .slice A4 n4 c4] 38)) B p.1 p.2 ∧ p.2.length ≤ 10000) := by
      unfold Hid
      have hbd := HB.out
      simp only [List.mem_cons, List.not_mem_nil, or_false]
      rintro p (rfl | rfl | rfl | rfl)
      · exact ⟨_, Own.alloc ho1 _, show (numL er).length ≤ 10000 from Nat.le_trans (numL_len _) (by decide)⟩
      · exact ⟨_, Own.alloc ho2 _, show (numL 0).length ≤ 10000 from Nat.le_trans (numL_len _) (by decide)⟩
      · exact ⟨_, Own.alloc ho3 _, Nat.le_trans (textL_len (by omega)) (by decide)⟩
      · exact ⟨_, Own.alloc ho4 _, show (numL ver).length ≤ 10000 from Nat.le_trans (numL_len _) (by decide)⟩
    refine wpAnyH_ready (rs := [12]) (by kernel_rfl) (by simp) ?_
    refine AllReadyH.cons rfl (fun K hK => ?_) AllReadyH.nil
    go_simp
    refine (join_any (l := [(.slice A1 n1 c1, numL er), (.slice A2 n2 c2, numL 0), (.slice A3 n3 c3, textL val), (.slice A4 n4 c4, numL ver)]) (Whole.new w5 _ _) rfl rfl (show 4 ≤ 100 by decide) HVAns.out).mono ?_
    rintro e wj ⟨AJ, nJ, cJ, rfl, hhJ, hbJ⟩
    go_wp2_with fail
    refine hK.out _ _ (Since.trans (Since.alloc hb4 _) hbJ) (fun hHeld => ?_)
    clear hK K
    try simp only [Act.put, List.getElem_toArray, List.getElem_cons_succ, List.getElem_cons_zero, List.setIfInBounds_toArray, List.set_cons_zero, List.set_cons_succ]
    refine wpAnyH_take (i := 13) (v := ?_) rfl (by kernel_rfl) (by kernel_rfl) (by kernel_rfl) (fun _ _ _ h => h) (Or.inl ⟨by rfl, ?_⟩) (by assumption) ?_
    rotate_left 1
    · (intro W hW; clear hW; go_simp; try with_reducible rfl)
    simp only [Act.put, List.getElem_toArray, List.getElem_cons_succ, List.getElem_cons_zero, List.setIfInBounds_toArray, List.set_cons_zero, List.set_cons_succ]
    refine wpAnyH_done (by kernel_rfl) ?_ _
    go_wp2
    go_ret
    refine ⟨AJ, nJ, cJ, rfl, ?_, hs0.trans (Since.trans (Since.alloc hb4 _) hbJ)⟩
    have e : ([(.slice A1 n1 c1, numL er), (.slice A2 n2 c2, numL 0), (.slice A3 n3 c3, textL val), (.slice A4 n4 c4, numL ver)].flatMap fun p : Value × List UInt8 => p.2) = [er, 0].flatMap numL ++ [val].flatMap textL ++ [ver].flatMap numL := by simp
    rw [e] at hhJ
    exact hhJ.lower (Nat.le_trans hs0.size_ (Since.alloc hb4 _).size_)
end Go.Proofs.YtbgfjkgpekkciaaDoor
