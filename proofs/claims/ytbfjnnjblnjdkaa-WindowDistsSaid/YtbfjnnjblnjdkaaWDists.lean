/- The walk of the law WindowDists, by premises on the program. -/
import Derived.Test.YtbfjnnjblnjdkaaWKnows
import Derived.Test.YtbfjnnjblnjdkaaTBase
import Derived.Test.YtbfjnnjblnjdkaaTDist
import Derived.Deep.Cut
import Derived.Deep.CutRange
namespace Go.Proofs.Ytbfjnnjblnjdkaa
open Go.RowKit
set_option maxRecDepth 100000 in
set_option maxHeartbeats 6400000 in
theorem dists_walk (hP : PlainC) (hD : DistC) (k a b c d x y : Int) (w : World) : Calls Try.prog 6 #[.int .i64 k, .agg #[.int .i64 a, .int .i64 b, .int .i64 c, .int .i64 d], .agg #[.int .i64 x, .int .i64 y]] w fun z w' => z = .returned (.bool true) ∧ Below w.heap.size w w' := by
  have k1 := tmod_bd k 4 (by decide)
  have k2 := tmod_pos k 4 (by decide)
  obtain ⟨R, hR⟩ : ∃ R, k % 4 = R := ⟨_, rfl⟩
  have k3 : 0 ≤ R ∧ R < 4 := by omega
  rw [hR] at k2
  clear hR
  obtain ⟨K, hK⟩ : ∃ K, 1 + R = K := ⟨_, rfl⟩
  have hr : rgt K = true := by rw [rgt_iff]; omega
  have HR := Lib.hid hr
  have hwin := smW_win hr ⟨a, b, c, d⟩
  obtain ⟨⟨X, Y, U, T⟩, hsm⟩ : ∃ ρ, smW K ⟨a, b, c, d⟩ = ρ := ⟨_, rfl⟩
  rw [hsm] at hwin
  have SM := Lib.hid hsm
  have hw4 := (winR_iff _ _).1 hwin
  have hs16 : side K ≤ 16 := by
    rw [side_yes hr]
    exact Int.le_trans (p2_le (show K.toNat ≤ 4 by omega)) (by decide)
  have hse := sd_yes hr
  have hsp := sd_pos K
  dsimp only at hw4
  obtain ⟨CX, hCX⟩ : ∃ C, x % sd K = C := ⟨_, rfl⟩
  obtain ⟨CY, hCY⟩ : ∃ C, y % sd K = C := ⟨_, rfl⟩
  have cx0 := Int.emod_nonneg x (show sd K ≠ 0 by omega)
  have cx1 := Int.emod_lt_of_pos x hsp
  have cy0 := Int.emod_nonneg y (show sd K ≠ 0 by omega)
  have cy1 := Int.emod_lt_of_pos y hsp
  rw [hCX] at cx0 cx1
  rw [hCY] at cy0 cy1
  rw [hse] at cx1 cy1
  have HX := Lib.hid hCX
  have HY := Lib.hid hCY
  have hca : hasB K CX CY = true := (hasB_iff _ _ _).2 ⟨cx0, cx1, cy0, cy1⟩
  have m1 := min_ite U (side K - X)
  have m2 := min_ite T (side K - Y)
  obtain ⟨A, hA⟩ : ∃ A, min U (side K - X) = A := ⟨_, rfl⟩
  obtain ⟨B, hB⟩ : ∃ B, min T (side K - Y) = B := ⟨_, rfl⟩
  rw [hA] at m1
  rw [hB] at m2
  have hA4 : 0 ≤ A ∧ A ≤ side K - X := by omega
  have hB4 : 0 ≤ B ∧ B ≤ side K - Y := by omega
  have hrt : rightR K ⟨X, Y, A, B⟩ = true := by rw [rightR_iff]; dsimp only; omega
  have hbe := best_eq hrt hca
  dsimp only at hbe
  obtain ⟨F, hF⟩ : ∃ F : Nat → Int, (fun i : Nat => apart K CX (X + i)) = F := ⟨_, rfl⟩
  obtain ⟨G, hG⟩ : ∃ G : Nat → Int, (fun m : Nat => apart K CY (Y + m)) = G := ⟨_, rfl⟩
  obtain ⟨An, hAn⟩ : ∃ n, A.toNat = n := ⟨_, rfl⟩
  obtain ⟨Bn, hBn⟩ : ∃ n, B.toNat = n := ⟨_, rfl⟩
  rw [hF, hG, hAn, hBn] at hbe
  have hdist := Lib.hid (show ∀ p q : Nat, p < An → q < Bn → dist K CX CY (X + p) (Y + q) = F p + G q from fun p q hp hq => by
    rw [dist_eq hca ((hasB_iff _ _ _).2 (by omega)), ← hF, ← hG])
  have hdi := hD K X Y A B CX CY (by omega) (by omega)
  obtain ⟨Z, hZ⟩ : ∃ Z, distR K ⟨X, Y, A, B⟩ CX CY = Z := ⟨_, rfl⟩
  rw [hZ] at hbe hdi
  have hbest := Lib.hid hbe
  have hAb := Lib.hid (show An ≤ 16 by omega)
  have hBb := Lib.hid (show Bn ≤ 16 by omega)
  have hXY := Lib.hid (show (0 ≤ X ∧ X ≤ 16) ∧ 0 ≤ Y ∧ Y ≤ 16 by omega)
  have v1 : IntKind.i64.wrap (side K - X) = side K - X := IntWalk.i64_in _ (by omega)
  have v2 : IntKind.i64.wrap (side K - Y) = side K - Y := IntWalk.i64_in _ (by omega)
  obtain ⟨S, hS⟩ : ∃ S, side K = S := ⟨_, rfl⟩
  rw [hS] at m1 m2 v1 v2
  have HS := Lib.hid hS
  replace hAn := Lib.hid (show A = (An : Int) by omega)
  replace hBn := Lib.hid (show B = (Bn : Int) by omega)
  have hk := fun W => knows4 hP hD W
  clear hr hwin hsm hw4 hs16 hse hsp hCX hCY cx0 cx1 cy0 cy1 hca hA hB hA4 hB4 hrt hbe hF hG hZ hS hP hD
  obtain ⟨w0, hw0⟩ : ∃ w0, w0 = ((w.alloc (.cells #[.int .i64 a, .int .i64 b, .int .i64 c, .int .i64 d] 23)).alloc (.cells #[.int .i64 x, .int .i64 y] 27)).alloc (.cells #[.int .i64 K] 29) := ⟨_, rfl⟩
  have hs0 : Since w w0 := by rw [hw0]; exact (((Since.refl w).alloc _).alloc _).alloc _
  have wh0 : Whole w0 (w.heap.size) 23 #[.int .i64 a, .int .i64 b, .int .i64 c, .int .i64 d] := by rw [hw0]; exact ((Whole.new w _ _).alloc _).alloc _
  have wh1 : Whole w0 (w.heap.size + 1) 27 #[.int .i64 x, .int .i64 y] := by rw [hw0]; exact ((Whole.new (w.alloc _) _ _).alloc _).at_ (by simp)
  have wh2 : Whole w0 (w.heap.size + 1 + 1) 29 #[.int .i64 K] := by rw [hw0]; exact (Whole.new ((w.alloc _).alloc _) _ _).at_ (by simp)
  have HW := Lib.hid hw0
  have c0_0 := box_cell wh0 0 (.int .i64 a) rfl
  have c0_1 := box_cell wh0 1 (.int .i64 b) rfl
  have c0_2 := box_cell wh0 2 (.int .i64 c) rfl
  have c0_3 := box_cell wh0 3 (.int .i64 d) rfl
  have c1_0 := box_cell wh1 0 (.int .i64 x) rfl
  have c1_1 := box_cell wh1 1 (.int .i64 y) rfl
  have c2_0 := box_cell wh2 0 (.int .i64 K) rfl
  have hsr := Since.refl w0
  have hsd := hsr.drew
  clear hw0
  have br := wh0
  have bc := wh1
  have bt := wh2
  have hs : Since w w0 := hs0
  clear wh0 wh1 wh2 c0_0 c0_1 c0_2 c0_3 c1_0 c1_1 c2_0 hsr hsd hs0
  go_enter Try.func6, Try.ntmps6
  go_wp2_with fail
  rw [← HW.out]
  have t_bt0 := bt.cell 0
  have l_bt := bt.lt
  have t_bc0 := bc.cell 0
  have t_bc1 := bc.cell 1
  have l_bc := bc.lt
  go_wp2_with fail
  clear t_bt0 l_bt t_bc0 t_bc1 l_bc
  refine (wrap_at HX.out HY.out _).mono ?_
  rintro e w1 ⟨rfl, hb⟩
  replace br := Since.whole hb br
  replace bc := Since.whole hb bc
  replace bt := Since.whole hb bt
  replace hs := hs.trans hb
  clear hb
  have t_bt0 := bt.cell 0
  have l_bt := bt.lt
  have t_br0 := br.cell 0
  have t_br1 := br.cell 1
  have t_br2 := br.cell 2
  have t_br3 := br.cell 3
  have l_br := br.lt
  have f_bc0 := bc.frozen 0
  have f_bc1 := bc.frozen 1
  have t_bc0 := bc.cell 0
  have t_bc1 := bc.cell 1
  go_wp2_with fail
  clear t_bt0 l_bt t_br0 t_br1 t_br2 t_br3 l_br f_bc0 f_bc1 t_bc0 t_bc1
  refine Calls.named (fun w2 hw => ?_)
  replace br : Whole w2 (w.heap.size) 23 #[.int .i64 a, .int .i64 b, .int .i64 c, .int .i64 d] := (((br).far (p := ⟨w.heap.size + 1, 0, none⟩) (by simp; try omega) _).far (p := ⟨w.heap.size + 1, 1, none⟩) (by simp; try omega) _).named hw
  replace bc : Whole w2 (w.heap.size + 1) 27 #[.int .i64 CX, .int .i64 CY] := (((bc).set_ 0 _).set_ 1 _).named hw
  replace bt : Whole w2 (w.heap.size + 1 + 1) 29 #[.int .i64 K] := (((bt).far (p := ⟨w.heap.size + 1, 0, none⟩) (by simp; try omega) _).far (p := ⟨w.heap.size + 1, 1, none⟩) (by simp; try omega) _).named hw
  replace hs : Since w w2 := Since.named (((hs).setCell (p := ⟨w.heap.size + 1, 0, none⟩) (by simp; try omega) _).setCell (p := ⟨w.heap.size + 1, 1, none⟩) (by simp; try omega) _) hw
  clear hw
  refine (some4_at _ HR.out SM.out).mono ?_
  rintro e w3 ⟨rfl, hb⟩
  replace br := Since.whole hb br
  replace bc := Since.whole hb bc
  replace bt := Since.whole hb bt
  replace hs := hs.trans hb
  clear hb
  go_upto_region 5 with fail
  have u_hs := Since.size_ hs
  have u_br := br.lt
  have u_bc := bc.lt
  have u_bt := bt.lt
  obtain ⟨w4, hw⟩ : ∃ w', w' = w3.alloc (.cells #[.int .i64 X, .int .i64 Y, .int .i64 U, .int .i64 T] 34) := ⟨_, rfl⟩
  rw [← hw]
  replace br := (br.alloc (.cells #[.int .i64 X, .int .i64 Y, .int .i64 U, .int .i64 T] 34)).named hw
  replace bc := (bc.alloc (.cells #[.int .i64 X, .int .i64 Y, .int .i64 U, .int .i64 T] 34)).named hw
  replace bt := (bt.alloc (.cells #[.int .i64 X, .int .i64 Y, .int .i64 U, .int .i64 T] 34)).named hw
  replace hs : Since w w4 := Since.named (hs.alloc (.cells #[.int .i64 X, .int .i64 Y, .int .i64 U, .int .i64 T] 34)) hw
  have bw : Whole w4 w3.heap.size 34 #[.int .i64 X, .int .i64 Y, .int .i64 U, .int .i64 T] := (Whole.new w3 _ _).named hw
  obtain ⟨g_bw, hg⟩ : ∃ g, g = w3.heap.size := ⟨_, rfl⟩
  rw [← hg] at bw ⊢
  have n_bw_br : g_bw ≠ w.heap.size := by omega
  have m_bw_br : w.heap.size ≠ g_bw := by omega
  have n_bw_bc : g_bw ≠ w.heap.size + 1 := by omega
  have m_bw_bc : w.heap.size + 1 ≠ g_bw := by omega
  have n_bw_bt : g_bw ≠ w.heap.size + 1 + 1 := by omega
  have m_bw_bt : w.heap.size + 1 + 1 ≠ g_bw := by omega
  have ge_bw : w.heap.size ≤ g_bw := by omega
  clear u_hs u_br u_bc u_bt
  clear hw hg
  have hgw := ge_bw
  have e_bt := but_cell bt (g := g_bw) (by omega) 0 _ rfl
  have e_bw0 := box_cell bw 0 _ rfl
  have e_bw1 := box_cell bw 1 _ rfl
  have e_bw2 := box_cell bw 2 _ rfl
  have e_bw3 := box_cell bw 3 _ rfl
  have f_bw0 := box_free bw 0
  have f_bw1 := box_free bw 1
  have f_bw2 := box_free bw 2
  have f_bw3 := box_free bw 3
  have hsr := Since.refl w4
  have hsd := hsr.drew
  go_cut [] from 29 to 37 (fun wx => Whole wx g_bw 34 #[.int .i64 X, .int .i64 Y, .int .i64 A, .int .i64 T] ∧ Whole wx (w.heap.size + 1) 27 #[.int .i64 CX, .int .i64 CY] ∧ Whole wx (w.heap.size + 1 + 1) 29 #[.int .i64 K] ∧ Since w wx)
  case first =>
    obtain ⟨wq, hwq⟩ : ∃ wq, wq = w4.drew := ⟨_, rfl⟩
    refine wp_region_held_drew (S := fun W => But g_bw w4 W) (by kernel_rfl) (hsd.but _) (fun hHeld => ?_)
    have hq : Since w4 wq := hwq ▸ hsd
    rw [← hwq] at hHeld ⊢
    clear hwq hsd
    refine wpAnyH_take (i := 0) (v := ?_) rfl (by kernel_rfl) (by kernel_rfl) (by kernel_rfl) (fun _ _ _ h => h) (Or.inl ⟨by rfl, ?_⟩) (by assumption) ?_
    rotate_left 1
    · (intro W hW; clear hW; go_simp; try with_reducible rfl)
    simp only [Act.put, List.getElem_toArray, List.getElem_cons_zero, List.setIfInBounds_toArray, List.set_cons_zero, List.set_cons_succ]
    refine wpAnyH_take (i := 2) (v := ?_) rfl (by kernel_rfl) (by kernel_rfl) (by kernel_rfl) (fun _ _ _ h => h) (Or.inl ⟨by rfl, ?_⟩) (by assumption) ?_
    rotate_left 1
    · (intro W hW; skip; go_simp; try with_reducible rfl)
    simp only [Act.put, List.getElem_toArray, List.getElem_cons_succ, List.getElem_cons_zero, List.setIfInBounds_toArray, List.set_cons_zero, List.set_cons_succ]
    refine wpAnyH_take (i := 4) (v := ?_) rfl (by kernel_rfl) (by kernel_rfl) (by kernel_rfl) (fun _ _ _ h => h) (Or.inl ⟨by rfl, ?_⟩) (by assumption) ?_
    rotate_left 1
    · (intro W hW; clear hW; go_simp; try with_reducible rfl)
    simp only [Act.put, List.getElem_toArray, List.getElem_cons_succ, List.getElem_cons_zero, List.setIfInBounds_toArray, List.set_cons_zero, List.set_cons_succ]
    refine wpAnyH_ready (rs := [1, 3, 5]) (by kernel_rfl) (by simp) ?_
    refine AllReadyH.cons rfl (fun K hK => ?_) (AllReadyH.cons rfl (fun K hK => ?_) (AllReadyH.cons rfl (fun K hK => ?_) AllReadyH.nil))
    · go_simp
      skip
      refine hK.out _ _ (hq.but _) (fun hHeld => ?_)
      clear hK K
      try simp only [Act.put, List.getElem_toArray, List.getElem_cons_succ, List.getElem_cons_zero, List.setIfInBounds_toArray, List.set_cons_zero, List.set_cons_succ]
      refine wpAnyH_ready (rs := [3, 5]) (by kernel_rfl) (by simp) ?_
      refine AllReadyH.cons rfl (fun K hK => ?_) (AllReadyH.cons rfl (fun K hK => ?_) AllReadyH.nil)
      · go_simp
        refine (Calls.since hq (side_at HS.out _)).mono ?_
        rintro e w2 ⟨rfl, hb2⟩
        go_wp2_with fail
        refine hK.out _ _ (hb2.but _) (fun hHeld => ?_)
        clear hK K
        try simp only [Act.put, List.getElem_toArray, List.getElem_cons_succ, List.getElem_cons_zero, List.setIfInBounds_toArray, List.set_cons_zero, List.set_cons_succ]
        refine wpAnyH_ready (rs := [5]) (by kernel_rfl) (by simp) ?_
        refine AllReadyH.cons rfl (fun K hK => ?_) AllReadyH.nil
        go_simp
        skip
        refine hK.out _ _ (hb2.but _) (fun hHeld => ?_)
        clear hK K
        try simp only [Act.put, List.getElem_toArray, List.getElem_cons_succ, List.getElem_cons_zero, List.setIfInBounds_toArray, List.set_cons_zero, List.set_cons_succ]
        refine wpAnyH_take (i := 6) (v := ?_) rfl (by kernel_rfl) (by kernel_rfl) (by kernel_rfl) (fun _ _ _ h => h) (Or.inl ⟨by rfl, ?_⟩) (by assumption) ?_
        rotate_left 1
        · (intro W hW; clear hW; go_simp; try with_reducible rfl)
        simp only [Act.put, List.getElem_toArray, List.getElem_cons_succ, List.getElem_cons_zero, List.setIfInBounds_toArray, List.set_cons_zero, List.set_cons_succ]
        refine wpAnyH_take (i := 7) (v := ?_) rfl (by kernel_rfl) (by kernel_rfl) (by kernel_rfl) (fun _ _ _ h => h) (Or.inl ⟨by rfl, ?_⟩) (by assumption) ?_
        rotate_left 1
        · (intro W hW; clear hW; go_simp; try with_reducible rfl)
        simp only [Act.put, List.getElem_toArray, List.getElem_cons_succ, List.getElem_cons_zero, List.setIfInBounds_toArray, List.set_cons_zero, List.set_cons_succ]
        refine wpAnyH_take (i := 8) (v := ?_) rfl (by kernel_rfl) (by kernel_rfl) (by kernel_rfl) (fun _ _ _ h => h) (Or.inl ⟨by rfl, ?_⟩) (by assumption) ?_
        rotate_left 1
        · (intro W hW; clear hW; go_simp; try with_reducible rfl)
        simp only [Act.put, List.getElem_toArray, List.getElem_cons_succ, List.getElem_cons_zero, List.setIfInBounds_toArray, List.set_cons_zero, List.set_cons_succ]
        refine wpAnyH_ready (rs := [9]) (by kernel_rfl) (by simp) ?_
        refine AllReadyH.cons rfl (fun K hK => ?_) AllReadyH.nil
        go_simp
        skip
        refine hK.out _ _ (But.set1 hb2 2 _) (fun hHeld => ?_)
        clear hK K
        try simp only [Act.put, List.getElem_toArray, List.getElem_cons_succ, List.getElem_cons_zero, List.setIfInBounds_toArray, List.set_cons_zero, List.set_cons_succ]
        refine wpAnyH_done (by kernel_rfl) ?_ _
        go_wp2_with fail
        go_meet
        case rel => exact ⟨(Since.whole hb2 bw).set_ 2 _, (Since.whole hb2 bc).far (p := ⟨g_bw, 2, none⟩) m_bw_bc _, (Since.whole hb2 bt).far (p := ⟨g_bw, 2, none⟩) m_bw_bt _, (hs.trans hb2).setCell (p := ⟨g_bw, 2, none⟩) hgw _⟩
      · go_simp
        skip
        refine hK.out _ _ (hq.but _) (fun hHeld => ?_)
        clear hK K
        try simp only [Act.put, List.getElem_toArray, List.getElem_cons_succ, List.getElem_cons_zero, List.setIfInBounds_toArray, List.set_cons_zero, List.set_cons_succ]
        refine wpAnyH_ready (rs := [3]) (by kernel_rfl) (by simp) ?_
        refine AllReadyH.cons rfl (fun K hK => ?_) AllReadyH.nil
        go_simp
        refine (Calls.since hq (side_at HS.out _)).mono ?_
        rintro e w2 ⟨rfl, hb2⟩
        go_wp2_with fail
        refine hK.out _ _ (hb2.but _) (fun hHeld => ?_)
        clear hK K
        try simp only [Act.put, List.getElem_toArray, List.getElem_cons_succ, List.getElem_cons_zero, List.setIfInBounds_toArray, List.set_cons_zero, List.set_cons_succ]
        refine wpAnyH_take (i := 6) (v := ?_) rfl (by kernel_rfl) (by kernel_rfl) (by kernel_rfl) (fun _ _ _ h => h) (Or.inl ⟨by rfl, ?_⟩) (by assumption) ?_
        rotate_left 1
        · (intro W hW; clear hW; go_simp; try with_reducible rfl)
        simp only [Act.put, List.getElem_toArray, List.getElem_cons_succ, List.getElem_cons_zero, List.setIfInBounds_toArray, List.set_cons_zero, List.set_cons_succ]
        refine wpAnyH_take (i := 7) (v := ?_) rfl (by kernel_rfl) (by kernel_rfl) (by kernel_rfl) (fun _ _ _ h => h) (Or.inl ⟨by rfl, ?_⟩) (by assumption) ?_
        rotate_left 1
        · (intro W hW; clear hW; go_simp; try with_reducible rfl)
        simp only [Act.put, List.getElem_toArray, List.getElem_cons_succ, List.getElem_cons_zero, List.setIfInBounds_toArray, List.set_cons_zero, List.set_cons_succ]
        refine wpAnyH_take (i := 8) (v := ?_) rfl (by kernel_rfl) (by kernel_rfl) (by kernel_rfl) (fun _ _ _ h => h) (Or.inl ⟨by rfl, ?_⟩) (by assumption) ?_
        rotate_left 1
        · (intro W hW; clear hW; go_simp; try with_reducible rfl)
        simp only [Act.put, List.getElem_toArray, List.getElem_cons_succ, List.getElem_cons_zero, List.setIfInBounds_toArray, List.set_cons_zero, List.set_cons_succ]
        refine wpAnyH_ready (rs := [9]) (by kernel_rfl) (by simp) ?_
        refine AllReadyH.cons rfl (fun K hK => ?_) AllReadyH.nil
        go_simp
        skip
        refine hK.out _ _ (But.set1 hb2 2 _) (fun hHeld => ?_)
        clear hK K
        try simp only [Act.put, List.getElem_toArray, List.getElem_cons_succ, List.getElem_cons_zero, List.setIfInBounds_toArray, List.set_cons_zero, List.set_cons_succ]
        refine wpAnyH_done (by kernel_rfl) ?_ _
        go_wp2_with fail
        go_meet
        case rel => exact ⟨(Since.whole hb2 bw).set_ 2 _, (Since.whole hb2 bc).far (p := ⟨g_bw, 2, none⟩) m_bw_bc _, (Since.whole hb2 bt).far (p := ⟨g_bw, 2, none⟩) m_bw_bt _, (hs.trans hb2).setCell (p := ⟨g_bw, 2, none⟩) hgw _⟩
    · go_simp
      refine (Calls.since hq (side_at HS.out _)).mono ?_
      rintro e w2 ⟨rfl, hb2⟩
      go_wp2_with fail
      refine hK.out _ _ (hb2.but _) (fun hHeld => ?_)
      clear hK K
      try simp only [Act.put, List.getElem_toArray, List.getElem_cons_succ, List.getElem_cons_zero, List.setIfInBounds_toArray, List.set_cons_zero, List.set_cons_succ]
      refine wpAnyH_ready (rs := [1, 5]) (by kernel_rfl) (by simp) ?_
      refine AllReadyH.cons rfl (fun K hK => ?_) (AllReadyH.cons rfl (fun K hK => ?_) AllReadyH.nil)
      · go_simp
        skip
        refine hK.out _ _ (hb2.but _) (fun hHeld => ?_)
        clear hK K
        try simp only [Act.put, List.getElem_toArray, List.getElem_cons_succ, List.getElem_cons_zero, List.setIfInBounds_toArray, List.set_cons_zero, List.set_cons_succ]
        refine wpAnyH_ready (rs := [5]) (by kernel_rfl) (by simp) ?_
        refine AllReadyH.cons rfl (fun K hK => ?_) AllReadyH.nil
        go_simp
        skip
        refine hK.out _ _ (hb2.but _) (fun hHeld => ?_)
        clear hK K
        try simp only [Act.put, List.getElem_toArray, List.getElem_cons_succ, List.getElem_cons_zero, List.setIfInBounds_toArray, List.set_cons_zero, List.set_cons_succ]
        refine wpAnyH_take (i := 6) (v := ?_) rfl (by kernel_rfl) (by kernel_rfl) (by kernel_rfl) (fun _ _ _ h => h) (Or.inl ⟨by rfl, ?_⟩) (by assumption) ?_
        rotate_left 1
        · (intro W hW; clear hW; go_simp; try with_reducible rfl)
        simp only [Act.put, List.getElem_toArray, List.getElem_cons_succ, List.getElem_cons_zero, List.setIfInBounds_toArray, List.set_cons_zero, List.set_cons_succ]
        refine wpAnyH_take (i := 7) (v := ?_) rfl (by kernel_rfl) (by kernel_rfl) (by kernel_rfl) (fun _ _ _ h => h) (Or.inl ⟨by rfl, ?_⟩) (by assumption) ?_
        rotate_left 1
        · (intro W hW; clear hW; go_simp; try with_reducible rfl)
        simp only [Act.put, List.getElem_toArray, List.getElem_cons_succ, List.getElem_cons_zero, List.setIfInBounds_toArray, List.set_cons_zero, List.set_cons_succ]
        refine wpAnyH_take (i := 8) (v := ?_) rfl (by kernel_rfl) (by kernel_rfl) (by kernel_rfl) (fun _ _ _ h => h) (Or.inl ⟨by rfl, ?_⟩) (by assumption) ?_
        rotate_left 1
        · (intro W hW; clear hW; go_simp; try with_reducible rfl)
        simp only [Act.put, List.getElem_toArray, List.getElem_cons_succ, List.getElem_cons_zero, List.setIfInBounds_toArray, List.set_cons_zero, List.set_cons_succ]
        refine wpAnyH_ready (rs := [9]) (by kernel_rfl) (by simp) ?_
        refine AllReadyH.cons rfl (fun K hK => ?_) AllReadyH.nil
        go_simp
        skip
        refine hK.out _ _ (But.set1 hb2 2 _) (fun hHeld => ?_)
        clear hK K
        try simp only [Act.put, List.getElem_toArray, List.getElem_cons_succ, List.getElem_cons_zero, List.setIfInBounds_toArray, List.set_cons_zero, List.set_cons_succ]
        refine wpAnyH_done (by kernel_rfl) ?_ _
        go_wp2_with fail
        go_meet
        case rel => exact ⟨(Since.whole hb2 bw).set_ 2 _, (Since.whole hb2 bc).far (p := ⟨g_bw, 2, none⟩) m_bw_bc _, (Since.whole hb2 bt).far (p := ⟨g_bw, 2, none⟩) m_bw_bt _, (hs.trans hb2).setCell (p := ⟨g_bw, 2, none⟩) hgw _⟩
      · go_simp
        skip
        refine hK.out _ _ (hb2.but _) (fun hHeld => ?_)
        clear hK K
        try simp only [Act.put, List.getElem_toArray, List.getElem_cons_succ, List.getElem_cons_zero, List.setIfInBounds_toArray, List.set_cons_zero, List.set_cons_succ]
        refine wpAnyH_take (i := 6) (v := ?_) rfl (by kernel_rfl) (by kernel_rfl) (by kernel_rfl) (fun _ _ _ h => h) (Or.inl ⟨by rfl, ?_⟩) (by assumption) ?_
        rotate_left 1
        · (intro W hW; clear hW; go_simp; try with_reducible rfl)
        simp only [Act.put, List.getElem_toArray, List.getElem_cons_succ, List.getElem_cons_zero, List.setIfInBounds_toArray, List.set_cons_zero, List.set_cons_succ]
        refine wpAnyH_ready (rs := [1]) (by kernel_rfl) (by simp) ?_
        refine AllReadyH.cons rfl (fun K hK => ?_) AllReadyH.nil
        go_simp
        skip
        refine hK.out _ _ (hb2.but _) (fun hHeld => ?_)
        clear hK K
        try simp only [Act.put, List.getElem_toArray, List.getElem_cons_succ, List.getElem_cons_zero, List.setIfInBounds_toArray, List.set_cons_zero, List.set_cons_succ]
        refine wpAnyH_take (i := 7) (v := ?_) rfl (by kernel_rfl) (by kernel_rfl) (by kernel_rfl) (fun _ _ _ h => h) (Or.inl ⟨by rfl, ?_⟩) (by assumption) ?_
        rotate_left 1
        · (intro W hW; clear hW; go_simp; try with_reducible rfl)
        simp only [Act.put, List.getElem_toArray, List.getElem_cons_succ, List.getElem_cons_zero, List.setIfInBounds_toArray, List.set_cons_zero, List.set_cons_succ]
        refine wpAnyH_take (i := 8) (v := ?_) rfl (by kernel_rfl) (by kernel_rfl) (by kernel_rfl) (fun _ _ _ h => h) (Or.inl ⟨by rfl, ?_⟩) (by assumption) ?_
        rotate_left 1
        · (intro W hW; clear hW; go_simp; try with_reducible rfl)
        simp only [Act.put, List.getElem_toArray, List.getElem_cons_succ, List.getElem_cons_zero, List.setIfInBounds_toArray, List.set_cons_zero, List.set_cons_succ]
        refine wpAnyH_ready (rs := [9]) (by kernel_rfl) (by simp) ?_
        refine AllReadyH.cons rfl (fun K hK => ?_) AllReadyH.nil
        go_simp
        skip
        refine hK.out _ _ (But.set1 hb2 2 _) (fun hHeld => ?_)
        clear hK K
        try simp only [Act.put, List.getElem_toArray, List.getElem_cons_succ, List.getElem_cons_zero, List.setIfInBounds_toArray, List.set_cons_zero, List.set_cons_succ]
        refine wpAnyH_done (by kernel_rfl) ?_ _
        go_wp2_with fail
        go_meet
        case rel => exact ⟨(Since.whole hb2 bw).set_ 2 _, (Since.whole hb2 bc).far (p := ⟨g_bw, 2, none⟩) m_bw_bc _, (Since.whole hb2 bt).far (p := ⟨g_bw, 2, none⟩) m_bw_bt _, (hs.trans hb2).setCell (p := ⟨g_bw, 2, none⟩) hgw _⟩
    · go_simp
      skip
      refine hK.out _ _ (hq.but _) (fun hHeld => ?_)
      clear hK K
      try simp only [Act.put, List.getElem_toArray, List.getElem_cons_succ, List.getElem_cons_zero, List.setIfInBounds_toArray, List.set_cons_zero, List.set_cons_succ]
      refine wpAnyH_ready (rs := [1, 3]) (by kernel_rfl) (by simp) ?_
      refine AllReadyH.cons rfl (fun K hK => ?_) (AllReadyH.cons rfl (fun K hK => ?_) AllReadyH.nil)
      · go_simp
        skip
        refine hK.out _ _ (hq.but _) (fun hHeld => ?_)
        clear hK K
        try simp only [Act.put, List.getElem_toArray, List.getElem_cons_succ, List.getElem_cons_zero, List.setIfInBounds_toArray, List.set_cons_zero, List.set_cons_succ]
        refine wpAnyH_ready (rs := [3]) (by kernel_rfl) (by simp) ?_
        refine AllReadyH.cons rfl (fun K hK => ?_) AllReadyH.nil
        go_simp
        refine (Calls.since hq (side_at HS.out _)).mono ?_
        rintro e w2 ⟨rfl, hb2⟩
        go_wp2_with fail
        refine hK.out _ _ (hb2.but _) (fun hHeld => ?_)
        clear hK K
        try simp only [Act.put, List.getElem_toArray, List.getElem_cons_succ, List.getElem_cons_zero, List.setIfInBounds_toArray, List.set_cons_zero, List.set_cons_succ]
        refine wpAnyH_take (i := 6) (v := ?_) rfl (by kernel_rfl) (by kernel_rfl) (by kernel_rfl) (fun _ _ _ h => h) (Or.inl ⟨by rfl, ?_⟩) (by assumption) ?_
        rotate_left 1
        · (intro W hW; clear hW; go_simp; try with_reducible rfl)
        simp only [Act.put, List.getElem_toArray, List.getElem_cons_succ, List.getElem_cons_zero, List.setIfInBounds_toArray, List.set_cons_zero, List.set_cons_succ]
        refine wpAnyH_take (i := 7) (v := ?_) rfl (by kernel_rfl) (by kernel_rfl) (by kernel_rfl) (fun _ _ _ h => h) (Or.inl ⟨by rfl, ?_⟩) (by assumption) ?_
        rotate_left 1
        · (intro W hW; clear hW; go_simp; try with_reducible rfl)
        simp only [Act.put, List.getElem_toArray, List.getElem_cons_succ, List.getElem_cons_zero, List.setIfInBounds_toArray, List.set_cons_zero, List.set_cons_succ]
        refine wpAnyH_take (i := 8) (v := ?_) rfl (by kernel_rfl) (by kernel_rfl) (by kernel_rfl) (fun _ _ _ h => h) (Or.inl ⟨by rfl, ?_⟩) (by assumption) ?_
        rotate_left 1
        · (intro W hW; clear hW; go_simp; try with_reducible rfl)
        simp only [Act.put, List.getElem_toArray, List.getElem_cons_succ, List.getElem_cons_zero, List.setIfInBounds_toArray, List.set_cons_zero, List.set_cons_succ]
        refine wpAnyH_ready (rs := [9]) (by kernel_rfl) (by simp) ?_
        refine AllReadyH.cons rfl (fun K hK => ?_) AllReadyH.nil
        go_simp
        skip
        refine hK.out _ _ (But.set1 hb2 2 _) (fun hHeld => ?_)
        clear hK K
        try simp only [Act.put, List.getElem_toArray, List.getElem_cons_succ, List.getElem_cons_zero, List.setIfInBounds_toArray, List.set_cons_zero, List.set_cons_succ]
        refine wpAnyH_done (by kernel_rfl) ?_ _
        go_wp2_with fail
        go_meet
        case rel => exact ⟨(Since.whole hb2 bw).set_ 2 _, (Since.whole hb2 bc).far (p := ⟨g_bw, 2, none⟩) m_bw_bc _, (Since.whole hb2 bt).far (p := ⟨g_bw, 2, none⟩) m_bw_bt _, (hs.trans hb2).setCell (p := ⟨g_bw, 2, none⟩) hgw _⟩
      · go_simp
        refine (Calls.since hq (side_at HS.out _)).mono ?_
        rintro e w2 ⟨rfl, hb2⟩
        go_wp2_with fail
        refine hK.out _ _ (hb2.but _) (fun hHeld => ?_)
        clear hK K
        try simp only [Act.put, List.getElem_toArray, List.getElem_cons_succ, List.getElem_cons_zero, List.setIfInBounds_toArray, List.set_cons_zero, List.set_cons_succ]
        refine wpAnyH_take (i := 6) (v := ?_) rfl (by kernel_rfl) (by kernel_rfl) (by kernel_rfl) (fun _ _ _ h => h) (Or.inl ⟨by rfl, ?_⟩) (by assumption) ?_
        rotate_left 1
        · (intro W hW; clear hW; go_simp; try with_reducible rfl)
        simp only [Act.put, List.getElem_toArray, List.getElem_cons_succ, List.getElem_cons_zero, List.setIfInBounds_toArray, List.set_cons_zero, List.set_cons_succ]
        refine wpAnyH_ready (rs := [1]) (by kernel_rfl) (by simp) ?_
        refine AllReadyH.cons rfl (fun K hK => ?_) AllReadyH.nil
        go_simp
        skip
        refine hK.out _ _ (hb2.but _) (fun hHeld => ?_)
        clear hK K
        try simp only [Act.put, List.getElem_toArray, List.getElem_cons_succ, List.getElem_cons_zero, List.setIfInBounds_toArray, List.set_cons_zero, List.set_cons_succ]
        refine wpAnyH_take (i := 7) (v := ?_) rfl (by kernel_rfl) (by kernel_rfl) (by kernel_rfl) (fun _ _ _ h => h) (Or.inl ⟨by rfl, ?_⟩) (by assumption) ?_
        rotate_left 1
        · (intro W hW; clear hW; go_simp; try with_reducible rfl)
        simp only [Act.put, List.getElem_toArray, List.getElem_cons_succ, List.getElem_cons_zero, List.setIfInBounds_toArray, List.set_cons_zero, List.set_cons_succ]
        refine wpAnyH_take (i := 8) (v := ?_) rfl (by kernel_rfl) (by kernel_rfl) (by kernel_rfl) (fun _ _ _ h => h) (Or.inl ⟨by rfl, ?_⟩) (by assumption) ?_
        rotate_left 1
        · (intro W hW; clear hW; go_simp; try with_reducible rfl)
        simp only [Act.put, List.getElem_toArray, List.getElem_cons_succ, List.getElem_cons_zero, List.setIfInBounds_toArray, List.set_cons_zero, List.set_cons_succ]
        refine wpAnyH_ready (rs := [9]) (by kernel_rfl) (by simp) ?_
        refine AllReadyH.cons rfl (fun K hK => ?_) AllReadyH.nil
        go_simp
        skip
        refine hK.out _ _ (But.set1 hb2 2 _) (fun hHeld => ?_)
        clear hK K
        try simp only [Act.put, List.getElem_toArray, List.getElem_cons_succ, List.getElem_cons_zero, List.setIfInBounds_toArray, List.set_cons_zero, List.set_cons_succ]
        refine wpAnyH_done (by kernel_rfl) ?_ _
        go_wp2_with fail
        go_meet
        case rel => exact ⟨(Since.whole hb2 bw).set_ 2 _, (Since.whole hb2 bc).far (p := ⟨g_bw, 2, none⟩) m_bw_bc _, (Since.whole hb2 bt).far (p := ⟨g_bw, 2, none⟩) m_bw_bt _, (hs.trans hb2).setCell (p := ⟨g_bw, 2, none⟩) hgw _⟩
  case rest =>
    clear  e_bt e_bw0 e_bw1 e_bw2 e_bw3 f_bw0 f_bw1 f_bw2 f_bw3 hsr hsd br bc bt bw hs
    obtain ⟨w5, hw5⟩ : ∃ w', w' = wc := ⟨_, rfl⟩
    rw [← hw5] at hcut ⊢
    clear hw5
    obtain ⟨bw, bc, bt, hs⟩ := hcut
    go_upto_region 6 with fail
    have e_bt := but_cell bt (g := g_bw) (by omega) 0 _ rfl
    have e_bw0 := box_cell bw 0 _ rfl
    have e_bw1 := box_cell bw 1 _ rfl
    have e_bw2 := box_cell bw 2 _ rfl
    have e_bw3 := box_cell bw 3 _ rfl
    have f_bw0 := box_free bw 0
    have f_bw1 := box_free bw 1
    have f_bw2 := box_free bw 2
    have f_bw3 := box_free bw 3
    have hsr := Since.refl w5
    have hsd := hsr.drew
    go_cut [] from 38 to 46 (fun wx => Whole wx g_bw 34 #[.int .i64 X, .int .i64 Y, .int .i64 A, .int .i64 B] ∧ Whole wx (w.heap.size + 1) 27 #[.int .i64 CX, .int .i64 CY] ∧ Whole wx (w.heap.size + 1 + 1) 29 #[.int .i64 K] ∧ Since w wx)
    case first =>
      obtain ⟨wq, hwq⟩ : ∃ wq, wq = w5.drew := ⟨_, rfl⟩
      refine wp_region_held_drew (S := fun W => But g_bw w5 W) (by kernel_rfl) (hsd.but _) (fun hHeld => ?_)
      have hq : Since w5 wq := hwq ▸ hsd
      rw [← hwq] at hHeld ⊢
      clear hwq hsd
      refine wpAnyH_take (i := 0) (v := ?_) rfl (by kernel_rfl) (by kernel_rfl) (by kernel_rfl) (fun _ _ _ h => h) (Or.inl ⟨by rfl, ?_⟩) (by assumption) ?_
      rotate_left 1
      · (intro W hW; clear hW; go_simp; try with_reducible rfl)
      simp only [Act.put, List.getElem_toArray, List.getElem_cons_zero, List.setIfInBounds_toArray, List.set_cons_zero, List.set_cons_succ]
      refine wpAnyH_take (i := 2) (v := ?_) rfl (by kernel_rfl) (by kernel_rfl) (by kernel_rfl) (fun _ _ _ h => h) (Or.inl ⟨by rfl, ?_⟩) (by assumption) ?_
      rotate_left 1
      · (intro W hW; skip; go_simp; try with_reducible rfl)
      simp only [Act.put, List.getElem_toArray, List.getElem_cons_succ, List.getElem_cons_zero, List.setIfInBounds_toArray, List.set_cons_zero, List.set_cons_succ]
      refine wpAnyH_take (i := 4) (v := ?_) rfl (by kernel_rfl) (by kernel_rfl) (by kernel_rfl) (fun _ _ _ h => h) (Or.inl ⟨by rfl, ?_⟩) (by assumption) ?_
      rotate_left 1
      · (intro W hW; clear hW; go_simp; try with_reducible rfl)
      simp only [Act.put, List.getElem_toArray, List.getElem_cons_succ, List.getElem_cons_zero, List.setIfInBounds_toArray, List.set_cons_zero, List.set_cons_succ]
      refine wpAnyH_ready (rs := [1, 3, 5]) (by kernel_rfl) (by simp) ?_
      refine AllReadyH.cons rfl (fun K hK => ?_) (AllReadyH.cons rfl (fun K hK => ?_) (AllReadyH.cons rfl (fun K hK => ?_) AllReadyH.nil))
      · go_simp
        skip
        refine hK.out _ _ (hq.but _) (fun hHeld => ?_)
        clear hK K
        try simp only [Act.put, List.getElem_toArray, List.getElem_cons_succ, List.getElem_cons_zero, List.setIfInBounds_toArray, List.set_cons_zero, List.set_cons_succ]
        refine wpAnyH_ready (rs := [3, 5]) (by kernel_rfl) (by simp) ?_
        refine AllReadyH.cons rfl (fun K hK => ?_) (AllReadyH.cons rfl (fun K hK => ?_) AllReadyH.nil)
        · go_simp
          refine (Calls.since hq (side_at HS.out _)).mono ?_
          rintro e w2 ⟨rfl, hb2⟩
          go_wp2_with fail
          refine hK.out _ _ (hb2.but _) (fun hHeld => ?_)
          clear hK K
          try simp only [Act.put, List.getElem_toArray, List.getElem_cons_succ, List.getElem_cons_zero, List.setIfInBounds_toArray, List.set_cons_zero, List.set_cons_succ]
          refine wpAnyH_ready (rs := [5]) (by kernel_rfl) (by simp) ?_
          refine AllReadyH.cons rfl (fun K hK => ?_) AllReadyH.nil
          go_simp
          skip
          refine hK.out _ _ (hb2.but _) (fun hHeld => ?_)
          clear hK K
          try simp only [Act.put, List.getElem_toArray, List.getElem_cons_succ, List.getElem_cons_zero, List.setIfInBounds_toArray, List.set_cons_zero, List.set_cons_succ]
          refine wpAnyH_take (i := 6) (v := ?_) rfl (by kernel_rfl) (by kernel_rfl) (by kernel_rfl) (fun _ _ _ h => h) (Or.inl ⟨by rfl, ?_⟩) (by assumption) ?_
          rotate_left 1
          · (intro W hW; clear hW; go_simp; try with_reducible rfl)
          simp only [Act.put, List.getElem_toArray, List.getElem_cons_succ, List.getElem_cons_zero, List.setIfInBounds_toArray, List.set_cons_zero, List.set_cons_succ]
          refine wpAnyH_take (i := 7) (v := ?_) rfl (by kernel_rfl) (by kernel_rfl) (by kernel_rfl) (fun _ _ _ h => h) (Or.inl ⟨by rfl, ?_⟩) (by assumption) ?_
          rotate_left 1
          · (intro W hW; clear hW; go_simp; try with_reducible rfl)
          simp only [Act.put, List.getElem_toArray, List.getElem_cons_succ, List.getElem_cons_zero, List.setIfInBounds_toArray, List.set_cons_zero, List.set_cons_succ]
          refine wpAnyH_take (i := 8) (v := ?_) rfl (by kernel_rfl) (by kernel_rfl) (by kernel_rfl) (fun _ _ _ h => h) (Or.inl ⟨by rfl, ?_⟩) (by assumption) ?_
          rotate_left 1
          · (intro W hW; clear hW; go_simp; try with_reducible rfl)
          simp only [Act.put, List.getElem_toArray, List.getElem_cons_succ, List.getElem_cons_zero, List.setIfInBounds_toArray, List.set_cons_zero, List.set_cons_succ]
          refine wpAnyH_ready (rs := [9]) (by kernel_rfl) (by simp) ?_
          refine AllReadyH.cons rfl (fun K hK => ?_) AllReadyH.nil
          go_simp
          skip
          refine hK.out _ _ (But.set1 hb2 3 _) (fun hHeld => ?_)
          clear hK K
          try simp only [Act.put, List.getElem_toArray, List.getElem_cons_succ, List.getElem_cons_zero, List.setIfInBounds_toArray, List.set_cons_zero, List.set_cons_succ]
          refine wpAnyH_done (by kernel_rfl) ?_ _
          go_wp2_with fail
          go_meet
          case rel => exact ⟨(Since.whole hb2 bw).set_ 3 _, (Since.whole hb2 bc).far (p := ⟨g_bw, 3, none⟩) m_bw_bc _, (Since.whole hb2 bt).far (p := ⟨g_bw, 3, none⟩) m_bw_bt _, (hs.trans hb2).setCell (p := ⟨g_bw, 3, none⟩) hgw _⟩
        · go_simp
          skip
          refine hK.out _ _ (hq.but _) (fun hHeld => ?_)
          clear hK K
          try simp only [Act.put, List.getElem_toArray, List.getElem_cons_succ, List.getElem_cons_zero, List.setIfInBounds_toArray, List.set_cons_zero, List.set_cons_succ]
          refine wpAnyH_ready (rs := [3]) (by kernel_rfl) (by simp) ?_
          refine AllReadyH.cons rfl (fun K hK => ?_) AllReadyH.nil
          go_simp
          refine (Calls.since hq (side_at HS.out _)).mono ?_
          rintro e w2 ⟨rfl, hb2⟩
          go_wp2_with fail
          refine hK.out _ _ (hb2.but _) (fun hHeld => ?_)
          clear hK K
          try simp only [Act.put, List.getElem_toArray, List.getElem_cons_succ, List.getElem_cons_zero, List.setIfInBounds_toArray, List.set_cons_zero, List.set_cons_succ]
          refine wpAnyH_take (i := 6) (v := ?_) rfl (by kernel_rfl) (by kernel_rfl) (by kernel_rfl) (fun _ _ _ h => h) (Or.inl ⟨by rfl, ?_⟩) (by assumption) ?_
          rotate_left 1
          · (intro W hW; clear hW; go_simp; try with_reducible rfl)
          simp only [Act.put, List.getElem_toArray, List.getElem_cons_succ, List.getElem_cons_zero, List.setIfInBounds_toArray, List.set_cons_zero, List.set_cons_succ]
          refine wpAnyH_take (i := 7) (v := ?_) rfl (by kernel_rfl) (by kernel_rfl) (by kernel_rfl) (fun _ _ _ h => h) (Or.inl ⟨by rfl, ?_⟩) (by assumption) ?_
          rotate_left 1
          · (intro W hW; clear hW; go_simp; try with_reducible rfl)
          simp only [Act.put, List.getElem_toArray, List.getElem_cons_succ, List.getElem_cons_zero, List.setIfInBounds_toArray, List.set_cons_zero, List.set_cons_succ]
          refine wpAnyH_take (i := 8) (v := ?_) rfl (by kernel_rfl) (by kernel_rfl) (by kernel_rfl) (fun _ _ _ h => h) (Or.inl ⟨by rfl, ?_⟩) (by assumption) ?_
          rotate_left 1
          · (intro W hW; clear hW; go_simp; try with_reducible rfl)
          simp only [Act.put, List.getElem_toArray, List.getElem_cons_succ, List.getElem_cons_zero, List.setIfInBounds_toArray, List.set_cons_zero, List.set_cons_succ]
          refine wpAnyH_ready (rs := [9]) (by kernel_rfl) (by simp) ?_
          refine AllReadyH.cons rfl (fun K hK => ?_) AllReadyH.nil
          go_simp
          skip
          refine hK.out _ _ (But.set1 hb2 3 _) (fun hHeld => ?_)
          clear hK K
          try simp only [Act.put, List.getElem_toArray, List.getElem_cons_succ, List.getElem_cons_zero, List.setIfInBounds_toArray, List.set_cons_zero, List.set_cons_succ]
          refine wpAnyH_done (by kernel_rfl) ?_ _
          go_wp2_with fail
          go_meet
          case rel => exact ⟨(Since.whole hb2 bw).set_ 3 _, (Since.whole hb2 bc).far (p := ⟨g_bw, 3, none⟩) m_bw_bc _, (Since.whole hb2 bt).far (p := ⟨g_bw, 3, none⟩) m_bw_bt _, (hs.trans hb2).setCell (p := ⟨g_bw, 3, none⟩) hgw _⟩
      · go_simp
        refine (Calls.since hq (side_at HS.out _)).mono ?_
        rintro e w2 ⟨rfl, hb2⟩
        go_wp2_with fail
        refine hK.out _ _ (hb2.but _) (fun hHeld => ?_)
        clear hK K
        try simp only [Act.put, List.getElem_toArray, List.getElem_cons_succ, List.getElem_cons_zero, List.setIfInBounds_toArray, List.set_cons_zero, List.set_cons_succ]
        refine wpAnyH_ready (rs := [1, 5]) (by kernel_rfl) (by simp) ?_
        refine AllReadyH.cons rfl (fun K hK => ?_) (AllReadyH.cons rfl (fun K hK => ?_) AllReadyH.nil)
        · go_simp
          skip
          refine hK.out _ _ (hb2.but _) (fun hHeld => ?_)
          clear hK K
          try simp only [Act.put, List.getElem_toArray, List.getElem_cons_succ, List.getElem_cons_zero, List.setIfInBounds_toArray, List.set_cons_zero, List.set_cons_succ]
          refine wpAnyH_ready (rs := [5]) (by kernel_rfl) (by simp) ?_
          refine AllReadyH.cons rfl (fun K hK => ?_) AllReadyH.nil
          go_simp
          skip
          refine hK.out _ _ (hb2.but _) (fun hHeld => ?_)
          clear hK K
          try simp only [Act.put, List.getElem_toArray, List.getElem_cons_succ, List.getElem_cons_zero, List.setIfInBounds_toArray, List.set_cons_zero, List.set_cons_succ]
          refine wpAnyH_take (i := 6) (v := ?_) rfl (by kernel_rfl) (by kernel_rfl) (by kernel_rfl) (fun _ _ _ h => h) (Or.inl ⟨by rfl, ?_⟩) (by assumption) ?_
          rotate_left 1
          · (intro W hW; clear hW; go_simp; try with_reducible rfl)
          simp only [Act.put, List.getElem_toArray, List.getElem_cons_succ, List.getElem_cons_zero, List.setIfInBounds_toArray, List.set_cons_zero, List.set_cons_succ]
          refine wpAnyH_take (i := 7) (v := ?_) rfl (by kernel_rfl) (by kernel_rfl) (by kernel_rfl) (fun _ _ _ h => h) (Or.inl ⟨by rfl, ?_⟩) (by assumption) ?_
          rotate_left 1
          · (intro W hW; clear hW; go_simp; try with_reducible rfl)
          simp only [Act.put, List.getElem_toArray, List.getElem_cons_succ, List.getElem_cons_zero, List.setIfInBounds_toArray, List.set_cons_zero, List.set_cons_succ]
          refine wpAnyH_take (i := 8) (v := ?_) rfl (by kernel_rfl) (by kernel_rfl) (by kernel_rfl) (fun _ _ _ h => h) (Or.inl ⟨by rfl, ?_⟩) (by assumption) ?_
          rotate_left 1
          · (intro W hW; clear hW; go_simp; try with_reducible rfl)
          simp only [Act.put, List.getElem_toArray, List.getElem_cons_succ, List.getElem_cons_zero, List.setIfInBounds_toArray, List.set_cons_zero, List.set_cons_succ]
          refine wpAnyH_ready (rs := [9]) (by kernel_rfl) (by simp) ?_
          refine AllReadyH.cons rfl (fun K hK => ?_) AllReadyH.nil
          go_simp
          skip
          refine hK.out _ _ (But.set1 hb2 3 _) (fun hHeld => ?_)
          clear hK K
          try simp only [Act.put, List.getElem_toArray, List.getElem_cons_succ, List.getElem_cons_zero, List.setIfInBounds_toArray, List.set_cons_zero, List.set_cons_succ]
          refine wpAnyH_done (by kernel_rfl) ?_ _
          go_wp2_with fail
          go_meet
          case rel => exact ⟨(Since.whole hb2 bw).set_ 3 _, (Since.whole hb2 bc).far (p := ⟨g_bw, 3, none⟩) m_bw_bc _, (Since.whole hb2 bt).far (p := ⟨g_bw, 3, none⟩) m_bw_bt _, (hs.trans hb2).setCell (p := ⟨g_bw, 3, none⟩) hgw _⟩
        · go_simp
          skip
          refine hK.out _ _ (hb2.but _) (fun hHeld => ?_)
          clear hK K
          try simp only [Act.put, List.getElem_toArray, List.getElem_cons_succ, List.getElem_cons_zero, List.setIfInBounds_toArray, List.set_cons_zero, List.set_cons_succ]
          refine wpAnyH_take (i := 6) (v := ?_) rfl (by kernel_rfl) (by kernel_rfl) (by kernel_rfl) (fun _ _ _ h => h) (Or.inl ⟨by rfl, ?_⟩) (by assumption) ?_
          rotate_left 1
          · (intro W hW; clear hW; go_simp; try with_reducible rfl)
          simp only [Act.put, List.getElem_toArray, List.getElem_cons_succ, List.getElem_cons_zero, List.setIfInBounds_toArray, List.set_cons_zero, List.set_cons_succ]
          refine wpAnyH_ready (rs := [1]) (by kernel_rfl) (by simp) ?_
          refine AllReadyH.cons rfl (fun K hK => ?_) AllReadyH.nil
          go_simp
          skip
          refine hK.out _ _ (hb2.but _) (fun hHeld => ?_)
          clear hK K
          try simp only [Act.put, List.getElem_toArray, List.getElem_cons_succ, List.getElem_cons_zero, List.setIfInBounds_toArray, List.set_cons_zero, List.set_cons_succ]
          refine wpAnyH_take (i := 7) (v := ?_) rfl (by kernel_rfl) (by kernel_rfl) (by kernel_rfl) (fun _ _ _ h => h) (Or.inl ⟨by rfl, ?_⟩) (by assumption) ?_
          rotate_left 1
          · (intro W hW; clear hW; go_simp; try with_reducible rfl)
          simp only [Act.put, List.getElem_toArray, List.getElem_cons_succ, List.getElem_cons_zero, List.setIfInBounds_toArray, List.set_cons_zero, List.set_cons_succ]
          refine wpAnyH_take (i := 8) (v := ?_) rfl (by kernel_rfl) (by kernel_rfl) (by kernel_rfl) (fun _ _ _ h => h) (Or.inl ⟨by rfl, ?_⟩) (by assumption) ?_
          rotate_left 1
          · (intro W hW; clear hW; go_simp; try with_reducible rfl)
          simp only [Act.put, List.getElem_toArray, List.getElem_cons_succ, List.getElem_cons_zero, List.setIfInBounds_toArray, List.set_cons_zero, List.set_cons_succ]
          refine wpAnyH_ready (rs := [9]) (by kernel_rfl) (by simp) ?_
          refine AllReadyH.cons rfl (fun K hK => ?_) AllReadyH.nil
          go_simp
          skip
          refine hK.out _ _ (But.set1 hb2 3 _) (fun hHeld => ?_)
          clear hK K
          try simp only [Act.put, List.getElem_toArray, List.getElem_cons_succ, List.getElem_cons_zero, List.setIfInBounds_toArray, List.set_cons_zero, List.set_cons_succ]
          refine wpAnyH_done (by kernel_rfl) ?_ _
          go_wp2_with fail
          go_meet
          case rel => exact ⟨(Since.whole hb2 bw).set_ 3 _, (Since.whole hb2 bc).far (p := ⟨g_bw, 3, none⟩) m_bw_bc _, (Since.whole hb2 bt).far (p := ⟨g_bw, 3, none⟩) m_bw_bt _, (hs.trans hb2).setCell (p := ⟨g_bw, 3, none⟩) hgw _⟩
      · go_simp
        skip
        refine hK.out _ _ (hq.but _) (fun hHeld => ?_)
        clear hK K
        try simp only [Act.put, List.getElem_toArray, List.getElem_cons_succ, List.getElem_cons_zero, List.setIfInBounds_toArray, List.set_cons_zero, List.set_cons_succ]
        refine wpAnyH_ready (rs := [1, 3]) (by kernel_rfl) (by simp) ?_
        refine AllReadyH.cons rfl (fun K hK => ?_) (AllReadyH.cons rfl (fun K hK => ?_) AllReadyH.nil)
        · go_simp
          skip
          refine hK.out _ _ (hq.but _) (fun hHeld => ?_)
          clear hK K
          try simp only [Act.put, List.getElem_toArray, List.getElem_cons_succ, List.getElem_cons_zero, List.setIfInBounds_toArray, List.set_cons_zero, List.set_cons_succ]
          refine wpAnyH_ready (rs := [3]) (by kernel_rfl) (by simp) ?_
          refine AllReadyH.cons rfl (fun K hK => ?_) AllReadyH.nil
          go_simp
          refine (Calls.since hq (side_at HS.out _)).mono ?_
          rintro e w2 ⟨rfl, hb2⟩
          go_wp2_with fail
          refine hK.out _ _ (hb2.but _) (fun hHeld => ?_)
          clear hK K
          try simp only [Act.put, List.getElem_toArray, List.getElem_cons_succ, List.getElem_cons_zero, List.setIfInBounds_toArray, List.set_cons_zero, List.set_cons_succ]
          refine wpAnyH_take (i := 6) (v := ?_) rfl (by kernel_rfl) (by kernel_rfl) (by kernel_rfl) (fun _ _ _ h => h) (Or.inl ⟨by rfl, ?_⟩) (by assumption) ?_
          rotate_left 1
          · (intro W hW; clear hW; go_simp; try with_reducible rfl)
          simp only [Act.put, List.getElem_toArray, List.getElem_cons_succ, List.getElem_cons_zero, List.setIfInBounds_toArray, List.set_cons_zero, List.set_cons_succ]
          refine wpAnyH_take (i := 7) (v := ?_) rfl (by kernel_rfl) (by kernel_rfl) (by kernel_rfl) (fun _ _ _ h => h) (Or.inl ⟨by rfl, ?_⟩) (by assumption) ?_
          rotate_left 1
          · (intro W hW; clear hW; go_simp; try with_reducible rfl)
          simp only [Act.put, List.getElem_toArray, List.getElem_cons_succ, List.getElem_cons_zero, List.setIfInBounds_toArray, List.set_cons_zero, List.set_cons_succ]
          refine wpAnyH_take (i := 8) (v := ?_) rfl (by kernel_rfl) (by kernel_rfl) (by kernel_rfl) (fun _ _ _ h => h) (Or.inl ⟨by rfl, ?_⟩) (by assumption) ?_
          rotate_left 1
          · (intro W hW; clear hW; go_simp; try with_reducible rfl)
          simp only [Act.put, List.getElem_toArray, List.getElem_cons_succ, List.getElem_cons_zero, List.setIfInBounds_toArray, List.set_cons_zero, List.set_cons_succ]
          refine wpAnyH_ready (rs := [9]) (by kernel_rfl) (by simp) ?_
          refine AllReadyH.cons rfl (fun K hK => ?_) AllReadyH.nil
          go_simp
          skip
          refine hK.out _ _ (But.set1 hb2 3 _) (fun hHeld => ?_)
          clear hK K
          try simp only [Act.put, List.getElem_toArray, List.getElem_cons_succ, List.getElem_cons_zero, List.setIfInBounds_toArray, List.set_cons_zero, List.set_cons_succ]
          refine wpAnyH_done (by kernel_rfl) ?_ _
          go_wp2_with fail
          go_meet
          case rel => exact ⟨(Since.whole hb2 bw).set_ 3 _, (Since.whole hb2 bc).far (p := ⟨g_bw, 3, none⟩) m_bw_bc _, (Since.whole hb2 bt).far (p := ⟨g_bw, 3, none⟩) m_bw_bt _, (hs.trans hb2).setCell (p := ⟨g_bw, 3, none⟩) hgw _⟩
        · go_simp
          refine (Calls.since hq (side_at HS.out _)).mono ?_
          rintro e w2 ⟨rfl, hb2⟩
          go_wp2_with fail
          refine hK.out _ _ (hb2.but _) (fun hHeld => ?_)
          clear hK K
          try simp only [Act.put, List.getElem_toArray, List.getElem_cons_succ, List.getElem_cons_zero, List.setIfInBounds_toArray, List.set_cons_zero, List.set_cons_succ]
          refine wpAnyH_take (i := 6) (v := ?_) rfl (by kernel_rfl) (by kernel_rfl) (by kernel_rfl) (fun _ _ _ h => h) (Or.inl ⟨by rfl, ?_⟩) (by assumption) ?_
          rotate_left 1
          · (intro W hW; clear hW; go_simp; try with_reducible rfl)
          simp only [Act.put, List.getElem_toArray, List.getElem_cons_succ, List.getElem_cons_zero, List.setIfInBounds_toArray, List.set_cons_zero, List.set_cons_succ]
          refine wpAnyH_ready (rs := [1]) (by kernel_rfl) (by simp) ?_
          refine AllReadyH.cons rfl (fun K hK => ?_) AllReadyH.nil
          go_simp
          skip
          refine hK.out _ _ (hb2.but _) (fun hHeld => ?_)
          clear hK K
          try simp only [Act.put, List.getElem_toArray, List.getElem_cons_succ, List.getElem_cons_zero, List.setIfInBounds_toArray, List.set_cons_zero, List.set_cons_succ]
          refine wpAnyH_take (i := 7) (v := ?_) rfl (by kernel_rfl) (by kernel_rfl) (by kernel_rfl) (fun _ _ _ h => h) (Or.inl ⟨by rfl, ?_⟩) (by assumption) ?_
          rotate_left 1
          · (intro W hW; clear hW; go_simp; try with_reducible rfl)
          simp only [Act.put, List.getElem_toArray, List.getElem_cons_succ, List.getElem_cons_zero, List.setIfInBounds_toArray, List.set_cons_zero, List.set_cons_succ]
          refine wpAnyH_take (i := 8) (v := ?_) rfl (by kernel_rfl) (by kernel_rfl) (by kernel_rfl) (fun _ _ _ h => h) (Or.inl ⟨by rfl, ?_⟩) (by assumption) ?_
          rotate_left 1
          · (intro W hW; clear hW; go_simp; try with_reducible rfl)
          simp only [Act.put, List.getElem_toArray, List.getElem_cons_succ, List.getElem_cons_zero, List.setIfInBounds_toArray, List.set_cons_zero, List.set_cons_succ]
          refine wpAnyH_ready (rs := [9]) (by kernel_rfl) (by simp) ?_
          refine AllReadyH.cons rfl (fun K hK => ?_) AllReadyH.nil
          go_simp
          skip
          refine hK.out _ _ (But.set1 hb2 3 _) (fun hHeld => ?_)
          clear hK K
          try simp only [Act.put, List.getElem_toArray, List.getElem_cons_succ, List.getElem_cons_zero, List.setIfInBounds_toArray, List.set_cons_zero, List.set_cons_succ]
          refine wpAnyH_done (by kernel_rfl) ?_ _
          go_wp2_with fail
          go_meet
          case rel => exact ⟨(Since.whole hb2 bw).set_ 3 _, (Since.whole hb2 bc).far (p := ⟨g_bw, 3, none⟩) m_bw_bc _, (Since.whole hb2 bt).far (p := ⟨g_bw, 3, none⟩) m_bw_bt _, (hs.trans hb2).setCell (p := ⟨g_bw, 3, none⟩) hgw _⟩
    case rest =>
      clear  e_bt e_bw0 e_bw1 e_bw2 e_bw3 f_bw0 f_bw1 f_bw2 f_bw3 hsr hsd bc bt bw hs
      obtain ⟨w6, hw6⟩ : ∃ w', w' = wc := ⟨_, rfl⟩
      rw [← hw6] at hcut ⊢
      clear hw6
      obtain ⟨bw, bc, bt, hs⟩ := hcut
      have c_bw0 := box_cell bw 0 (.int .i64 X) rfl
      have c_bw1 := box_cell bw 1 (.int .i64 Y) rfl
      have c_bw2 := box_cell bw 2 (.int .i64 A) rfl
      have c_bw3 := box_cell bw 3 (.int .i64 B) rfl
      have c_bc0 := box_cell bc 0 (.int .i64 CX) rfl
      have c_bc1 := box_cell bc 1 (.int .i64 CY) rfl
      have c_bt0 := box_cell bt 0 (.int .i64 K) rfl
      have hsr := Since.refl w6
      have hsd := hsr.drew
      go_wp2_with fail
      go_loopw [9, 10] (fun bv iv wr => ∃ p : Nat, iv = .int .i64 p ∧ p ≤ An ∧ bv = .int .i64 (rowsF F G Bn p) ∧ Since w6 wr) (fun _ iv _ => An - (intOf iv).toNat)
      case atStart => exact ⟨0, rfl, Nat.zero_le _, rfl, hsr⟩
      case round =>
        obtain ⟨p, rfl, hpA, rfl, hsm⟩ := hrel
        by_cases hlt : p < An
        · have d1 : decide ((p : Int) < A) = true := decide_eq_true (by have := hAn.out; omega)
          have d2 : decide ((p : Int) < 20) = true := decide_eq_true (by have := hAb.out; omega)
          have p20 : (p : Int) < 20 := by have := hAb.out; omega
          obtain ⟨R0, hR0⟩ : ∃ R0, rowsF F G Bn p = R0 := ⟨_, rfl⟩
          have hrs : rowsF F G Bn (p + 1) = inn R0 (fun m => F p + G m) Bn := by rw [← hR0]; rfl
          rw [hR0]
          have HRS := Lib.hid hrs
          clear hrs hR0
          go_wp2_with fail
          go_loopw [9, 11] (fun bv iv wr => ∃ q : Nat, iv = .int .i64 q ∧ q ≤ Bn ∧ bv = .int .i64 (inn R0 (fun m => F p + G m) q) ∧ Since w6 wr) (fun _ iv _ => Bn - (intOf iv).toNat)
          case atStart => exact ⟨0, rfl, Nat.zero_le _, rfl, hsm⟩
          case round =>
            clear hsm
            obtain ⟨q, rfl, hqB, rfl, hsm⟩ := hrel
            by_cases hqm : q < Bn
            · have d3 : decide ((q : Int) < B) = true := decide_eq_true (by have := hBn.out; omega)
              have d4 : decide ((q : Int) < 20) = true := decide_eq_true (by have := hBb.out; omega)
              have q20 : (q : Int) < 20 := by have := hBb.out; omega
              have wx : wrap64 (X + p) = X + p := IntWalk.wrap64_in _ ⟨by have := hXY.out; omega, by have := hXY.out; omega⟩
              have wy : wrap64 (Y + q) = Y + q := IntWalk.wrap64_in _ ⟨by have := hXY.out; omega, by have := hXY.out; omega⟩
              obtain ⟨V, hV⟩ : ∃ V, F p + G q = V := ⟨_, rfl⟩
              have HDI := Lib.hid (show dist K CX CY (X + p) (Y + q) = V by rw [← hV]; exact hdist.out p q hlt hqm)
              obtain ⟨b0, hb0⟩ : ∃ b0, inn R0 (fun m => F p + G m) q = b0 := ⟨_, rfl⟩
              have hup : inn R0 (fun m => F p + G m) (q + 1) = upd b0 V := by rw [← hb0, ← hV]; rfl
              rw [hb0]
              have HUP := Lib.hid hup
              clear hup hb0 hV
              by_cases c1 : b0 < 0
              · have hu : upd b0 V = V := if_pos (.inl c1)
                replace hu := Lib.hid hu
                go_wp2_with (go_at_call 29; (with_reducible refine (dist_at HDI.out _).mono ?_); rintro z w70 ⟨rfl, hb70⟩)
                go_roundw
                case rel => exact ⟨q + 1, by go_num, by omega, by rw [HUP.out, hu.out], hsm.trans hb70⟩
                case measure => simp [intOf]; omega
              · by_cases c2 : V < b0
                · have hu : upd b0 V = V := if_pos (.inr c2)
                  replace hu := Lib.hid hu
                  go_wp2_with (go_at_call 29; (with_reducible refine (dist_at HDI.out _).mono ?_); rintro z w70 ⟨rfl, hb70⟩)
                  go_roundw
                  case rel => exact ⟨q + 1, by go_num, by omega, by rw [HUP.out, hu.out], hsm.trans hb70⟩
                  case measure => simp [intOf]; omega
                · have hu : upd b0 V = b0 := if_neg (fun z => z.elim c1 c2)
                  replace hu := Lib.hid hu
                  go_wp2_with (go_at_call 29; (with_reducible refine (dist_at HDI.out _).mono ?_); rintro z w70 ⟨rfl, hb70⟩)
                  go_roundw
                  case rel => exact ⟨q + 1, by go_num, by omega, by rw [HUP.out, hu.out], hsm.trans hb70⟩
                  case measure => simp [intOf]; omega
            · obtain rfl : q = Bn := by omega
              have d3 : decide ((q : Int) < B) = false := decide_eq_false (by have := hBn.out; omega)
              go_wp2_with fail
              go_roundw
              case rel => exact ⟨p + 1, by go_num, by omega, by rw [HRS.out], hsm⟩
              case measure => simp [intOf]; omega
        · obtain rfl : p = An := by omega
          have d1 : decide ((p : Int) < A) = false := decide_eq_false (by have := hAn.out; omega)
          rw [hbest.out]
          go_wp2_with (first | (go_at_call 16; (with_reducible refine (hdi _).mono ?_); rintro z w71 ⟨rfl, hb71⟩; have hsm71 := Since.trans hsm hb71) | (go_at_call 18; (with_reducible refine (hk _).mono ?_); rintro z w72 ⟨rfl, hb72⟩))
          go_ret
          exact ⟨rfl, (hs.trans hsm71).trans hb72⟩
end Go.Proofs.Ytbfjnnjblnjdkaa
