/- The walk of the law WindowHalves, by premises on the program. -/
import Derived.Test.YtbfjnnjblnjdkaaWKnows
import Derived.Test.YtbfjnnjblnjdkaaPKnows
import Derived.Deep.Cut
import Derived.Deep.CutRange
namespace Go.Proofs.Ytbfjnnjblnjdkaa
open Go.RowKit
set_option maxRecDepth 100000 in
set_option maxHeartbeats 6400000 in
theorem halves_walk (hP : PlainC) (hC : CutC) (hV : CoversC) (hD : DistC) (hA : AreaC) (k a b c d e f : Int) (w : World) : Calls Try.prog 5 #[.int .i64 k, .agg #[.int .i64 a, .int .i64 b, .int .i64 c, .int .i64 d], .agg #[.int .i64 e, .int .i64 f]] w fun z w' => z = .returned (.bool true) ∧ Below w.heap.size w w' := by
  have k1 := tmod_bd k 16 (by decide)
  have k2 := tmod_pos k 16 (by decide)
  obtain ⟨R, hR⟩ : ∃ R, k % 16 = R := ⟨_, rfl⟩
  have k3 : 0 ≤ R ∧ R < 16 := by omega
  rw [hR] at k2
  clear hR
  obtain ⟨K, hK⟩ : ∃ K, 1 + R = K := ⟨_, rfl⟩
  have hr : rgt K = true := by rw [rgt_iff]; omega
  have HR := Lib.hid hr
  have HK0 := Lib.hid (show 0 ≤ K by omega)
  have HK1 := Lib.hid (show K ≤ 16 by omega)
  obtain ⟨D, hDD⟩ : ∃ D, smD K e = D := ⟨_, rfl⟩
  obtain ⟨B, hBB⟩ : ∃ B, smB K e f = B := ⟨_, rfl⟩
  have op := some_ok K e f (by omega)
  have hwin := smW_win hr ⟨a, b, c, d⟩
  obtain ⟨⟨X, Y, U, T⟩, hsm⟩ : ∃ ρ, smW K ⟨a, b, c, d⟩ = ρ := ⟨_, rfl⟩
  rw [hsm] at hwin
  rw [hDD, hBB] at op
  have OP := Lib.hid op
  have WI := Lib.hid hwin
  have SM := Lib.hid hsm
  have E1 := Lib.hid hDD
  have E2 := Lib.hid hBB
  have hd := (okP_iff _ _ _).1 op
  have DB := Lib.hid (show 0 ≤ D ∧ D ≤ 2 * K by omega)
  obtain ⟨Z, hZ⟩ : ∃ Z, sumF areaR (cutR K ⟨X, Y, U, T⟩ D B) = Z := ⟨_, rfl⟩
  have ZP := Lib.hid hZ
  have ZL := Lib.hid (show D = 2 * K → Z ≤ 1 from fun h => hZ ▸ cut_one hwin op h)
  have hk := fun W => knows4 hP hD W
  have hc := hC K X Y U T
  have hv := hV K X Y U T
  have kw : wrap64 (2 * K) = 2 * K := IntWalk.wrap64_in _ ⟨by omega, by omega⟩
  have dw : 0 ≤ D ∧ D ≤ 32 := by omega
  clear hDD hBB op hwin hsm hd hZ hr hC hV hP hD
  obtain ⟨w0, hw0⟩ : ∃ w0, w0 = ((w.alloc (.cells #[.int .i64 a, .int .i64 b, .int .i64 c, .int .i64 d] 23)).alloc (.cells #[.int .i64 e, .int .i64 f] 25)).alloc (.cells #[.int .i64 K] 29) := ⟨_, rfl⟩
  have hs0 : Since w w0 := by rw [hw0]; exact (((Since.refl w).alloc _).alloc _).alloc _
  have wh0 : Whole w0 (w.heap.size) 23 #[.int .i64 a, .int .i64 b, .int .i64 c, .int .i64 d] := by rw [hw0]; exact ((Whole.new w _ _).alloc _).alloc _
  have wh1 : Whole w0 (w.heap.size + 1) 25 #[.int .i64 e, .int .i64 f] := by rw [hw0]; exact ((Whole.new (w.alloc _) _ _).alloc _).at_ (by simp)
  have wh2 : Whole w0 (w.heap.size + 1 + 1) 29 #[.int .i64 K] := by rw [hw0]; exact (Whole.new ((w.alloc _).alloc _) _ _).at_ (by simp)
  have HW := Lib.hid hw0
  have c0_0 := box_cell wh0 0 (.int .i64 a) rfl
  have c0_1 := box_cell wh0 1 (.int .i64 b) rfl
  have c0_2 := box_cell wh0 2 (.int .i64 c) rfl
  have c0_3 := box_cell wh0 3 (.int .i64 d) rfl
  have c1_0 := box_cell wh1 0 (.int .i64 e) rfl
  have c1_1 := box_cell wh1 1 (.int .i64 f) rfl
  have c2_0 := box_cell wh2 0 (.int .i64 K) rfl
  have hsr := Since.refl w0
  have hsd := hsr.drew
  clear hw0
  have br := wh0
  have bp := wh1
  have bt := wh2
  have hs : Since w w0 := hs0
  clear wh0 wh1 wh2 c0_0 c0_1 c0_2 c0_3 c1_0 c1_1 c2_0 hsr hsd hs0
  go_enter Try.func5, Try.ntmps5
  go_wp2_with fail
  rw [← HW.out]
  have t_bt0 := bt.cell 0
  have l_bt := bt.lt
  have t_br0 := br.cell 0
  have t_br1 := br.cell 1
  have t_br2 := br.cell 2
  have t_br3 := br.cell 3
  have l_br := br.lt
  go_wp2_with fail
  clear t_bt0 l_bt t_br0 t_br1 t_br2 t_br3 l_br
  refine (some4_at w0 HR.out SM.out).mono ?_
  rintro e w1 ⟨rfl, hb⟩
  replace br := Since.whole hb br
  replace bp := Since.whole hb bp
  replace bt := Since.whole hb bt
  replace hs := hs.trans hb
  clear hb
  have t_bp0 := bp.cell 0
  have t_bp1 := bp.cell 1
  have l_bp := bp.lt
  go_wp2_with fail
  clear t_bp0 t_bp1 l_bp
  have u_br := br.lt
  have u_bp := bp.lt
  have u_bt := bt.lt
  refine Calls.named (fun w2 hw => ?_)
  replace br := (br.alloc (.cells #[.int .i64 X, .int .i64 Y, .int .i64 U, .int .i64 T] 34)).named hw
  replace bp := (bp.alloc (.cells #[.int .i64 X, .int .i64 Y, .int .i64 U, .int .i64 T] 34)).named hw
  replace bt := (bt.alloc (.cells #[.int .i64 X, .int .i64 Y, .int .i64 U, .int .i64 T] 34)).named hw
  replace hs : Since w w2 := Since.named (hs.alloc (.cells #[.int .i64 X, .int .i64 Y, .int .i64 U, .int .i64 T] 34)) hw
  have bw : Whole w2 w1.heap.size 34 #[.int .i64 X, .int .i64 Y, .int .i64 U, .int .i64 T] := (Whole.new w1 _ _).named hw
  obtain ⟨g_bw, hg⟩ : ∃ g, g = w1.heap.size := ⟨_, rfl⟩
  rw [← hg] at bw ⊢
  have n_bw_br : g_bw ≠ w.heap.size := by omega
  have m_bw_br : w.heap.size ≠ g_bw := by omega
  have n_bw_bp : g_bw ≠ w.heap.size + 1 := by omega
  have m_bw_bp : w.heap.size + 1 ≠ g_bw := by omega
  have n_bw_bt : g_bw ≠ w.heap.size + 1 + 1 := by omega
  have m_bw_bt : w.heap.size + 1 + 1 ≠ g_bw := by omega
  clear u_br u_bp u_bt
  clear hw hg
  refine (some_at _ HK0.out HK1.out E1.out E2.out).mono ?_
  rintro e w3 ⟨rfl, hb⟩
  replace br := Since.whole hb br
  replace bp := Since.whole hb bp
  replace bt := Since.whole hb bt
  replace bw := Since.whole hb bw
  replace hs := hs.trans hb
  clear hb
  have t_bt0 := bt.cell 0
  have l_bt := bt.lt
  have t_bw0 := bw.cell 0
  have t_bw1 := bw.cell 1
  have t_bw2 := bw.cell 2
  have t_bw3 := bw.cell 3
  have l_bw := bw.lt
  have f_bp0 := bp.frozen 0
  have f_bp1 := bp.frozen 1
  have t_bp0 := bp.cell 0
  have t_bp1 := bp.cell 1
  go_wp2_with fail
  clear t_bt0 l_bt t_bw0 t_bw1 t_bw2 t_bw3 l_bw f_bp0 f_bp1 t_bp0 t_bp1
  refine Calls.named (fun w4 hw => ?_)
  replace br : Whole w4 (w.heap.size) 23 #[.int .i64 a, .int .i64 b, .int .i64 c, .int .i64 d] := (((br).far (p := ⟨w.heap.size + 1, 0, none⟩) (by simp; try omega) _).far (p := ⟨w.heap.size + 1, 1, none⟩) (by simp; try omega) _).named hw
  replace bp : Whole w4 (w.heap.size + 1) 25 #[.int .i64 D, .int .i64 B] := (((bp).set_ 0 _).set_ 1 _).named hw
  replace bt : Whole w4 (w.heap.size + 1 + 1) 29 #[.int .i64 K] := (((bt).far (p := ⟨w.heap.size + 1, 0, none⟩) (by simp; try omega) _).far (p := ⟨w.heap.size + 1, 1, none⟩) (by simp; try omega) _).named hw
  replace bw : Whole w4 (g_bw) 34 #[.int .i64 X, .int .i64 Y, .int .i64 U, .int .i64 T] := (((bw).far (p := ⟨w.heap.size + 1, 0, none⟩) (by simp; try omega) _).far (p := ⟨w.heap.size + 1, 1, none⟩) (by simp; try omega) _).named hw
  replace hs : Since w w4 := Since.named (((hs).setCell (p := ⟨w.heap.size + 1, 0, none⟩) (by simp; try omega) _).setCell (p := ⟨w.heap.size + 1, 1, none⟩) (by simp; try omega) _) hw
  clear hw
  refine (hc D B _).mono ?_
  rintro z w5 ⟨v, rfl, hrow, hb⟩
  replace br := Since.whole hb br
  replace bp := Since.whole hb bp
  replace bt := Since.whole hb bt
  replace bw := Since.whole hb bw
  replace hs := hs.trans hb
  have hls := hrow.list encR_len
  clear hrow
  clear hb
  go_wp2_with fail
  refine (sum_law hA _ hls (Nat.le_refl _) (cut_len _ _ _ _)).mono ?_
  rintro z w6 ⟨rfl, hb⟩
  replace br := Since.whole hb br
  replace bp := Since.whole hb bp
  replace bt := Since.whole hb bt
  replace bw := Since.whole hb bw
  replace hs := hs.trans hb
  clear hls
  clear hb
  rw [ZP.out]
  have t_bp0 := bp.cell 0
  have t_bp1 := bp.cell 1
  by_cases hD2 : D = 2 * K
  · have d1 : (D == 2 * K) = true := beq_iff_eq.2 hD2
    have d2 : Z ≤ 1 := ZL.out hD2
    have d3 : decide (Z ≤ 1) = true := decide_eq_true d2
    clear hD2 d2
    go_wp2_with (go_at_call 18; (with_reducible refine (Calls.since (by assumption) (hk _)).mono ?_); rintro e w50 ⟨rfl, hb50⟩)
    go_ret
    exact ⟨rfl, hb50⟩
  have d1 : (D == 2 * K) = false := beq_eq_false_iff_ne.2 hD2
  have hlt : D < 2 * K := by have := DB.out; omega
  obtain ⟨Z0, hZ0⟩ : ∃ Z, sumF areaR (cutR K ⟨X, Y, U, T⟩ (D + 1) (2 * B)) = Z := ⟨_, rfl⟩
  obtain ⟨Z1, hZ1⟩ : ∃ Z, sumF areaR (cutR K ⟨X, Y, U, T⟩ (D + 1) (2 * B + 1)) = Z := ⟨_, rfl⟩
  obtain ⟨c0, hc0⟩ : ∃ c, covR K ⟨X, Y, U, T⟩ (D + 1) (2 * B) = c := ⟨_, rfl⟩
  obtain ⟨c1, hc1⟩ : ∃ c, covR K ⟨X, Y, U, T⟩ (D + 1) (2 * B + 1) = c := ⟨_, rfl⟩
  have hsum := (cut_halves WI.out OP.out hlt).1
  have hcov := cov_halves WI.out OP.out hlt
  have b0 := sum_bd (cutR K ⟨X, Y, U, T⟩ (D + 1) (2 * B))
  have b1 := sum_bd (cutR K ⟨X, Y, U, T⟩ (D + 1) (2 * B + 1))
  have l0 := cut_len K (D + 1) (2 * B) ⟨X, Y, U, T⟩
  have l1 := cut_len K (D + 1) (2 * B + 1) ⟨X, Y, U, T⟩
  have b2 := sum_bd (cutR K ⟨X, Y, U, T⟩ D B)
  have l2 := cut_len K D B ⟨X, Y, U, T⟩
  rw [ZP.out] at b2
  rw [hZ0, hZ1, ZP.out] at hsum
  rw [hc0, hc1] at hcov
  rw [hZ0] at b0
  rw [hZ1] at b1
  have hw1 : IntKind.i64.wrap (Z0 + Z1) = Z := by rw [IntWalk.i64_in _ (by omega)]; exact hsum
  obtain ⟨L0, hL0⟩ : ∃ L, cutR K ⟨X, Y, U, T⟩ (D + 1) (2 * B) = L := ⟨_, rfl⟩
  obtain ⟨L1, hL1⟩ : ∃ L, cutR K ⟨X, Y, U, T⟩ (D + 1) (2 * B + 1) = L := ⟨_, rfl⟩
  have hca := hc (D + 1) (2 * B)
  have hcb := hc (D + 1) (2 * B + 1)
  have hva := hv (D + 1) (2 * B)
  have hvb := hv (D + 1) (2 * B + 1)
  have hvp := hv D B
  rw [hL0] at hca hZ0 l0
  rw [hL1] at hcb hZ1 l1
  rw [hc0] at hva
  rw [hc1] at hvb
  rw [hcov] at hvp
  have hsa : ∀ (v : Value) (B0 : Nat) (W : World), ListR B0 W v L0 → B0 ≤ W.heap.size → Calls Try.prog 25 #[v] W fun e w' => e = .returned (.int .i64 Z0) ∧ Below W.heap.size W w' := fun v B0 W h hB => hZ0 ▸ sum_law hA W h hB l0
  have hsb : ∀ (v : Value) (B0 : Nat) (W : World), ListR B0 W v L1 → B0 ≤ W.heap.size → Calls Try.prog 25 #[v] W fun e w' => e = .returned (.int .i64 Z1) ∧ Below W.heap.size W w' := fun v B0 W h hB => hZ1 ▸ sum_law hA W h hB l1
  obtain ⟨D1, hD1⟩ : ∃ D1, D + 1 = D1 := ⟨_, rfl⟩
  obtain ⟨B1, hB1⟩ : ∃ B1, 2 * B = B1 := ⟨_, rfl⟩
  obtain ⟨B2, hB2⟩ : ∃ B2, 2 * B + 1 = B2 := ⟨_, rfl⟩
  rw [hD1, hB1] at hca hva
  rw [hD1, hB2] at hcb hvb
  have D1H := Lib.hid hD1
  have B1H := Lib.hid (show 2 * B + 0 = B1 by omega)
  have B2H := Lib.hid hB2
  have F32 := Lib.hid (show D < 32 by have := HK1.out; omega)
  clear hD2 hlt hZ0 hZ1 hc0 hc1 hsum hcov b0 b1 b2 l2 hL0 hL1 hD1 hB1 hB2 hc hv t_bp0 t_bp1 hA
  have t_bp0 := bp.cell 0
  have t_bp1 := bp.cell 1
  have l_bp := bp.lt
  go_wp2_with fail
  clear t_bp0 t_bp1 l_bp
  refine (child_at _ (okP_fine OP.out) F32.out (by decide) (by decide) D1H.out B1H.out).mono ?_
  rintro e w7 ⟨rfl, hb⟩
  replace br := Since.whole hb br
  replace bp := Since.whole hb bp
  replace bt := Since.whole hb bt
  replace bw := Since.whole hb bw
  replace hs := hs.trans hb
  clear hb
  have t_bp0 := bp.cell 0
  have t_bp1 := bp.cell 1
  have l_bp := bp.lt
  go_wp2_with fail
  clear t_bp0 t_bp1 l_bp
  refine Calls.named (fun w8 hw => ?_)
  replace br := (br.alloc (.cells #[.int .i64 D1, .int .i64 B1] 25)).named hw
  replace bp := (bp.alloc (.cells #[.int .i64 D1, .int .i64 B1] 25)).named hw
  replace bt := (bt.alloc (.cells #[.int .i64 D1, .int .i64 B1] 25)).named hw
  replace bw := (bw.alloc (.cells #[.int .i64 D1, .int .i64 B1] 25)).named hw
  replace hs : Since w w8 := Since.named (hs.alloc (.cells #[.int .i64 D1, .int .i64 B1] 25)) hw
  have ba : Whole w8 w7.heap.size 25 #[.int .i64 D1, .int .i64 B1] := (Whole.new w7 _ _).named hw
  obtain ⟨g_ba, hg⟩ : ∃ g, g = w7.heap.size := ⟨_, rfl⟩
  rw [← hg] at ba ⊢
  clear hw hg
  refine (child_at _ (okP_fine OP.out) F32.out (by decide) (by decide) D1H.out B2H.out).mono ?_
  rintro e w9 ⟨rfl, hb⟩
  replace br := Since.whole hb br
  replace bp := Since.whole hb bp
  replace bt := Since.whole hb bt
  replace bw := Since.whole hb bw
  replace ba := Since.whole hb ba
  replace hs := hs.trans hb
  clear hb
  go_upto_region 10 with fail
  obtain ⟨w10, hw⟩ : ∃ w', w' = w9.alloc (.cells #[.int .i64 D1, .int .i64 B2] 25) := ⟨_, rfl⟩
  rw [← hw]
  replace br := (br.alloc (.cells #[.int .i64 D1, .int .i64 B2] 25)).named hw
  replace bp := (bp.alloc (.cells #[.int .i64 D1, .int .i64 B2] 25)).named hw
  replace bt := (bt.alloc (.cells #[.int .i64 D1, .int .i64 B2] 25)).named hw
  replace bw := (bw.alloc (.cells #[.int .i64 D1, .int .i64 B2] 25)).named hw
  replace ba := (ba.alloc (.cells #[.int .i64 D1, .int .i64 B2] 25)).named hw
  replace hs : Since w w10 := Since.named (hs.alloc (.cells #[.int .i64 D1, .int .i64 B2] 25)) hw
  have bb : Whole w10 w9.heap.size 25 #[.int .i64 D1, .int .i64 B2] := (Whole.new w9 _ _).named hw
  obtain ⟨g_bb, hg⟩ : ∃ g, g = w9.heap.size := ⟨_, rfl⟩
  rw [← hg] at bb ⊢
  clear hw hg
  have c_br0 := box_cell br 0 (.int .i64 a) rfl
  have c_br1 := box_cell br 1 (.int .i64 b) rfl
  have c_br2 := box_cell br 2 (.int .i64 c) rfl
  have c_br3 := box_cell br 3 (.int .i64 d) rfl
  have c_bp0 := box_cell bp 0 (.int .i64 D) rfl
  have c_bp1 := box_cell bp 1 (.int .i64 B) rfl
  have c_bt0 := box_cell bt 0 (.int .i64 K) rfl
  have c_bw0 := box_cell bw 0 (.int .i64 X) rfl
  have c_bw1 := box_cell bw 1 (.int .i64 Y) rfl
  have c_bw2 := box_cell bw 2 (.int .i64 U) rfl
  have c_bw3 := box_cell bw 3 (.int .i64 T) rfl
  have c_ba0 := box_cell ba 0 (.int .i64 D1) rfl
  have c_ba1 := box_cell ba 1 (.int .i64 B1) rfl
  have c_bb0 := box_cell bb 0 (.int .i64 D1) rfl
  have c_bb1 := box_cell bb 1 (.int .i64 B2) rfl
  have hsr := Since.refl w10
  have hsd := hsr.drew
  have hcur : Since w10 w10 := Since.refl _
  obtain ⟨cc, hcc⟩ : ∃ cc, (c0 && c1) = cc := ⟨_, rfl⟩
  rw [hcc] at hvp
  cases c0
  · obtain rfl : cc = false := by rw [← hcc]; rfl
    clear hcc
    go_upto_region 11 with (go_at_call 14; (with_reducible refine (Calls.since (by assumption) (hva _)).mono ?_); rintro e w61 ⟨rfl, hb61⟩)
    have hsd61 := Since.drew (hb61 : Since w10 _)
    go_region_held3 (fun W => Since w10 W) (first | assumption | exact Since.drew (by assumption)) ((first | (go_at_call 11; (with_reducible refine (Calls.since_same (by assumption) (law4_num _ _)).mono ?_); rintro e w70 ⟨rfl, hb70⟩) | (go_at_call 12; (with_reducible refine (hca _).mono ?_); rintro z w71 ⟨v1, rfl, hrow1, hb71⟩; have hS71 : Since w10 w71 := Since.trans (by assumption) hb71; have hls1 := hrow1.list encR_len) | (go_at_call 25; (with_reducible refine (Calls.since (by assumption) (hsa _ _ _ hls1 (Nat.le_refl _))).mono ?_); rintro e w73 ⟨rfl, hb73⟩) | (go_at_call 12; (with_reducible refine (hcb _).mono ?_); rintro z w72 ⟨v2, rfl, hrow2, hb72⟩; have hS72 : Since w10 w72 := Since.trans (by assumption) hb72; have hls2 := hrow2.list encR_len) | (go_at_call 25; (with_reducible refine (Calls.since (by assumption) (hsb _ _ _ hls2 (Nat.le_refl _))).mono ?_); rintro e w74 ⟨rfl, hb74⟩) | (go_at_call 14; (with_reducible refine (Calls.since (by assumption) (hvp _)).mono ?_); rintro e w75 ⟨rfl, hb75⟩) | (go_at_call 18; (with_reducible refine (Calls.since (by assumption) (hk _)).mono ?_); rintro e w76 ⟨rfl, hb76⟩)))
    go_wp2
    go_ret
    exact ⟨rfl, hs.trans (by assumption)⟩
  · obtain rfl : cc = c1 := by rw [← hcc]; rfl
    clear hcc
    go_upto_region 11 with (first | (go_at_call 14; (with_reducible refine (Calls.since (by assumption) (hva _)).mono ?_); rintro e w61 ⟨rfl, hb61⟩) | (go_at_call 14; (with_reducible refine (Calls.since (by assumption) (hvb _)).mono ?_); rintro e w62 ⟨rfl, hb62⟩))
    have hsd62 := Since.drew (hb62 : Since w10 _)
    go_region_held3 (fun W => Since w10 W) (first | assumption | exact Since.drew (by assumption)) ((first | (go_at_call 11; (with_reducible refine (Calls.since_same (by assumption) (law4_num _ _)).mono ?_); rintro e w70 ⟨rfl, hb70⟩) | (go_at_call 12; (with_reducible refine (hca _).mono ?_); rintro z w71 ⟨v1, rfl, hrow1, hb71⟩; have hS71 : Since w10 w71 := Since.trans (by assumption) hb71; have hls1 := hrow1.list encR_len) | (go_at_call 25; (with_reducible refine (Calls.since (by assumption) (hsa _ _ _ hls1 (Nat.le_refl _))).mono ?_); rintro e w73 ⟨rfl, hb73⟩) | (go_at_call 12; (with_reducible refine (hcb _).mono ?_); rintro z w72 ⟨v2, rfl, hrow2, hb72⟩; have hS72 : Since w10 w72 := Since.trans (by assumption) hb72; have hls2 := hrow2.list encR_len) | (go_at_call 25; (with_reducible refine (Calls.since (by assumption) (hsb _ _ _ hls2 (Nat.le_refl _))).mono ?_); rintro e w74 ⟨rfl, hb74⟩) | (go_at_call 14; (with_reducible refine (Calls.since (by assumption) (hvp _)).mono ?_); rintro e w75 ⟨rfl, hb75⟩) | (go_at_call 18; (with_reducible refine (Calls.since (by assumption) (hk _)).mono ?_); rintro e w76 ⟨rfl, hb76⟩)))
    go_wp2
    go_ret
    exact ⟨rfl, hs.trans (by assumption)⟩
end Go.Proofs.Ytbfjnnjblnjdkaa
