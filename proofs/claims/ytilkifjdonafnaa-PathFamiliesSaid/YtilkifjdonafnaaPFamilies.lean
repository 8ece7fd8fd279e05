/- The walk of the law PathFamilies. -/
import Derived.Test.YtilkifjdonafnaaPFamM
namespace Go.Proofs.Ytilkifjdonafnaa
open Go.RowKit
set_option maxRecDepth 100000 in
set_option maxHeartbeats 2000000 in
theorem families_walk (pd pb qd qb : Int) (w : World) : Calls Try.prog 5 #[.agg #[.int .i64 pd, .int .i64 pb], .agg #[.int .i64 qd, .int .i64 qb]] w fun e w' => e = .returned (.bool true) ∧ Below w.heap.size w w' := by
  obtain ⟨D, hD⟩ : ∃ D, smD 15 pd = D := ⟨_, rfl⟩
  obtain ⟨B, hB⟩ : ∃ B, smB 15 pd pb = B := ⟨_, rfl⟩
  obtain ⟨F, hF⟩ : ∃ F, smD 16 qd = F := ⟨_, rfl⟩
  obtain ⟨C, hC⟩ : ∃ C, smB 16 qd qb = C := ⟨_, rfl⟩
  have hfp := some_fine 15 pd pb (by omega)
  have hop := (okP_iff _ _ _).1 (some_ok 15 pd pb (by omega))
  have hfq := some_fine 16 qd qb (by omega)
  rw [hD, hB] at hfp hop
  rw [hF, hC] at hfq
  have hD0 : 0 ≤ D := hop.2.2.1
  have hD30 : D ≤ 30 := by omega
  clear hop
  obtain ⟨D1, hD1⟩ : ∃ D1, D + 1 = D1 := ⟨_, rfl⟩
  obtain ⟨A0, hA0⟩ : ∃ A, 2 * B = A := ⟨_, rfl⟩
  obtain ⟨A1, hA1⟩ : ∃ A, 2 * B + 1 = A := ⟨_, rfl⟩
  have f0 := half_fine (h := 0) hfp (by omega) (by omega) (by omega)
  have f1 := half_fine (h := 1) hfp (by omega) (by omega) (by omega)
  have x1 := abv_half (h := 0) hfp (by omega) (by omega) (by omega)
  have x2 := met_halves D B
  have x3 := half_bit (h := 0) hfp (by omega) (by omega) (by omega)
  have x4 := half_bit (h := 1) hfp (by omega) (by omega) (by omega)
  obtain ⟨x5, x6⟩ := cpl_halves hfp (by omega)
  rw [Int.add_zero] at f0 x1 x3
  rw [hD1, hA0] at f0 x1 x3
  rw [hD1, hA1] at f1 x4
  rw [hD1, hA1, hA0] at x2 x5 x6
  rw [show D = D1 - 1 by omega] at x3 x4
  obtain ⟨M, hM⟩ : ∃ M : Int, (cpl D B F C : Int) = M := ⟨_, rfl⟩
  obtain ⟨G, hG⟩ : ∃ G, comB D B F C = G := ⟨_, rfl⟩
  obtain ⟨y1, y2, y3⟩ := abv_com hfp hfq
  rw [hM, hG] at y1 y2 y3
  have hM32 : 0 ≤ M := by omega
  have Y1 := Lib.hid y1
  have Y2 := Lib.hid y2
  have HFC := Lib.hid y3
  have HM := Lib.hid hM
  have HG := Lib.hid hG
  clear y1 y2 y3 hM hG
  have E1 := Lib.hid hD
  have E2 := Lib.hid hB
  have E3 := Lib.hid hF
  have E4 := Lib.hid hC
  have HF := Lib.hid hfp
  have HQ := Lib.hid hfq
  have HD1 := Lib.hid hD1
  have HA := Lib.hid (show 2 * B + 0 = A0 by omega)
  have HA1 := Lib.hid hA1
  have HFA := Lib.hid f0
  have HFB := Lib.hid f1
  have HDP := Lib.hid (show 0 < D1 by omega)
  have HSB := Lib.hid (show A0 + 1 - 2 * (A0 % 2) = A1 by omega)
  have HPD := Lib.hid (show D1 - 1 = D by omega)
  have HPB := Lib.hid (show A1 / 2 = B by omega)
  have X1 := Lib.hid x1
  have X2 := Lib.hid x2
  have X3 := Lib.hid x3
  have X4 := Lib.hid x4
  have X5 := Lib.hid x5
  have X6 := Lib.hid x6
  clear hD hB hF hC hfp hfq hD1 hA0 hA1 f0 f1 x1 x2 x3 x4 x5 x6
  obtain ⟨w0, hw0⟩ : ∃ w0, w0 = (w.alloc (.cells #[.int .i64 pd, .int .i64 pb] 23)).alloc (.cells #[.int .i64 qd, .int .i64 qb] 23) := ⟨_, rfl⟩
  have hs0 : Since w w0 := by rw [hw0]; exact ((Since.refl w).alloc _).alloc _
  have wh0 : Whole w0 (w.heap.size) 23 #[.int .i64 pd, .int .i64 pb] := by rw [hw0]; exact (Whole.new w _ _).alloc _
  have wh1 : Whole w0 (w.heap.size + 1) 23 #[.int .i64 qd, .int .i64 qb] := by rw [hw0]; exact (Whole.new (w.alloc _) _ _).at_ (by simp)
  have HW := Lib.hid hw0
  have c0_0 := box_cell wh0 0 (.int .i64 pd) rfl
  have c0_1 := box_cell wh0 1 (.int .i64 pb) rfl
  have c1_0 := box_cell wh1 0 (.int .i64 qd) rfl
  have c1_1 := box_cell wh1 1 (.int .i64 qb) rfl
  have hsr := Since.refl w0
  have hsd := hsr.drew
  clear hw0
  have bp := wh0
  have bq := wh1
  have hs : Since w w0 := hs0
  clear wh0 wh1 c0_0 c0_1 c1_0 c1_1 hsr hsd hs0
  go_enter Try.func5, Try.ntmps5
  go_wp2_with fail
  rw [← HW.out]
  have t_bp0 := bp.cell 0
  have t_bp1 := bp.cell 1
  have l_bp := bp.lt
  go_wp2_with fail
  clear t_bp0 t_bp1 l_bp
  refine (some_at w0 (by decide) (by decide) E1.out E2.out).mono ?_
  rintro e w1 ⟨rfl, hb⟩
  replace bp := Since.whole hb bp
  replace bq := Since.whole hb bq
  replace hs := hs.trans hb
  clear hb
  have t_bq0 := bq.cell 0
  have t_bq1 := bq.cell 1
  have l_bq := bq.lt
  have f_bp0 := bp.frozen 0
  have f_bp1 := bp.frozen 1
  have t_bp0 := bp.cell 0
  have t_bp1 := bp.cell 1
  go_wp2_with fail
  clear t_bq0 t_bq1 l_bq f_bp0 f_bp1 t_bp0 t_bp1
  refine Calls.named (fun w2 hw => ?_)
  replace bp : Whole w2 (w.heap.size) 23 #[.int .i64 D, .int .i64 B] := (((bp).set_ 0 _).set_ 1 _).named hw
  replace bq : Whole w2 (w.heap.size + 1) 23 #[.int .i64 qd, .int .i64 qb] := (((bq).far (p := ⟨w.heap.size, 0, none⟩) (by simp; try omega) _).far (p := ⟨w.heap.size, 1, none⟩) (by simp; try omega) _).named hw
  replace hs : Since w w2 := Since.named (((hs).setCell (p := ⟨w.heap.size, 0, none⟩) (by simp; try omega) _).setCell (p := ⟨w.heap.size, 1, none⟩) (by simp; try omega) _) hw
  clear hw
  refine (some_at _ (by decide) (by decide) E3.out E4.out).mono ?_
  rintro e w3 ⟨rfl, hb⟩
  replace bp := Since.whole hb bp
  replace bq := Since.whole hb bq
  replace hs := hs.trans hb
  clear hb
  have t_bp0 := bp.cell 0
  have t_bp1 := bp.cell 1
  have l_bp := bp.lt
  have f_bq0 := bq.frozen 0
  have f_bq1 := bq.frozen 1
  have t_bq0 := bq.cell 0
  have t_bq1 := bq.cell 1
  go_wp2_with fail
  clear t_bp0 t_bp1 l_bp f_bq0 f_bq1 t_bq0 t_bq1
  refine Calls.named (fun w4 hw => ?_)
  replace bp : Whole w4 (w.heap.size) 23 #[.int .i64 D, .int .i64 B] := (((bp).far (p := ⟨w.heap.size + 1, 0, none⟩) (by simp; try omega) _).far (p := ⟨w.heap.size + 1, 1, none⟩) (by simp; try omega) _).named hw
  replace bq : Whole w4 (w.heap.size + 1) 23 #[.int .i64 F, .int .i64 C] := (((bq).set_ 0 _).set_ 1 _).named hw
  replace hs : Since w w4 := Since.named (((hs).setCell (p := ⟨w.heap.size + 1, 0, none⟩) (by simp; try omega) _).setCell (p := ⟨w.heap.size + 1, 1, none⟩) (by simp; try omega) _) hw
  clear hw
  refine (child_at _ HF.out (by omega) (by decide) (by decide) HD1.out HA.out).mono ?_
  rintro e w5 ⟨rfl, hb⟩
  replace bp := Since.whole hb bp
  replace bq := Since.whole hb bq
  replace hs := hs.trans hb
  clear hb
  have t_bp0 := bp.cell 0
  have t_bp1 := bp.cell 1
  have l_bp := bp.lt
  go_wp2_with fail
  clear t_bp0 t_bp1 l_bp
  refine Calls.named (fun w6 hw => ?_)
  replace bp := (bp.alloc (.cells #[.int .i64 D1, .int .i64 A0] 23)).named hw
  replace bq := (bq.alloc (.cells #[.int .i64 D1, .int .i64 A0] 23)).named hw
  replace hs : Since w w6 := Since.named (hs.alloc (.cells #[.int .i64 D1, .int .i64 A0] 23)) hw
  have ba : Whole w6 w5.heap.size 23 #[.int .i64 D1, .int .i64 A0] := (Whole.new w5 _ _).named hw
  obtain ⟨g_ba, hg⟩ : ∃ g, g = w5.heap.size := ⟨_, rfl⟩
  rw [← hg] at ba ⊢
  clear hw hg
  refine (child_at _ HF.out (by omega) (by decide) (by decide) HD1.out HA1.out).mono ?_
  rintro e w7 ⟨rfl, hb⟩
  replace bp := Since.whole hb bp
  replace bq := Since.whole hb bq
  replace ba := Since.whole hb ba
  replace hs := hs.trans hb
  clear hb
  have t_ba0 := ba.cell 0
  have t_ba1 := ba.cell 1
  have l_ba := ba.lt
  go_wp2_with fail
  clear t_ba0 t_ba1 l_ba
  refine Calls.named (fun w8 hw => ?_)
  replace bp := (bp.alloc (.cells #[.int .i64 D1, .int .i64 A1] 23)).named hw
  replace bq := (bq.alloc (.cells #[.int .i64 D1, .int .i64 A1] 23)).named hw
  replace ba := (ba.alloc (.cells #[.int .i64 D1, .int .i64 A1] 23)).named hw
  replace hs : Since w w8 := Since.named (hs.alloc (.cells #[.int .i64 D1, .int .i64 A1] 23)) hw
  have bb : Whole w8 w7.heap.size 23 #[.int .i64 D1, .int .i64 A1] := (Whole.new w7 _ _).named hw
  obtain ⟨g_bb, hg⟩ : ∃ g, g = w7.heap.size := ⟨_, rfl⟩
  rw [← hg] at bb ⊢
  clear hw hg
  refine (sibling_at _ HFA.out HDP.out HSB.out).mono ?_
  rintro e w9 ⟨rfl, hb⟩
  replace bp := Since.whole hb bp
  replace bq := Since.whole hb bq
  replace ba := Since.whole hb ba
  replace bb := Since.whole hb bb
  replace hs := hs.trans hb
  clear hb
  have t_bb0 := bb.cell 0
  have t_bb1 := bb.cell 1
  have l_bb := bb.lt
  go_wp2_with fail
  clear t_bb0 t_bb1 l_bb
  refine Calls.named (fun w10 hw => ?_)
  replace bp := (bp.alloc (.cells #[.int .i64 D1, .int .i64 A1] 23)).named hw
  replace bq := (bq.alloc (.cells #[.int .i64 D1, .int .i64 A1] 23)).named hw
  replace ba := (ba.alloc (.cells #[.int .i64 D1, .int .i64 A1] 23)).named hw
  replace bb := (bb.alloc (.cells #[.int .i64 D1, .int .i64 A1] 23)).named hw
  replace hs : Since w w10 := Since.named (hs.alloc (.cells #[.int .i64 D1, .int .i64 A1] 23)) hw
  have bs : Whole w10 w9.heap.size 23 #[.int .i64 D1, .int .i64 A1] := (Whole.new w9 _ _).named hw
  obtain ⟨g_bs, hg⟩ : ∃ g, g = w9.heap.size := ⟨_, rfl⟩
  rw [← hg] at bs ⊢
  clear hw hg
  refine (parent_at _ HFB.out HDP.out HPD.out HPB.out).mono ?_
  rintro e w11 ⟨rfl, hb⟩
  replace bp := Since.whole hb bp
  replace bq := Since.whole hb bq
  replace ba := Since.whole hb ba
  replace bb := Since.whole hb bb
  replace bs := Since.whole hb bs
  replace hs := hs.trans hb
  clear hb
  go_wp2_with fail
  obtain ⟨w12, hw⟩ : ∃ w', w' = w11.alloc (.cells #[.int .i64 D, .int .i64 B] 23) := ⟨_, rfl⟩
  rw [← hw]
  replace bp := (bp.alloc (.cells #[.int .i64 D, .int .i64 B] 23)).named hw
  replace bq := (bq.alloc (.cells #[.int .i64 D, .int .i64 B] 23)).named hw
  replace ba := (ba.alloc (.cells #[.int .i64 D, .int .i64 B] 23)).named hw
  replace bb := (bb.alloc (.cells #[.int .i64 D, .int .i64 B] 23)).named hw
  replace bs := (bs.alloc (.cells #[.int .i64 D, .int .i64 B] 23)).named hw
  replace hs : Since w w12 := Since.named (hs.alloc (.cells #[.int .i64 D, .int .i64 B] 23)) hw
  have bu : Whole w12 w11.heap.size 23 #[.int .i64 D, .int .i64 B] := (Whole.new w11 _ _).named hw
  obtain ⟨g_bu, hg⟩ : ∃ g, g = w11.heap.size := ⟨_, rfl⟩
  rw [← hg] at bu ⊢
  clear hw hg
  have c_bp0 := box_cell bp 0 (.int .i64 D) rfl
  have c_bp1 := box_cell bp 1 (.int .i64 B) rfl
  have c_bq0 := box_cell bq 0 (.int .i64 F) rfl
  have c_bq1 := box_cell bq 1 (.int .i64 C) rfl
  have c_ba0 := box_cell ba 0 (.int .i64 D1) rfl
  have c_ba1 := box_cell ba 1 (.int .i64 A0) rfl
  have c_bb0 := box_cell bb 0 (.int .i64 D1) rfl
  have c_bb1 := box_cell bb 1 (.int .i64 A1) rfl
  have c_bs0 := box_cell bs 0 (.int .i64 D1) rfl
  have c_bs1 := box_cell bs 1 (.int .i64 A1) rfl
  have c_bu0 := box_cell bu 0 (.int .i64 D) rfl
  have c_bu1 := box_cell bu 1 (.int .i64 B) rfl
  have hsr := Since.refl w12
  have hsd := hsr.drew
  go_region_held3 (fun W => Since w12 W) (first | assumption | exact Since.drew (by assumption)) ((first | (go_at_call 22; (with_reducible refine (Calls.since_same (by assumption) (law_num_any _ _)).mono ?_); rintro e w50 ⟨rfl, hb50⟩) | (go_at_call 9; (with_reducible refine (Calls.since (by assumption) (above_at X1.out _)).mono ?_); rintro e w51 ⟨rfl, hb51⟩) | (go_at_call 11; (with_reducible refine (Calls.since (by assumption) (meet_at X2.out _)).mono ?_); rintro e w52 ⟨rfl, hb52⟩) | (go_at_call 27; (with_reducible refine (Calls.since (by assumption) (last_at (by first | exact X3.out | exact X4.out) _)).mono ?_); rintro e w53 ⟨rfl, hb53⟩) | (go_at_call 13; (with_reducible refine (Calls.since (by assumption) (common_at _ X5.out X6.out)).mono ?_); rintro e w54 ⟨rfl, hb54⟩) | (go_at_call 17; (with_reducible refine (Calls.since (by assumption) (knows_any _)).mono ?_); rintro e w55 ⟨rfl, hb55⟩)))
  go_wp2_with fail
  replace bp := Since.whole hb55 bp
  replace bq := Since.whole hb55 bq
  replace ba := Since.whole hb55 ba
  replace bb := Since.whole hb55 bb
  replace bs := Since.whole hb55 bs
  replace bu := Since.whole hb55 bu
  replace hs := hs.trans hb55
  clear c_bp0 c_bp1 c_bq0 c_bq1 c_ba0 c_ba1 c_bb0 c_bb1 c_bs0 c_bs1 c_bu0 c_bu1 hsr hsd
  refine (common_at _ HM.out HG.out).mono ?_
  rintro e w13 ⟨rfl, hb⟩
  replace bp := Since.whole hb bp
  replace bq := Since.whole hb bq
  replace ba := Since.whole hb ba
  replace bb := Since.whole hb bb
  replace bs := Since.whole hb bs
  replace bu := Since.whole hb bu
  replace hs := hs.trans hb
  clear hb
  have t_bp0 := bp.cell 0
  have t_bp1 := bp.cell 1
  have l_bp := bp.lt
  have t_bq0 := bq.cell 0
  have t_bq1 := bq.cell 1
  have l_bq := bq.lt
  go_wp2_with fail
  clear t_bp0 t_bp1 l_bp t_bq0 t_bq1 l_bq
  refine Calls.named (fun w14 hw => ?_)
  replace bp := (bp.alloc (.cells #[.int .i64 M, .int .i64 G] 23)).named hw
  replace bq := (bq.alloc (.cells #[.int .i64 M, .int .i64 G] 23)).named hw
  replace ba := (ba.alloc (.cells #[.int .i64 M, .int .i64 G] 23)).named hw
  replace bb := (bb.alloc (.cells #[.int .i64 M, .int .i64 G] 23)).named hw
  replace bs := (bs.alloc (.cells #[.int .i64 M, .int .i64 G] 23)).named hw
  replace bu := (bu.alloc (.cells #[.int .i64 M, .int .i64 G] 23)).named hw
  replace hs : Since w w14 := Since.named (hs.alloc (.cells #[.int .i64 M, .int .i64 G] 23)) hw
  have bc : Whole w14 w13.heap.size 23 #[.int .i64 M, .int .i64 G] := (Whole.new w13 _ _).named hw
  obtain ⟨g_bc, hg⟩ : ∃ g, g = w13.heap.size := ⟨_, rfl⟩
  rw [← hg] at bc ⊢
  clear hw hg
  have d_bp0 := box_cell bp 0 (.int .i64 D) rfl
  have d_bp1 := box_cell bp 1 (.int .i64 B) rfl
  have d_bq0 := box_cell bq 0 (.int .i64 F) rfl
  have d_bq1 := box_cell bq 1 (.int .i64 C) rfl
  have d_ba0 := box_cell ba 0 (.int .i64 D1) rfl
  have d_ba1 := box_cell ba 1 (.int .i64 A0) rfl
  have d_bb0 := box_cell bb 0 (.int .i64 D1) rfl
  have d_bb1 := box_cell bb 1 (.int .i64 A1) rfl
  have d_bs0 := box_cell bs 0 (.int .i64 D1) rfl
  have d_bs1 := box_cell bs 1 (.int .i64 A1) rfl
  have d_bu0 := box_cell bu 0 (.int .i64 D) rfl
  have d_bu1 := box_cell bu 1 (.int .i64 B) rfl
  have d_bc0 := box_cell bc 0 (.int .i64 M) rfl
  have d_bc1 := box_cell bc 1 (.int .i64 G) rfl
  have hsr := Since.refl w14
  have hsd := hsr.drew
  cases hm : metB D B F C
  rotate_left 1
  · have YM := Lib.hid hm
    have hcase : ((M == D) = true ∧ (G == B) = true) ∨ ((M == D) = false ∧ (M == F) = true ∧ (G == C) = true) ∨ ((M == D) = true ∧ (G == B) = false ∧ (M == F) = true ∧ (G == C) = true) := by
      unfold metB at hm
      rw [Bool.or_eq_true] at hm
      simp only [beq_iff_eq, beq_eq_false_iff_ne]
      rcases hm with h | h
      · obtain ⟨z1, z2⟩ := com_above h
        exact .inl ⟨HM.out.symm.trans z1, HG.out.symm.trans z2⟩
      · obtain ⟨z1, z2⟩ := com_below h
        have z3 : M = F := HM.out.symm.trans z1
        have z4 : G = C := HG.out.symm.trans z2
        by_cases z5 : M = D
        · by_cases z6 : G = B
          · exact .inl ⟨z5, z6⟩
          · exact .inr (.inr ⟨z5, z6, z3, z4⟩)
        · exact .inr (.inl ⟨z5, z3, z4⟩)
    clear hm
    rcases hcase with ⟨z1, z2⟩ | ⟨z1, z2, z3⟩ | ⟨z1, z2, z3, z4⟩
    all_goals
      go_wp2_with (first | (go_at_call 9; (with_reducible refine (Calls.since (by assumption) (above_at (by first | exact Y1.out | exact Y2.out) _)).mono ?_); rintro e w60 ⟨rfl, hb60⟩) | (go_at_call 11; (with_reducible refine (Calls.since (by assumption) (meet_at YM.out _)).mono ?_); rintro e w61 ⟨rfl, hb61⟩))
      go_ret
      exact ⟨rfl, hs.trans (by assumption)⟩
  · have YM := Lib.hid hm
    obtain ⟨l1, l2, hun⟩ := unlike HF.out HQ.out hm
    rw [HM.out, HG.out] at hun
    rw [HM.out] at l1 l2
    obtain ⟨M1, hM1⟩ : ∃ M1, M + 1 = M1 := ⟨_, rfl⟩
    obtain ⟨G0, hG0⟩ : ∃ G0, 2 * G = G0 := ⟨_, rfl⟩
    obtain ⟨G1, hG1⟩ : ∃ G1, 2 * G + 1 = G1 := ⟨_, rfl⟩
    rw [hM1, hG1, hG0] at hun
    have HM1 := Lib.hid hM1
    have HG0 := Lib.hid (show 2 * G + 0 = G0 by omega)
    have HG1 := Lib.hid hG1
    have HU := Lib.hid hun
    clear hm hM1 hG0 hG1 hun
    go_wp2_with (first | (go_at_call 9; (with_reducible refine (Calls.since (by assumption) (above_at (by first | exact Y1.out | exact Y2.out) _)).mono ?_); rintro e w60 ⟨rfl, hb60⟩) | (go_at_call 11; (with_reducible refine (Calls.since (by assumption) (meet_at YM.out _)).mono ?_); rintro e w61 ⟨rfl, hb61⟩))
    replace bp := Since.whole hb61 bp
    replace bq := Since.whole hb61 bq
    replace ba := Since.whole hb61 ba
    replace bb := Since.whole hb61 bb
    replace bs := Since.whole hb61 bs
    replace bu := Since.whole hb61 bu
    replace bc := Since.whole hb61 bc
    replace hs := hs.trans hb61
    clear d_bp0 d_bp1 d_bq0 d_bq1 d_ba0 d_ba1 d_bb0 d_bb1 d_bs0 d_bs1 d_bu0 d_bu1 d_bc0 d_bc1 hsr hsd
    refine (child_at _ HFC.out (by omega) (by decide) (by decide) HM1.out HG0.out).mono ?_
    rintro e w15 ⟨rfl, hb⟩
    replace bp := Since.whole hb bp
    replace bq := Since.whole hb bq
    replace ba := Since.whole hb ba
    replace bb := Since.whole hb bb
    replace bs := Since.whole hb bs
    replace bu := Since.whole hb bu
    replace bc := Since.whole hb bc
    replace hs := hs.trans hb
    clear hb
    have t_bc0 := bc.cell 0
    have t_bc1 := bc.cell 1
    have l_bc := bc.lt
    go_wp2_with fail
    clear t_bc0 t_bc1 l_bc
    refine Calls.named (fun w16 hw => ?_)
    replace bp := (bp.alloc (.cells #[.int .i64 M1, .int .i64 G0] 23)).named hw
    replace bq := (bq.alloc (.cells #[.int .i64 M1, .int .i64 G0] 23)).named hw
    replace ba := (ba.alloc (.cells #[.int .i64 M1, .int .i64 G0] 23)).named hw
    replace bb := (bb.alloc (.cells #[.int .i64 M1, .int .i64 G0] 23)).named hw
    replace bs := (bs.alloc (.cells #[.int .i64 M1, .int .i64 G0] 23)).named hw
    replace bu := (bu.alloc (.cells #[.int .i64 M1, .int .i64 G0] 23)).named hw
    replace bc := (bc.alloc (.cells #[.int .i64 M1, .int .i64 G0] 23)).named hw
    replace hs : Since w w16 := Since.named (hs.alloc (.cells #[.int .i64 M1, .int .i64 G0] 23)) hw
    have bx : Whole w16 w15.heap.size 23 #[.int .i64 M1, .int .i64 G0] := (Whole.new w15 _ _).named hw
    obtain ⟨g_bx, hg⟩ : ∃ g, g = w15.heap.size := ⟨_, rfl⟩
    rw [← hg] at bx ⊢
    clear hw hg
    refine (child_at _ HFC.out (by omega) (by decide) (by decide) HM1.out HG1.out).mono ?_
    rintro e w17 ⟨rfl, hb⟩
    replace bp := Since.whole hb bp
    replace bq := Since.whole hb bq
    replace ba := Since.whole hb ba
    replace bb := Since.whole hb bb
    replace bs := Since.whole hb bs
    replace bu := Since.whole hb bu
    replace bc := Since.whole hb bc
    replace bx := Since.whole hb bx
    replace hs := hs.trans hb
    clear hb
    go_wp2_with fail
    refine Calls.named (fun w18 hw => ?_)
    replace bp := (bp.alloc (.cells #[.int .i64 M1, .int .i64 G1] 23)).named hw
    replace bq := (bq.alloc (.cells #[.int .i64 M1, .int .i64 G1] 23)).named hw
    replace ba := (ba.alloc (.cells #[.int .i64 M1, .int .i64 G1] 23)).named hw
    replace bb := (bb.alloc (.cells #[.int .i64 M1, .int .i64 G1] 23)).named hw
    replace bs := (bs.alloc (.cells #[.int .i64 M1, .int .i64 G1] 23)).named hw
    replace bu := (bu.alloc (.cells #[.int .i64 M1, .int .i64 G1] 23)).named hw
    replace bc := (bc.alloc (.cells #[.int .i64 M1, .int .i64 G1] 23)).named hw
    replace bx := (bx.alloc (.cells #[.int .i64 M1, .int .i64 G1] 23)).named hw
    replace hs : Since w w18 := Since.named (hs.alloc (.cells #[.int .i64 M1, .int .i64 G1] 23)) hw
    have bz : Whole w18 w17.heap.size 23 #[.int .i64 M1, .int .i64 G1] := (Whole.new w17 _ _).named hw
    obtain ⟨g_bz, hg⟩ : ∃ g, g = w17.heap.size := ⟨_, rfl⟩
    rw [← hg] at bz ⊢
    clear hw hg
    have d_bp0 := box_cell bp 0 (.int .i64 D) rfl
    have d_bp1 := box_cell bp 1 (.int .i64 B) rfl
    have d_bq0 := box_cell bq 0 (.int .i64 F) rfl
    have d_bq1 := box_cell bq 1 (.int .i64 C) rfl
    have d_ba0 := box_cell ba 0 (.int .i64 D1) rfl
    have d_ba1 := box_cell ba 1 (.int .i64 A0) rfl
    have d_bb0 := box_cell bb 0 (.int .i64 D1) rfl
    have d_bb1 := box_cell bb 1 (.int .i64 A1) rfl
    have d_bs0 := box_cell bs 0 (.int .i64 D1) rfl
    have d_bs1 := box_cell bs 1 (.int .i64 A1) rfl
    have d_bu0 := box_cell bu 0 (.int .i64 D) rfl
    have d_bu1 := box_cell bu 1 (.int .i64 B) rfl
    have d_bc0 := box_cell bc 0 (.int .i64 M) rfl
    have d_bc1 := box_cell bc 1 (.int .i64 G) rfl
    have d_bx0 := box_cell bx 0 (.int .i64 M1) rfl
    have d_bx1 := box_cell bx 1 (.int .i64 G0) rfl
    have d_bz0 := box_cell bz 0 (.int .i64 M1) rfl
    have d_bz1 := box_cell bz 1 (.int .i64 G1) rfl
    have hsr := Since.refl w18
    have hsd := hsr.drew
    rcases HU.out with ⟨u1, u2⟩ | ⟨u1, u2, u3⟩
    · have U1 := Lib.hid u1
      have U2 := Lib.hid u2
      clear u1 u2
      refine (Calls.since_same hsr (law_num_any _ _)).mono ?_
      rintro e w69 ⟨rfl, hb69⟩
      go_wp2_with (first | (go_at_call 22; (with_reducible refine (Calls.since_same (by assumption) (law_num_any _ _)).mono ?_); rintro e w70 ⟨rfl, hb70⟩) | (go_at_call 9; (with_reducible refine (Calls.since (by assumption) (above_at (by first | exact U1.out | exact U2.out) _)).mono ?_); rintro e w71 ⟨rfl, hb71⟩))
      go_ret
      exact ⟨rfl, hs.trans (by assumption)⟩
    · have U1 := Lib.hid u1
      have U2 := Lib.hid u2
      have U3 := Lib.hid u3
      clear u1 u2 u3
      refine (Calls.since_same hsr (law_num_any _ _)).mono ?_
      rintro e w69 ⟨rfl, hb69⟩
      go_wp2_with (first | (go_at_call 22; (with_reducible refine (Calls.since_same (by assumption) (law_num_any _ _)).mono ?_); rintro e w70 ⟨rfl, hb70⟩) | (go_at_call 9; (with_reducible refine (Calls.since (by assumption) (above_at (by first | exact U1.out | exact U2.out | exact U3.out) _)).mono ?_); rintro e w71 ⟨rfl, hb71⟩))
      go_ret
      exact ⟨rfl, hs.trans (by assumption)⟩
end Go.Proofs.Ytilkifjdonafnaa
