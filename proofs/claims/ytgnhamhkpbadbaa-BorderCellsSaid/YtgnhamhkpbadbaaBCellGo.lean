/- The law BorderCells. -/
import Derived.Test.YtgnhamhkpbadbaaBCellW
namespace Go.Proofs.Ytgnhamhkpbadbaa
open Go.RowKit
set_option linter.unusedVariables false
set_option linter.unusedSimpArgs false
theorem shd_comm (a b c d : Int) : shd a b c d = shd c d a b := by unfold shd; omega
theorem len_comm (k d b e c : Int) : lenP k d b e c = lenP k e c d b := by
  have ha : apz k e c d b = apz k d b e c := by
    unfold apz metB
    rw [Bool.or_comm (abvB e c d b), Bool.and_comm (okP k e c)]
  unfold lenP
  rw [ha]
  by_cases h : apz k d b e c = true
  · have h1 : okP k d b = true := by unfold apz at h; simp only [Bool.and_eq_true] at h; exact h.1.1
    have h2 : okP k e c = true := by unfold apz at h; simp only [Bool.and_eq_true] at h; exact h.1.2
    have b1 := zone_bd h1
    have b2 := zone_bd h2
    rw [if_pos h, if_pos h, shd_comm (zy0 k d b), shd_comm (zx0 k d b)]
    unfold zx0 zx1 zy0 zy1
    rw [tou_comm b1.1 b2.1, tou_comm b1.2 b2.2]
  · rw [if_neg h, if_neg h]
set_option maxRecDepth 100000 in
set_option maxHeartbeats 6400000 in
theorem bcells_walk (k pd pb qd qb : Int) (w : World) : Calls Try.prog 5 #[.int .i64 k, .agg #[.int .i64 pd, .int .i64 pb], .agg #[.int .i64 qd, .int .i64 qb]] w fun e w' => e = .returned (.bool true) ∧ Below w.heap.size w w' := by
  have k1 := tmod_bd k 4 (by decide)
  have k2 := tmod_pos k 4 (by decide)
  obtain ⟨R, hR⟩ : ∃ R, k % 4 = R := ⟨_, rfl⟩
  have k3 : 0 ≤ R ∧ R < 4 := by omega
  rw [hR] at k2
  clear hR
  obtain ⟨K, hK⟩ : ∃ K, 1 + R = K := ⟨_, rfl⟩
  have HK0 := Lib.hid (show 0 ≤ K by omega)
  have HK1 := Lib.hid (show K ≤ 16 by omega)
  have HKM := Lib.hid (show 1 ≤ K ∧ K ≤ 4 by omega)
  obtain ⟨D, hD⟩ : ∃ z, smD K pd = z := ⟨_, rfl⟩
  obtain ⟨B, hB⟩ : ∃ z, smB K pd pb = z := ⟨_, rfl⟩
  obtain ⟨F, hF⟩ : ∃ z, smD K qd = z := ⟨_, rfl⟩
  obtain ⟨C, hC⟩ : ∃ z, smB K qd qb = z := ⟨_, rfl⟩
  have op := some_ok K pd pb (by omega)
  have oq := some_ok K qd qb (by omega)
  rw [hD, hB] at op
  rw [hF, hC] at oq
  have OP := Lib.hid op
  have OQ := Lib.hid oq
  have E1 := Lib.hid hD
  have E2 := Lib.hid hB
  have E3 := Lib.hid hF
  have E4 := Lib.hid hC
  have hD3 := (okP_iff _ _ _).1 op
  have w2k : wrap64 (2 * K) = 2 * K := IntWalk.wrap64_in _ ⟨by omega, by omega⟩
  have w2k' : IntKind.i64.wrap (2 * K) = 2 * K := IntWalk.i64_in _ (by omega)
  obtain ⟨n, hn⟩ : ∃ n, lenP K D B F C = n := ⟨_, rfl⟩
  have HL := Lib.hid hn
  have HL2 := Lib.hid ((len_comm K F C D B).trans hn)
  clear hD hB hF hC op oq hD3 hn
  obtain ⟨w0, hw0⟩ : ∃ w0, w0 = ((w.alloc (.cells #[.int .i64 pd, .int .i64 pb] 27)).alloc (.cells #[.int .i64 qd, .int .i64 qb] 27)).alloc (.cells #[.int .i64 K] 65) := ⟨_, rfl⟩
  have hs : Since w w0 := by rw [hw0]; exact (((Since.refl w).alloc _).alloc _).alloc _
  have bp : Whole w0 (w.heap.size) 27 #[.int .i64 pd, .int .i64 pb] := by rw [hw0]; exact ((Whole.new w _ _).alloc _).alloc _
  have bq : Whole w0 (w.heap.size + 1) 27 #[.int .i64 qd, .int .i64 qb] := by rw [hw0]; exact ((Whole.new (w.alloc _) _ _).alloc _).at_ (by simp)
  have bt : Whole w0 (w.heap.size + 1 + 1) 65 #[.int .i64 K] := by rw [hw0]; exact (Whole.new ((w.alloc _).alloc _) _ _).at_ (by simp)
  have HW := Lib.hid hw0
  clear hw0
  go_enter Try.func5, Try.ntmps5
  go_wp2_with fail
  rw [← HW.out]
  have t_bp0 := bp.cell 0
  have t_bp1 := bp.cell 1
  have l_bp := bp.lt
  go_wp2_with fail
  clear t_bp0 t_bp1 l_bp
  refine (some_at w0 HK0.out HK1.out E1.out E2.out).mono ?_
  rintro e w1 ⟨rfl, hb⟩
  replace bp := Since.whole hb bp
  replace bq := Since.whole hb bq
  replace bt := Since.whole hb bt
  replace hs := hs.trans hb
  clear hb
  have t_bq0 := bq.cell 0
  have t_bq1 := bq.cell 1
  have l_bq := bq.lt
  have f_bp0 := bp.frozen 0
  have f_bp1 := bp.frozen 1
  have t_bp0 := bp.cell 0
  have t_bp1 := bp.cell 1
  go_wp2_with fail
  clear t_bq0 t_bq1 l_bq f_bp0 f_bp1 t_bp0 t_bp1
  refine Calls.named (fun w2 hw => ?_)
  replace bp : Whole w2 (w.heap.size) 27 #[.int .i64 D, .int .i64 B] := (((bp).set_ 0 _).set_ 1 _).named hw
  replace bq : Whole w2 (w.heap.size + 1) 27 #[.int .i64 qd, .int .i64 qb] := (((bq).far (p := ⟨w.heap.size, 0, none⟩) (by simp; try omega) _).far (p := ⟨w.heap.size, 1, none⟩) (by simp; try omega) _).named hw
  replace bt : Whole w2 (w.heap.size + 1 + 1) 65 #[.int .i64 K] := (((bt).far (p := ⟨w.heap.size, 0, none⟩) (by simp; try omega) _).far (p := ⟨w.heap.size, 1, none⟩) (by simp; try omega) _).named hw
  replace hs : Since w w2 := Since.named (((hs).setCell (p := ⟨w.heap.size, 0, none⟩) (by simp; try omega) _).setCell (p := ⟨w.heap.size, 1, none⟩) (by simp; try omega) _) hw
  clear hw
  refine (some_at _ HK0.out HK1.out E3.out E4.out).mono ?_
  rintro e w3 ⟨rfl, hb⟩
  replace bp := Since.whole hb bp
  replace bq := Since.whole hb bq
  replace bt := Since.whole hb bt
  replace hs := hs.trans hb
  clear hb
  have t_bt0 := bt.cell 0
  have l_bt := bt.lt
  have t_bp0 := bp.cell 0
  have t_bp1 := bp.cell 1
  have l_bp := bp.lt
  have f_bq0 := bq.frozen 0
  have f_bq1 := bq.frozen 1
  have t_bq0 := bq.cell 0
  have t_bq1 := bq.cell 1
  go_wp2_with fail
  clear t_bt0 l_bt t_bp0 t_bp1 l_bp f_bq0 f_bq1 t_bq0 t_bq1
  refine Calls.named (fun w4 hw => ?_)
  replace bp : Whole w4 (w.heap.size) 27 #[.int .i64 D, .int .i64 B] := (((bp).far (p := ⟨w.heap.size + 1, 0, none⟩) (by simp; try omega) _).far (p := ⟨w.heap.size + 1, 1, none⟩) (by simp; try omega) _).named hw
  replace bq : Whole w4 (w.heap.size + 1) 27 #[.int .i64 F, .int .i64 C] := (((bq).set_ 0 _).set_ 1 _).named hw
  replace bt : Whole w4 (w.heap.size + 1 + 1) 65 #[.int .i64 K] := (((bt).far (p := ⟨w.heap.size + 1, 0, none⟩) (by simp; try omega) _).far (p := ⟨w.heap.size + 1, 1, none⟩) (by simp; try omega) _).named hw
  replace hs : Since w w4 := Since.named (((hs).setCell (p := ⟨w.heap.size + 1, 0, none⟩) (by simp; try omega) _).setCell (p := ⟨w.heap.size + 1, 1, none⟩) (by simp; try omega) _) hw
  clear hw
  refine (bLength_at HL.out _).mono ?_
  rintro e w5 ⟨rfl, hb⟩
  replace bp := Since.whole hb bp
  replace bq := Since.whole hb bq
  replace bt := Since.whole hb bt
  replace hs := hs.trans hb
  clear hb
  have c_bp0 := box_cell bp 0 (.int .i64 D) rfl
  have c_bp1 := box_cell bp 1 (.int .i64 B) rfl
  have c_bq0 := box_cell bq 0 (.int .i64 F) rfl
  have c_bq1 := box_cell bq 1 (.int .i64 C) rfl
  have c_bt0 := box_cell bt 0 (.int .i64 K) rfl
  have hsr := Since.refl w5
  have hsd := hsr.drew
  have nn : (n != n) = false := by simp
  have nn2 : (n == n) = true := by simp
  cases hm : metB D B F C
  · have HM := Lib.hid hm
    have hce := cel_eq OP.out OQ.out hm
    rw [HL.out] at hce
    obtain ⟨⟨p, q, r, s⟩, hz⟩ : ∃ z, zoneR K D B = z := ⟨_, rfl⟩
    rw [hz] at hce
    have HCE := Lib.hid (fun W : World => hce ▸ cells_any HKM.out OP.out OQ.out hz W)
    clear hm hce hz
    by_cases hn : 0 < n
    · have d1 : decide (0 < n) = true := decide_eq_true hn
      have HB1 := Lib.hid (show besB K D B F C = true by unfold besB; rw [HL.out]; exact d1)
      have HB2 := Lib.hid (show besB K F C D B = true by unfold besB; rw [HL2.out]; exact d1)
      clear hn
      go_wp2_with (first | (go_at_call 29; (with_reducible refine (Calls.since (by assumption) (bLength_at HL2.out _)).mono ?_); rintro e w61 ⟨rfl, hb61⟩) | (go_at_call 31; (with_reducible refine (Calls.since (by assumption) (bBeside_at HB1.out _)).mono ?_); rintro e w62 ⟨rfl, hb62⟩) | (go_at_call 31; (with_reducible refine (Calls.since (by assumption) (bBeside_at HB2.out _)).mono ?_); rintro e w63 ⟨rfl, hb63⟩) | (go_at_call 35; (with_reducible refine (Calls.since (by assumption) (knows6 _)).mono ?_); rintro e w64 ⟨rfl, hb64⟩) | (go_at_call 37; (with_reducible refine (Calls.since (by assumption) (meet_at HM.out _)).mono ?_); rintro e w65 ⟨rfl, hb65⟩) | (go_at_call 38; (with_reducible refine (Calls.since (by assumption) (HCE.out _)).mono ?_); rintro e w66 ⟨rfl, hb66⟩))
      all_goals
        go_ret
        exact ⟨by first | rfl | simp, hs.trans (by assumption)⟩
    · have d1 : decide (0 < n) = false := decide_eq_false hn
      have HB1 := Lib.hid (show besB K D B F C = false by unfold besB; rw [HL.out]; exact d1)
      have HB2 := Lib.hid (show besB K F C D B = false by unfold besB; rw [HL2.out]; exact d1)
      clear hn
      go_wp2_with (first | (go_at_call 29; (with_reducible refine (Calls.since (by assumption) (bLength_at HL2.out _)).mono ?_); rintro e w61 ⟨rfl, hb61⟩) | (go_at_call 31; (with_reducible refine (Calls.since (by assumption) (bBeside_at HB1.out _)).mono ?_); rintro e w62 ⟨rfl, hb62⟩) | (go_at_call 31; (with_reducible refine (Calls.since (by assumption) (bBeside_at HB2.out _)).mono ?_); rintro e w63 ⟨rfl, hb63⟩) | (go_at_call 35; (with_reducible refine (Calls.since (by assumption) (knows6 _)).mono ?_); rintro e w64 ⟨rfl, hb64⟩) | (go_at_call 37; (with_reducible refine (Calls.since (by assumption) (meet_at HM.out _)).mono ?_); rintro e w65 ⟨rfl, hb65⟩) | (go_at_call 38; (with_reducible refine (Calls.since (by assumption) (HCE.out _)).mono ?_); rintro e w66 ⟨rfl, hb66⟩))
      all_goals
        go_ret
        exact ⟨by first | rfl | simp, hs.trans (by assumption)⟩
  · have HM := Lib.hid hm
    have hn0 : n = 0 := by rw [← HL.out]; exact len_met hm
    subst hn0
    have d1 : decide ((0 : Int) < 0) = false := by decide
    have HB1 := Lib.hid (show besB K D B F C = false by unfold besB; rw [HL.out]; rfl)
    have HB2 := Lib.hid (show besB K F C D B = false by unfold besB; rw [HL2.out]; rfl)
    clear hm
    go_wp2_with (first | (go_at_call 29; (with_reducible refine (Calls.since (by assumption) (bLength_at HL2.out _)).mono ?_); rintro e w61 ⟨rfl, hb61⟩) | (go_at_call 31; (with_reducible refine (Calls.since (by assumption) (bBeside_at HB1.out _)).mono ?_); rintro e w62 ⟨rfl, hb62⟩) | (go_at_call 31; (with_reducible refine (Calls.since (by assumption) (bBeside_at HB2.out _)).mono ?_); rintro e w63 ⟨rfl, hb63⟩) | (go_at_call 35; (with_reducible refine (Calls.since (by assumption) (knows6 _)).mono ?_); rintro e w64 ⟨rfl, hb64⟩) | (go_at_call 37; (with_reducible refine (Calls.since (by assumption) (meet_at HM.out _)).mono ?_); rintro e w65 ⟨rfl, hb65⟩))
    all_goals
      go_ret
      exact ⟨by first | rfl | simp, hs.trans (by assumption)⟩
end Go.Proofs.Ytgnhamhkpbadbaa
