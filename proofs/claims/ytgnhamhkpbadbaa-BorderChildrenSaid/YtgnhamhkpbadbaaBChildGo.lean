/- The law BorderChildren. -/
import Derived.Test.YtgnhamhkpbadbaaBBes
import Derived.Test.YtgnhamhkpbadbaaBChildM
namespace Go.Proofs.Ytgnhamhkpbadbaa
open Go.RowKit
set_option linter.unusedVariables false
set_option linter.unusedSimpArgs false
/-- What does not meet a zone meets none of its halves. -/
theorem met_child {k d b e c t : Int} (h : okP k d b = true) (g : okP k e c = true) (hd : d < 2 * k) (t0 : 0 ≤ t) (t1 : t ≤ 1) (m : metB d b e c = false) : metB (d + 1) (2 * b + t) e c = false := by
  obtain ⟨o0, c0⟩ := zone_child (t := t) h hd t0 t1
  have hz := (zones_ov h g).1 m
  have b0 := zone_bd h
  have b1 := zone_bd o0
  have b2 := zone_bd g
  rw [zones_ov o0 g]
  rcases (show t = 0 ∨ t = 1 by omega) with rfl | rfl
  · rcases c0 with ⟨r, e1, e2, e3⟩ | ⟨r, e1, e2, e3⟩
    · rw [e2] at b1 ⊢; dsimp only at b1 ⊢; unfold ov at *; omega
    · rw [e2] at b1 ⊢; dsimp only at b1 ⊢; unfold ov at *; omega
  · rcases c0 with ⟨r, e1, e2, e3⟩ | ⟨r, e1, e2, e3⟩
    · rw [e2] at b1 ⊢; dsimp only at b1 ⊢; unfold ov at *; omega
    · rw [e2] at b1 ⊢; dsimp only at b1 ⊢; unfold ov at *; omega
theorem half_bes {k d b e c : Int} (h : okP k d b = true) (g : okP k e c = true) (hd : d < 2 * k) (m : metB d b e c = false) : besB k d b e c = (besB k (d + 1) (2 * b) e c || besB k (d + 1) (2 * b + 1) e c) := by
  have m0 := met_child (t := 0) h g hd (by omega) (by omega) m
  have m1 := met_child (t := 1) h g hd (by omega) (by omega) m
  rw [Int.add_zero] at m0
  have hh := half_beside h g hd m m0 m1
  unfold besB
  rw [Bool.eq_iff_iff, decide_eq_true_iff, Bool.or_eq_true, decide_eq_true_iff, decide_eq_true_iff]
  exact hh.symm
set_option maxRecDepth 100000 in
set_option maxHeartbeats 6400000 in
theorem bchild_walk (k pd pb qd qb : Int) (w : World) : Calls Try.prog 7 #[.int .i64 k, .agg #[.int .i64 pd, .int .i64 pb], .agg #[.int .i64 qd, .int .i64 qb]] w fun e w' => e = .returned (.bool true) ∧ Below w.heap.size w w' := by
  have k1 := tmod_bd k 16 (by decide)
  have k2 := tmod_pos k 16 (by decide)
  obtain ⟨R, hR⟩ : ∃ R, k % 16 = R := ⟨_, rfl⟩
  have k3 : 0 ≤ R ∧ R < 16 := by omega
  rw [hR] at k2
  clear hR
  obtain ⟨K, hK⟩ : ∃ K, 1 + R = K := ⟨_, rfl⟩
  have HK0 := Lib.hid (show 0 ≤ K by omega)
  have HK1 := Lib.hid (show K ≤ 16 by omega)
  have HKM := Lib.hid (show 1 ≤ K ∧ K ≤ 16 by omega)
  obtain ⟨D, hD⟩ : ∃ z, smD K pd = z := ⟨_, rfl⟩
  obtain ⟨B, hB⟩ : ∃ z, smB K pd pb = z := ⟨_, rfl⟩
  obtain ⟨F, hF⟩ : ∃ z, smD K qd = z := ⟨_, rfl⟩
  obtain ⟨C, hC⟩ : ∃ z, smB K qd qb = z := ⟨_, rfl⟩
  have op := some_ok K pd pb (by omega)
  have oq := some_ok K qd qb (by omega)
  rw [hD, hB] at op
  rw [hF, hC] at oq
  have OP := Lib.hid op
  have OQ := Lib.hid oq
  have E1 := Lib.hid hD
  have E2 := Lib.hid hB
  have E3 := Lib.hid hF
  have E4 := Lib.hid hC
  have hD3 := (okP_iff _ _ _).1 op
  have w2k : wrap64 (2 * K) = 2 * K := IntWalk.wrap64_in _ ⟨by omega, by omega⟩
  have w2k' : IntKind.i64.wrap (2 * K) = 2 * K := IntWalk.i64_in _ (by omega)
  clear hD hB hF hC op oq hD3
  obtain ⟨w0, hw0⟩ : ∃ w0, w0 = ((w.alloc (.cells #[.int .i64 pd, .int .i64 pb] 27)).alloc (.cells #[.int .i64 qd, .int .i64 qb] 27)).alloc (.cells #[.int .i64 K] 65) := ⟨_, rfl⟩
  have hs : Since w w0 := by rw [hw0]; exact (((Since.refl w).alloc _).alloc _).alloc _
  have bp : Whole w0 (w.heap.size) 27 #[.int .i64 pd, .int .i64 pb] := by rw [hw0]; exact ((Whole.new w _ _).alloc _).alloc _
  have bq : Whole w0 (w.heap.size + 1) 27 #[.int .i64 qd, .int .i64 qb] := by rw [hw0]; exact ((Whole.new (w.alloc _) _ _).alloc _).at_ (by simp)
  have bt : Whole w0 (w.heap.size + 1 + 1) 65 #[.int .i64 K] := by rw [hw0]; exact (Whole.new ((w.alloc _).alloc _) _ _).at_ (by simp)
  have HW := Lib.hid hw0
  clear hw0
  go_enter Try.func7, Try.ntmps7
  go_wp2_with fail
  rw [← HW.out]
  have t_bp0 := bp.cell 0
  have t_bp1 := bp.cell 1
  have l_bp := bp.lt
  go_wp2_with fail
  clear t_bp0 t_bp1 l_bp
  refine (some_at w0 HK0.out HK1.out E1.out E2.out).mono ?_
  rintro e w1 ⟨rfl, hb⟩
  replace bp := Since.whole hb bp
  replace bq := Since.whole hb bq
  replace bt := Since.whole hb bt
  replace hs := hs.trans hb
  clear hb
  have t_bq0 := bq.cell 0
  have t_bq1 := bq.cell 1
  have l_bq := bq.lt
  have f_bp0 := bp.frozen 0
  have f_bp1 := bp.frozen 1
  have t_bp0 := bp.cell 0
  have t_bp1 := bp.cell 1
  go_wp2_with fail
  clear t_bq0 t_bq1 l_bq f_bp0 f_bp1 t_bp0 t_bp1
  refine Calls.named (fun w2 hw => ?_)
  replace bp : Whole w2 (w.heap.size) 27 #[.int .i64 D, .int .i64 B] := (((bp).set_ 0 _).set_ 1 _).named hw
  replace bq : Whole w2 (w.heap.size + 1) 27 #[.int .i64 qd, .int .i64 qb] := (((bq).far (p := ⟨w.heap.size, 0, none⟩) (by simp; try omega) _).far (p := ⟨w.heap.size, 1, none⟩) (by simp; try omega) _).named hw
  replace bt : Whole w2 (w.heap.size + 1 + 1) 65 #[.int .i64 K] := (((bt).far (p := ⟨w.heap.size, 0, none⟩) (by simp; try omega) _).far (p := ⟨w.heap.size, 1, none⟩) (by simp; try omega) _).named hw
  replace hs : Since w w2 := Since.named (((hs).setCell (p := ⟨w.heap.size, 0, none⟩) (by simp; try omega) _).setCell (p := ⟨w.heap.size, 1, none⟩) (by simp; try omega) _) hw
  clear hw
  refine (some_at _ HK0.out HK1.out E3.out E4.out).mono ?_
  rintro e w3 ⟨rfl, hb⟩
  replace bp := Since.whole hb bp
  replace bq := Since.whole hb bq
  replace bt := Since.whole hb bt
  replace hs := hs.trans hb
  clear hb
  by_cases hd : D = 2 * K
  · have d1 : (D == 2 * K) = true := by simpa using hd
    clear hd
    have t_bp0 := bp.cell 0
    have t_bp1 := bp.cell 1
    have l_bp := bp.lt
    have f_bq0 := bq.frozen 0
    have f_bq1 := bq.frozen 1
    have t_bq0 := bq.cell 0
    have t_bq1 := bq.cell 1
    go_wp2_with fail
    clear t_bp0 t_bp1 l_bp f_bq0 f_bq1 t_bq0 t_bq1
    refine Calls.named (fun w4 hw => ?_)
    replace bp : Whole w4 (w.heap.size) 27 #[.int .i64 D, .int .i64 B] := (((bp).far (p := ⟨w.heap.size + 1, 0, none⟩) (by simp; try omega) _).far (p := ⟨w.heap.size + 1, 1, none⟩) (by simp; try omega) _).named hw
    replace bq : Whole w4 (w.heap.size + 1) 27 #[.int .i64 F, .int .i64 C] := (((bq).set_ 0 _).set_ 1 _).named hw
    replace bt : Whole w4 (w.heap.size + 1 + 1) 65 #[.int .i64 K] := (((bt).far (p := ⟨w.heap.size + 1, 0, none⟩) (by simp; try omega) _).far (p := ⟨w.heap.size + 1, 1, none⟩) (by simp; try omega) _).named hw
    replace hs : Since w w4 := Since.named (((hs).setCell (p := ⟨w.heap.size + 1, 0, none⟩) (by simp; try omega) _).setCell (p := ⟨w.heap.size + 1, 1, none⟩) (by simp; try omega) _) hw
    clear hw
    refine (knows6 _).mono ?_
    rintro e w5 ⟨rfl, hb⟩
    replace bp := Since.whole hb bp
    replace bq := Since.whole hb bq
    replace bt := Since.whole hb bt
    replace hs := hs.trans hb
    clear hb
    go_wp2_with fail
    go_ret
    exact ⟨rfl, hs⟩
  · have d1 : (D == 2 * K) = false := by simpa using hd
    have hlt : D < 2 * K := by have := (okP_iff _ _ _).1 OP.out; omega
    have HF := Lib.hid (okP_fine OP.out)
    have HL := Lib.hid (show D < 32 by have := HKM.out; omega)
    obtain ⟨D1, hD1⟩ : ∃ z, D + 1 = z := ⟨_, rfl⟩
    obtain ⟨U0, hU0⟩ : ∃ z, 2 * B = z := ⟨_, rfl⟩
    obtain ⟨U1, hU1⟩ : ∃ z, 2 * B + 1 = z := ⟨_, rfl⟩
    have HD1 := Lib.hid hD1
    have HU0 := Lib.hid (show 2 * B + 0 = U0 by omega)
    have HU1 := Lib.hid hU1
    have HSIB := Lib.hid (show besB K D1 U0 D1 U1 = true by rw [← hD1, ← hU0, ← hU1]; exact decide_eq_true (sib_beside OP.out hlt))
    have HALF := Lib.hid (fun hm => half_bes (k := K) OP.out OQ.out hlt hm)
    rw [hU1, hU0, hD1] at HALF
    clear hd hlt hD1 hU0 hU1
    have t_bp0 := bp.cell 0
    have t_bp1 := bp.cell 1
    have l_bp := bp.lt
    have f_bq0 := bq.frozen 0
    have f_bq1 := bq.frozen 1
    have t_bq0 := bq.cell 0
    have t_bq1 := bq.cell 1
    go_wp2_with fail
    clear t_bp0 t_bp1 l_bp f_bq0 f_bq1 t_bq0 t_bq1
    refine Calls.named (fun w4 hw => ?_)
    replace bp : Whole w4 (w.heap.size) 27 #[.int .i64 D, .int .i64 B] := (((bp).far (p := ⟨w.heap.size + 1, 0, none⟩) (by simp; try omega) _).far (p := ⟨w.heap.size + 1, 1, none⟩) (by simp; try omega) _).named hw
    replace bq : Whole w4 (w.heap.size + 1) 27 #[.int .i64 F, .int .i64 C] := (((bq).set_ 0 _).set_ 1 _).named hw
    replace bt : Whole w4 (w.heap.size + 1 + 1) 65 #[.int .i64 K] := (((bt).far (p := ⟨w.heap.size + 1, 0, none⟩) (by simp; try omega) _).far (p := ⟨w.heap.size + 1, 1, none⟩) (by simp; try omega) _).named hw
    replace hs : Since w w4 := Since.named (((hs).setCell (p := ⟨w.heap.size + 1, 0, none⟩) (by simp; try omega) _).setCell (p := ⟨w.heap.size + 1, 1, none⟩) (by simp; try omega) _) hw
    clear hw
    refine (knows6 _).mono ?_
    rintro e w5 ⟨rfl, hb⟩
    replace bp := Since.whole hb bp
    replace bq := Since.whole hb bq
    replace bt := Since.whole hb bt
    replace hs := hs.trans hb
    clear hb
    have t_bp0 := bp.cell 0
    have t_bp1 := bp.cell 1
    have l_bp := bp.lt
    go_wp2_with fail
    clear t_bp0 t_bp1 l_bp
    refine (child_at _ HF.out HL.out (by decide) (by decide) HD1.out HU0.out).mono ?_
    rintro e w6 ⟨rfl, hb⟩
    replace bp := Since.whole hb bp
    replace bq := Since.whole hb bq
    replace bt := Since.whole hb bt
    replace hs := hs.trans hb
    clear hb
    have t_bp0 := bp.cell 0
    have t_bp1 := bp.cell 1
    have l_bp := bp.lt
    go_wp2_with fail
    clear t_bp0 t_bp1 l_bp
    refine Calls.named (fun w7 hw => ?_)
    replace bp := (bp.alloc (.cells #[.int .i64 D1, .int .i64 U0] 27)).named hw
    replace bq := (bq.alloc (.cells #[.int .i64 D1, .int .i64 U0] 27)).named hw
    replace bt := (bt.alloc (.cells #[.int .i64 D1, .int .i64 U0] 27)).named hw
    replace hs : Since w w7 := Since.named (hs.alloc (.cells #[.int .i64 D1, .int .i64 U0] 27)) hw
    have ba : Whole w7 w6.heap.size 27 #[.int .i64 D1, .int .i64 U0] := (Whole.new w6 _ _).named hw
    obtain ⟨g_ba, hg⟩ : ∃ g, g = w6.heap.size := ⟨_, rfl⟩
    rw [← hg] at ba ⊢
    clear hw hg
    refine (child_at _ HF.out HL.out (by decide) (by decide) HD1.out HU1.out).mono ?_
    rintro e w8 ⟨rfl, hb⟩
    replace bp := Since.whole hb bp
    replace bq := Since.whole hb bq
    replace bt := Since.whole hb bt
    replace ba := Since.whole hb ba
    replace hs := hs.trans hb
    clear hb
    have t_bt0 := bt.cell 0
    have l_bt := bt.lt
    have t_ba0 := ba.cell 0
    have t_ba1 := ba.cell 1
    have l_ba := ba.lt
    go_wp2_with fail
    clear t_bt0 l_bt t_ba0 t_ba1 l_ba
    refine Calls.named (fun w9 hw => ?_)
    replace bp := (bp.alloc (.cells #[.int .i64 D1, .int .i64 U1] 27)).named hw
    replace bq := (bq.alloc (.cells #[.int .i64 D1, .int .i64 U1] 27)).named hw
    replace bt := (bt.alloc (.cells #[.int .i64 D1, .int .i64 U1] 27)).named hw
    replace ba := (ba.alloc (.cells #[.int .i64 D1, .int .i64 U1] 27)).named hw
    replace hs : Since w w9 := Since.named (hs.alloc (.cells #[.int .i64 D1, .int .i64 U1] 27)) hw
    have bb : Whole w9 w8.heap.size 27 #[.int .i64 D1, .int .i64 U1] := (Whole.new w8 _ _).named hw
    obtain ⟨g_bb, hg⟩ : ∃ g, g = w8.heap.size := ⟨_, rfl⟩
    rw [← hg] at bb ⊢
    clear hw hg
    refine (bBeside_at HSIB.out _).mono ?_
    rintro e w10 ⟨rfl, hb⟩
    replace bp := Since.whole hb bp
    replace bq := Since.whole hb bq
    replace bt := Since.whole hb bt
    replace ba := Since.whole hb ba
    replace bb := Since.whole hb bb
    replace hs := hs.trans hb
    clear hb
    cases hm : metB D B F C
    · have HM := Lib.hid hm
      have hz := HALF.out hm
      clear hm
      obtain ⟨x, hx⟩ : ∃ z, besB K D1 U0 F C = z := ⟨_, rfl⟩
      obtain ⟨y, hy⟩ : ∃ z, besB K D1 U1 F C = z := ⟨_, rfl⟩
      rw [hx, hy] at hz
      have HX := Lib.hid hx
      have HY := Lib.hid hy
      have HZ := Lib.hid hz
      clear hx hy hz
      have t_bp0 := bp.cell 0
      have t_bp1 := bp.cell 1
      have l_bp := bp.lt
      have t_bq0 := bq.cell 0
      have t_bq1 := bq.cell 1
      have l_bq := bq.lt
      go_wp2_with fail
      clear t_bp0 t_bp1 l_bp t_bq0 t_bq1 l_bq
      refine (meet_at HM.out _).mono ?_
      rintro e w11 ⟨rfl, hb⟩
      replace bp := Since.whole hb bp
      replace bq := Since.whole hb bq
      replace bt := Since.whole hb bt
      replace ba := Since.whole hb ba
      replace bb := Since.whole hb bb
      replace hs := hs.trans hb
      clear hb
      have c_bp0 := box_cell bp 0 (.int .i64 D) rfl
      have c_bp1 := box_cell bp 1 (.int .i64 B) rfl
      have c_bq0 := box_cell bq 0 (.int .i64 F) rfl
      have c_bq1 := box_cell bq 1 (.int .i64 C) rfl
      have c_bt0 := box_cell bt 0 (.int .i64 K) rfl
      have c_ba0 := box_cell ba 0 (.int .i64 D1) rfl
      have c_ba1 := box_cell ba 1 (.int .i64 U0) rfl
      have c_bb0 := box_cell bb 0 (.int .i64 D1) rfl
      have c_bb1 := box_cell bb 1 (.int .i64 U1) rfl
      have hsr := Since.refl w11
      have hsd := hsr.drew
      cases x
      · go_upto_region 13 with fail
        go_region_held3 (fun W => Since w11 W) (first | assumption | exact Since.drew (by assumption)) ((first | (go_at_call 31; (with_reducible refine (Calls.since (by assumption) (bBeside_at HX.out _)).mono ?_); rintro e w61 ⟨rfl, hb61⟩) | (go_at_call 31; (with_reducible refine (Calls.since (by assumption) (bBeside_at HY.out _)).mono ?_); rintro e w62 ⟨rfl, hb62⟩) | (go_at_call 31; (with_reducible refine (Calls.since (by assumption) (bBeside_at HZ.out _)).mono ?_); rintro e w63 ⟨rfl, hb63⟩)))
        go_wp2
        all_goals
          go_ret
          exact ⟨by first | rfl | simp, hs.trans (by assumption)⟩
      · go_upto_region 13 with fail
        obtain ⟨wq, hwq⟩ : ∃ wq, wq = w11.drew := ⟨_, rfl⟩
        refine wp_region_held_drew (S := fun W => Since w11 W) (by kernel_rfl) hsd (fun hHeld => ?_)
        rw [← hwq] at hHeld ⊢
        have hq : Since w11 wq := hHeld
        clear hwq hsd
        refine wpAnyH_take (i := 0) (v := ?_) rfl (by kernel_rfl) (by kernel_rfl) (by kernel_rfl) (fun _ _ _ h => h) (Or.inl ⟨by rfl, ?_⟩) (by assumption) ?_
        rotate_left 1
        · (intro W hW; skip; go_simp; try with_reducible rfl)
        simp only [Act.put, List.getElem_toArray, List.getElem_cons_zero, List.setIfInBounds_toArray, List.set_cons_zero, List.set_cons_succ]
        refine wpAnyH_take (i := 1) (v := ?_) rfl (by kernel_rfl) (by kernel_rfl) (by kernel_rfl) (fun _ _ _ h => h) (Or.inl ⟨by rfl, ?_⟩) (by assumption) ?_
        rotate_left 1
        · (intro W hW; skip; go_simp; try with_reducible rfl)
        simp only [Act.put, List.getElem_toArray, List.getElem_cons_succ, List.getElem_cons_zero, List.setIfInBounds_toArray, List.set_cons_zero, List.set_cons_succ]
        refine wpAnyH_take (i := 2) (v := ?_) rfl (by kernel_rfl) (by kernel_rfl) (by kernel_rfl) (fun _ _ _ h => h) (Or.inl ⟨by rfl, ?_⟩) (by assumption) ?_
        rotate_left 1
        · (intro W hW; skip; go_simp; try with_reducible rfl)
        simp only [Act.put, List.getElem_toArray, List.getElem_cons_succ, List.getElem_cons_zero, List.setIfInBounds_toArray, List.set_cons_zero, List.set_cons_succ]
        refine wpAnyH_take (i := 10) (v := ?_) rfl (by kernel_rfl) (by kernel_rfl) (by kernel_rfl) (fun _ _ _ h => h) (Or.inl ⟨by rfl, ?_⟩) (by assumption) ?_
        rotate_left 1
        · (intro W hW; skip; go_simp; try with_reducible rfl)
        simp only [Act.put, List.getElem_toArray, List.getElem_cons_succ, List.getElem_cons_zero, List.setIfInBounds_toArray, List.set_cons_zero, List.set_cons_succ]
        refine wpAnyH_take (i := 11) (v := ?_) rfl (by kernel_rfl) (by kernel_rfl) (by kernel_rfl) (fun _ _ _ h => h) (Or.inl ⟨by rfl, ?_⟩) (by assumption) ?_
        rotate_left 1
        · (intro W hW; skip; go_simp; try with_reducible rfl)
        simp only [Act.put, List.getElem_toArray, List.getElem_cons_succ, List.getElem_cons_zero, List.setIfInBounds_toArray, List.set_cons_zero, List.set_cons_succ]
        refine wpAnyH_take (i := 12) (v := ?_) rfl (by kernel_rfl) (by kernel_rfl) (by kernel_rfl) (fun _ _ _ h => h) (Or.inl ⟨by rfl, ?_⟩) (by assumption) ?_
        rotate_left 1
        · (intro W hW; skip; go_simp; try with_reducible rfl)
        simp only [Act.put, List.getElem_toArray, List.getElem_cons_succ, List.getElem_cons_zero, List.setIfInBounds_toArray, List.set_cons_zero, List.set_cons_succ]
        refine wpAnyH_ready (rs := [3]) (by kernel_rfl) (by simp) ?_
        refine AllReadyH.cons rfl (fun K hK => ?_) AllReadyH.nil
        go_simp
        refine (Calls.since hq (bBeside_at HX.out _)).mono ?_
        rintro e wA ⟨rfl, hA⟩
        go_wp2_with fail
        refine hK.out _ _ (hA) (fun hHeld => ?_)
        clear hK K
        try simp only [Act.put, List.getElem_toArray, List.getElem_cons_succ, List.getElem_cons_zero, List.setIfInBounds_toArray, List.set_cons_zero, List.set_cons_succ]
        refine wpAnyH_take (i := 4) (v := ?_) rfl (by kernel_rfl) (by kernel_rfl) (by kernel_rfl) (fun _ _ _ h => h) (Or.inl ⟨by rfl, ?_⟩) (by assumption) ?_
        rotate_left 1
        · (intro W hW; clear hW; go_simp; try with_reducible rfl)
        simp only [Act.put, List.getElem_toArray, List.getElem_cons_succ, List.getElem_cons_zero, List.setIfInBounds_toArray, List.set_cons_zero, List.set_cons_succ]
        refine wpAnyH_take (i := 5) (v := undef) rfl (by kernel_rfl) (by kernel_rfl) (by kernel_rfl) (fun _ _ _ h => h) (Or.inr ⟨by rfl, rfl⟩) (by assumption) ?_
        simp only [Act.put, List.getElem_toArray, List.getElem_cons_succ, List.getElem_cons_zero, List.setIfInBounds_toArray, List.set_cons_zero, List.set_cons_succ]
        refine wpAnyH_take (i := 6) (v := undef) rfl (by kernel_rfl) (by kernel_rfl) (by kernel_rfl) (fun _ _ _ h => h) (Or.inr ⟨by rfl, rfl⟩) (by assumption) ?_
        simp only [Act.put, List.getElem_toArray, List.getElem_cons_succ, List.getElem_cons_zero, List.setIfInBounds_toArray, List.set_cons_zero, List.set_cons_succ]
        refine wpAnyH_take (i := 7) (v := undef) rfl (by kernel_rfl) (by kernel_rfl) (by kernel_rfl) (fun _ _ _ h => h) (Or.inr ⟨by rfl, rfl⟩) (by assumption) ?_
        simp only [Act.put, List.getElem_toArray, List.getElem_cons_succ, List.getElem_cons_zero, List.setIfInBounds_toArray, List.set_cons_zero, List.set_cons_succ]
        refine wpAnyH_take (i := 8) (v := undef) rfl (by kernel_rfl) (by kernel_rfl) (by kernel_rfl) (fun _ _ _ h => h) (Or.inr ⟨by rfl, rfl⟩) (by assumption) ?_
        simp only [Act.put, List.getElem_toArray, List.getElem_cons_succ, List.getElem_cons_zero, List.setIfInBounds_toArray, List.set_cons_zero, List.set_cons_succ]
        refine wpAnyH_take (i := 9) (v := ?_) rfl (by kernel_rfl) (by kernel_rfl) (by kernel_rfl) (fun _ _ _ h => h) (Or.inl ⟨by rfl, ?_⟩) (by assumption) ?_
        rotate_left 1
        · (intro W hW; clear hW; go_simp; try with_reducible rfl)
        simp only [Act.put, List.getElem_toArray, List.getElem_cons_succ, List.getElem_cons_zero, List.setIfInBounds_toArray, List.set_cons_zero, List.set_cons_succ]
        refine wpAnyH_ready (rs := [13]) (by kernel_rfl) (by simp) ?_
        refine AllReadyH.cons rfl (fun K hK => ?_) AllReadyH.nil
        go_simp
        refine (Calls.since hA (bBeside_at HZ.out _)).mono ?_
        rintro e wB ⟨rfl, hB⟩
        go_wp2_with fail
        refine hK.out _ _ (hB) (fun hHeld => ?_)
        clear hK K
        try simp only [Act.put, List.getElem_toArray, List.getElem_cons_succ, List.getElem_cons_zero, List.setIfInBounds_toArray, List.set_cons_zero, List.set_cons_succ]
        refine wpAnyH_take (i := 14) (v := ?_) rfl (by kernel_rfl) (by kernel_rfl) (by kernel_rfl) (fun _ _ _ h => h) (Or.inl ⟨by rfl, ?_⟩) (by assumption) ?_
        rotate_left 1
        · (intro W hW; clear hW; go_simp; try with_reducible rfl)
        simp only [Act.put, List.getElem_toArray, List.getElem_cons_succ, List.getElem_cons_zero, List.setIfInBounds_toArray, List.set_cons_zero, List.set_cons_succ]
        refine wpAnyH_take (i := 15) (v := ?_) rfl (by kernel_rfl) (by kernel_rfl) (by kernel_rfl) (fun _ _ _ h => h) (Or.inl ⟨by rfl, ?_⟩) (by assumption) ?_
        rotate_left 1
        · (intro W hW; clear hW; go_simp; try with_reducible rfl)
        simp only [Act.put, List.getElem_toArray, List.getElem_cons_succ, List.getElem_cons_zero, List.setIfInBounds_toArray, List.set_cons_zero, List.set_cons_succ]
        refine wpAnyH_done (by kernel_rfl) ?_ _
        go_wp2_with fail
        go_ret
        exact ⟨by first | rfl | simp, hs.trans (by assumption)⟩
    · have HM := Lib.hid hm
      have HB := Lib.hid (show besB K D B F C = false by unfold besB; rw [len_met hm]; rfl)
      clear hm
      have t_bp0 := bp.cell 0
      have t_bp1 := bp.cell 1
      have l_bp := bp.lt
      have t_bq0 := bq.cell 0
      have t_bq1 := bq.cell 1
      have l_bq := bq.lt
      go_wp2_with fail
      clear t_bp0 t_bp1 l_bp t_bq0 t_bq1 l_bq
      refine (meet_at HM.out _).mono ?_
      rintro e w11 ⟨rfl, hb⟩
      replace bp := Since.whole hb bp
      replace bq := Since.whole hb bq
      replace bt := Since.whole hb bt
      replace ba := Since.whole hb ba
      replace bb := Since.whole hb bb
      replace hs := hs.trans hb
      clear hb
      have t_bt0 := bt.cell 0
      have l_bt := bt.lt
      have t_bp0 := bp.cell 0
      have t_bp1 := bp.cell 1
      have l_bp := bp.lt
      have t_bq0 := bq.cell 0
      have t_bq1 := bq.cell 1
      have l_bq := bq.lt
      go_wp2_with fail
      clear t_bt0 l_bt t_bp0 t_bp1 l_bp t_bq0 t_bq1 l_bq
      refine (bBeside_at HB.out _).mono ?_
      rintro e w12 ⟨rfl, hb⟩
      replace bp := Since.whole hb bp
      replace bq := Since.whole hb bq
      replace bt := Since.whole hb bt
      replace ba := Since.whole hb ba
      replace bb := Since.whole hb bb
      replace hs := hs.trans hb
      clear hb
      go_wp2_with fail
      go_ret
      exact ⟨rfl, hs⟩
end Go.Proofs.Ytgnhamhkpbadbaa
