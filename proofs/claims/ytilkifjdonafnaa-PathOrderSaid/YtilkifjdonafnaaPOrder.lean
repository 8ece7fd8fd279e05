/- The walk of the law PathOrder. -/
import Derived.Test.YtilkifjdonafnaaPOrdM
namespace Go.Proofs.Ytilkifjdonafnaa
open Go.RowKit
set_option maxRecDepth 100000 in
set_option maxHeartbeats 2000000 in
theorem order_walk (pd pb qd qb rd rb : Int) (w : World) : Calls Try.prog 7 #[.agg #[.int .i64 pd, .int .i64 pb], .agg #[.int .i64 qd, .int .i64 qb], .agg #[.int .i64 rd, .int .i64 rb]] w fun e w' => e = .returned (.bool true) ∧ Below w.heap.size w w' := by
  obtain ⟨D, hD⟩ : ∃ D, smD 16 pd = D := ⟨_, rfl⟩
  obtain ⟨B, hBB⟩ : ∃ B, smB 16 pd pb = B := ⟨_, rfl⟩
  obtain ⟨F, hF⟩ : ∃ F, smD 16 qd = F := ⟨_, rfl⟩
  obtain ⟨C, hCC⟩ : ∃ C, smB 16 qd qb = C := ⟨_, rfl⟩
  obtain ⟨U, hU⟩ : ∃ U, smD 16 rd = U := ⟨_, rfl⟩
  obtain ⟨V, hV⟩ : ∃ V, smB 16 rd rb = V := ⟨_, rfl⟩
  have hfp := some_fine 16 pd pb (by omega)
  have hfq := some_fine 16 qd qb (by omega)
  have hfr := some_fine 16 rd rb (by omega)
  rw [hD, hBB] at hfp
  rw [hF, hCC] at hfq
  rw [hU, hV] at hfr
  obtain ⟨a, hA⟩ : ∃ a, cmpP D B F C = a := ⟨_, rfl⟩
  obtain ⟨b, hB⟩ : ∃ b, cmpP F C U V = b := ⟨_, rfl⟩
  obtain ⟨c, hC⟩ : ∃ c, cmpP D B U V = c := ⟨_, rfl⟩
  have hN : cmpP F C D B = -a := by rw [cmpP_anti hfp hfq, hA]
  have haz : a = 0 ↔ D = F ∧ B = C := hA ▸ cmpP_zero hfp hfq
  have hab := cmpP_bd hfp hfq
  rw [hA] at hab
  have htr : a ≤ 0 → b ≤ 0 → c ≤ 0 := fun h1 h2 => by rw [← hC]; exact cmpP_trans hfp hfq hfr (by rw [hA]; exact h1) (by rw [hB]; exact h2)
  obtain ⟨x, hX⟩ : ∃ x, abvB D B F C = x := ⟨_, rfl⟩
  obtain ⟨y, hY⟩ : ∃ y, abvB D B U V = y := ⟨_, rfl⟩
  have hxa : x = true → a ≤ 0 := fun h => by rw [← hA]; exact abv_le (hX.trans h)
  have hyr : y = true → x = false → a ≤ 0 → 0 < b := fun h1 h2 h3 => by rw [← hB]; exact abv_run hfq (hY.trans h1) (hX.trans h2) (by rw [hA]; exact h3)
  have E1 := Lib.hid hD
  have E2 := Lib.hid hBB
  have E3 := Lib.hid hF
  have E4 := Lib.hid hCC
  have E5 := Lib.hid hU
  have E6 := Lib.hid hV
  clear hD hBB hF hCC hU hV hfp hfq hfr
  obtain ⟨w0, hw0⟩ : ∃ w0, w0 = ((w.alloc (.cells #[.int .i64 pd, .int .i64 pb] 23)).alloc (.cells #[.int .i64 qd, .int .i64 qb] 23)).alloc (.cells #[.int .i64 rd, .int .i64 rb] 23) := ⟨_, rfl⟩
  have hs0 : Since w w0 := by rw [hw0]; exact (((Since.refl w).alloc _).alloc _).alloc _
  have wh0 : Whole w0 (w.heap.size) 23 #[.int .i64 pd, .int .i64 pb] := by rw [hw0]; exact ((Whole.new w _ _).alloc _).alloc _
  have wh1 : Whole w0 (w.heap.size + 1) 23 #[.int .i64 qd, .int .i64 qb] := by rw [hw0]; exact ((Whole.new (w.alloc _) _ _).alloc _).at_ (by simp)
  have wh2 : Whole w0 (w.heap.size + 1 + 1) 23 #[.int .i64 rd, .int .i64 rb] := by rw [hw0]; exact (Whole.new ((w.alloc _).alloc _) _ _).at_ (by simp)
  have HW := Lib.hid hw0
  have c0_0 := box_cell wh0 0 (.int .i64 pd) rfl
  have c0_1 := box_cell wh0 1 (.int .i64 pb) rfl
  have c1_0 := box_cell wh1 0 (.int .i64 qd) rfl
  have c1_1 := box_cell wh1 1 (.int .i64 qb) rfl
  have c2_0 := box_cell wh2 0 (.int .i64 rd) rfl
  have c2_1 := box_cell wh2 1 (.int .i64 rb) rfl
  have hsr := Since.refl w0
  have hsd := hsr.drew
  clear hw0
  have bp := wh0
  have bq := wh1
  have br := wh2
  have hs : Since w w0 := hs0
  clear wh0 wh1 wh2 c0_0 c0_1 c1_0 c1_1 c2_0 c2_1 hsr hsd hs0
  go_enter Try.func7, Try.ntmps7
  go_wp2_with fail
  rw [← HW.out]
  have t_bp0 := bp.cell 0
  have t_bp1 := bp.cell 1
  have l_bp := bp.lt
  go_wp2_with fail
  clear t_bp0 t_bp1 l_bp
  refine (some_at w0 (by decide) (by decide) E1.out E2.out).mono ?_
  rintro e w1 ⟨rfl, hb⟩
  replace bp := Since.whole hb bp
  replace bq := Since.whole hb bq
  replace br := Since.whole hb br
  replace hs := hs.trans hb
  clear hb
  have t_bq0 := bq.cell 0
  have t_bq1 := bq.cell 1
  have l_bq := bq.lt
  have f_bp0 := bp.frozen 0
  have f_bp1 := bp.frozen 1
  have t_bp0 := bp.cell 0
  have t_bp1 := bp.cell 1
  go_wp2_with fail
  clear t_bq0 t_bq1 l_bq f_bp0 f_bp1 t_bp0 t_bp1
  refine Calls.named (fun w2 hw => ?_)
  replace bp : Whole w2 (w.heap.size) 23 #[.int .i64 D, .int .i64 B] := (((bp).set_ 0 _).set_ 1 _).named hw
  replace bq : Whole w2 (w.heap.size + 1) 23 #[.int .i64 qd, .int .i64 qb] := (((bq).far (p := ⟨w.heap.size, 0, none⟩) (by simp; try omega) _).far (p := ⟨w.heap.size, 1, none⟩) (by simp; try omega) _).named hw
  replace br : Whole w2 (w.heap.size + 1 + 1) 23 #[.int .i64 rd, .int .i64 rb] := (((br).far (p := ⟨w.heap.size, 0, none⟩) (by simp; try omega) _).far (p := ⟨w.heap.size, 1, none⟩) (by simp; try omega) _).named hw
  replace hs : Since w w2 := Since.named (((hs).setCell (p := ⟨w.heap.size, 0, none⟩) (by simp; try omega) _).setCell (p := ⟨w.heap.size, 1, none⟩) (by simp; try omega) _) hw
  clear hw
  refine (some_at _ (by decide) (by decide) E3.out E4.out).mono ?_
  rintro e w3 ⟨rfl, hb⟩
  replace bp := Since.whole hb bp
  replace bq := Since.whole hb bq
  replace br := Since.whole hb br
  replace hs := hs.trans hb
  clear hb
  have t_br0 := br.cell 0
  have t_br1 := br.cell 1
  have l_br := br.lt
  have f_bq0 := bq.frozen 0
  have f_bq1 := bq.frozen 1
  have t_bq0 := bq.cell 0
  have t_bq1 := bq.cell 1
  go_wp2_with fail
  clear t_br0 t_br1 l_br f_bq0 f_bq1 t_bq0 t_bq1
  refine Calls.named (fun w4 hw => ?_)
  replace bp : Whole w4 (w.heap.size) 23 #[.int .i64 D, .int .i64 B] := (((bp).far (p := ⟨w.heap.size + 1, 0, none⟩) (by simp; try omega) _).far (p := ⟨w.heap.size + 1, 1, none⟩) (by simp; try omega) _).named hw
  replace bq : Whole w4 (w.heap.size + 1) 23 #[.int .i64 F, .int .i64 C] := (((bq).set_ 0 _).set_ 1 _).named hw
  replace br : Whole w4 (w.heap.size + 1 + 1) 23 #[.int .i64 rd, .int .i64 rb] := (((br).far (p := ⟨w.heap.size + 1, 0, none⟩) (by simp; try omega) _).far (p := ⟨w.heap.size + 1, 1, none⟩) (by simp; try omega) _).named hw
  replace hs : Since w w4 := Since.named (((hs).setCell (p := ⟨w.heap.size + 1, 0, none⟩) (by simp; try omega) _).setCell (p := ⟨w.heap.size + 1, 1, none⟩) (by simp; try omega) _) hw
  clear hw
  refine (some_at _ (by decide) (by decide) E5.out E6.out).mono ?_
  rintro e w5 ⟨rfl, hb⟩
  replace bp := Since.whole hb bp
  replace bq := Since.whole hb bq
  replace br := Since.whole hb br
  replace hs := hs.trans hb
  clear hb
  have t_bp0 := bp.cell 0
  have t_bp1 := bp.cell 1
  have l_bp := bp.lt
  have t_bq0 := bq.cell 0
  have t_bq1 := bq.cell 1
  have l_bq := bq.lt
  have f_br0 := br.frozen 0
  have f_br1 := br.frozen 1
  have t_br0 := br.cell 0
  have t_br1 := br.cell 1
  go_wp2_with fail
  clear t_bp0 t_bp1 l_bp t_bq0 t_bq1 l_bq f_br0 f_br1 t_br0 t_br1
  refine Calls.named (fun w6 hw => ?_)
  replace bp : Whole w6 (w.heap.size) 23 #[.int .i64 D, .int .i64 B] := (((bp).far (p := ⟨w.heap.size + 1 + 1, 0, none⟩) (by simp; try omega) _).far (p := ⟨w.heap.size + 1 + 1, 1, none⟩) (by simp; try omega) _).named hw
  replace bq : Whole w6 (w.heap.size + 1) 23 #[.int .i64 F, .int .i64 C] := (((bq).far (p := ⟨w.heap.size + 1 + 1, 0, none⟩) (by simp; try omega) _).far (p := ⟨w.heap.size + 1 + 1, 1, none⟩) (by simp; try omega) _).named hw
  replace br : Whole w6 (w.heap.size + 1 + 1) 23 #[.int .i64 U, .int .i64 V] := (((br).set_ 0 _).set_ 1 _).named hw
  replace hs : Since w w6 := Since.named (((hs).setCell (p := ⟨w.heap.size + 1 + 1, 0, none⟩) (by simp; try omega) _).setCell (p := ⟨w.heap.size + 1 + 1, 1, none⟩) (by simp; try omega) _) hw
  clear hw
  have c_bp0 := box_cell bp 0 (.int .i64 D) rfl
  have c_bp1 := box_cell bp 1 (.int .i64 B) rfl
  have c_bq0 := box_cell bq 0 (.int .i64 F) rfl
  have c_bq1 := box_cell bq 1 (.int .i64 C) rfl
  have c_br0 := box_cell br 0 (.int .i64 U) rfl
  have c_br1 := box_cell br 1 (.int .i64 V) rfl
  have hsr := Since.refl w6
  have hsd := hsr.drew
  rcases (show a = -1 ∨ a = 0 ∨ a = 1 by omega) with rfl | rfl | rfl
  · have HA := Lib.hid hA
    have HN := Lib.hid (hN.trans (show -(-1 : Int) = 1 by decide))
    have hde : ((D == F) = true ∧ (B == C) = false) ∨ (D == F) = false := by
      by_cases z1 : D = F
      · exact .inl ⟨beq_iff_eq.2 z1, beq_eq_false_iff_ne.2 fun z2 => absurd (haz.2 ⟨z1, z2⟩) (by decide)⟩
      · exact .inr (beq_eq_false_iff_ne.2 z1)
    clear hA hN haz hab
    rcases hde with ⟨z1, z2⟩ | z1
    all_goals
      refine (Calls.since hsr (compare_at HA.out _)).mono ?_
      rintro e wd ⟨rfl, hbd⟩
      go_wp2_with (first | (go_at_call 15; (with_reducible refine (Calls.since (by assumption) (compare_at (by first | exact HN.out) _)).mono ?_); rintro e wc ⟨rfl, hbc⟩) | (go_at_call 17; (with_reducible refine (Calls.since (by assumption) (knows_any _)).mono ?_); rintro e wk ⟨rfl, hbk⟩))
      have HB := Lib.hid hB
      have HC := Lib.hid hC
      have hbc : (decide (b ≤ 0) = true ∧ decide (0 < b) = false ∧ decide (0 < c) = false ∧ ¬ (y = true ∧ x = false)) ∨ (decide (b ≤ 0) = false ∧ decide (0 < b) = true) := by
        by_cases hb0 : b ≤ 0
        · exact .inl ⟨decide_eq_true hb0, decide_eq_false (by omega), decide_eq_false (by have := htr (by decide) hb0; omega), fun h => by have := hyr h.1 h.2 (by decide); omega⟩
        · exact .inr ⟨decide_eq_false hb0, decide_eq_true (by omega)⟩
      clear htr hyr hB hC hxa
      rcases hbc with ⟨z3, z4, z5, z6⟩ | ⟨z3, z4⟩
      rotate_left 1
      rotate_left 1
      all_goals
        first
          | have Z6 := Lib.hid z6
          | skip
        try clear z6
        go_wp2_with (first | (go_at_call 15; (with_reducible refine (Calls.since (by assumption) (compare_at (by first | exact HB.out | exact HC.out) _)).mono ?_); rintro e wc ⟨rfl, hbc⟩))
        cases x
        all_goals
          have HX := Lib.hid hX
          clear hX
          go_wp2_with (first | (go_at_call 9; (with_reducible refine (Calls.since (by assumption) (above_at (by first | exact HX.out) _)).mono ?_); rintro e wa ⟨rfl, hba⟩))
          cases y
          all_goals
            have HY := Lib.hid hY
            first
              | exact (Z6.out (by decide)).elim
              | exact Z6.out.elim
              | (clear hY; try clear Z6
                 go_wp2_with (first | (go_at_call 9; (with_reducible refine (Calls.since (by assumption) (above_at (by first | exact HX.out | exact HY.out) _)).mono ?_); rintro e wa ⟨rfl, hba⟩) | (go_at_call 15; (with_reducible refine (Calls.since (by assumption) (compare_at (by first | exact HB.out | exact HC.out) _)).mono ?_); rintro e wc ⟨rfl, hbc⟩))
                 go_ret
                 exact ⟨rfl, hs.trans (by assumption)⟩)
  · have HA := Lib.hid hA
    have HN := Lib.hid (hN.trans (show -(0 : Int) = 0 by decide))
    obtain ⟨z1, z2⟩ := haz.1 rfl
    have hde : (D == F) = true ∧ (B == C) = true := ⟨beq_iff_eq.2 z1, beq_iff_eq.2 z2⟩
    clear z1 z2 hA hN haz hab
    obtain ⟨z1, z2⟩ := hde
    refine (Calls.since hsr (compare_at HA.out _)).mono ?_
    rintro e wd ⟨rfl, hbd⟩
    go_wp2_with (first | (go_at_call 15; (with_reducible refine (Calls.since (by assumption) (compare_at (by first | exact HN.out) _)).mono ?_); rintro e wc ⟨rfl, hbc⟩) | (go_at_call 17; (with_reducible refine (Calls.since (by assumption) (knows_any _)).mono ?_); rintro e wk ⟨rfl, hbk⟩))
    have HB := Lib.hid hB
    have HC := Lib.hid hC
    have hbc : (decide (b ≤ 0) = true ∧ decide (0 < b) = false ∧ decide (0 < c) = false ∧ ¬ (y = true ∧ x = false)) ∨ (decide (b ≤ 0) = false ∧ decide (0 < b) = true) := by
      by_cases hb0 : b ≤ 0
      · exact .inl ⟨decide_eq_true hb0, decide_eq_false (by omega), decide_eq_false (by have := htr (by decide) hb0; omega), fun h => by have := hyr h.1 h.2 (by decide); omega⟩
      · exact .inr ⟨decide_eq_false hb0, decide_eq_true (by omega)⟩
    clear htr hyr hB hC hxa
    rcases hbc with ⟨z3, z4, z5, z6⟩ | ⟨z3, z4⟩
    rotate_left 1
    rotate_left 1
    all_goals
      first
        | have Z6 := Lib.hid z6
        | skip
      try clear z6
      go_wp2_with (first | (go_at_call 15; (with_reducible refine (Calls.since (by assumption) (compare_at (by first | exact HB.out | exact HC.out) _)).mono ?_); rintro e wc ⟨rfl, hbc⟩))
      cases x
      all_goals
        have HX := Lib.hid hX
        clear hX
        go_wp2_with (first | (go_at_call 9; (with_reducible refine (Calls.since (by assumption) (above_at (by first | exact HX.out) _)).mono ?_); rintro e wa ⟨rfl, hba⟩))
        cases y
        all_goals
          have HY := Lib.hid hY
          first
            | exact (Z6.out (by decide)).elim
            | exact Z6.out.elim
            | (clear hY; try clear Z6
               go_wp2_with (first | (go_at_call 9; (with_reducible refine (Calls.since (by assumption) (above_at (by first | exact HX.out | exact HY.out) _)).mono ?_); rintro e wa ⟨rfl, hba⟩) | (go_at_call 15; (with_reducible refine (Calls.since (by assumption) (compare_at (by first | exact HB.out | exact HC.out) _)).mono ?_); rintro e wc ⟨rfl, hbc⟩))
               go_ret
               exact ⟨rfl, hs.trans (by assumption)⟩)
  · have HA := Lib.hid hA
    have HN := Lib.hid (hN.trans (show -(1 : Int) = -1 by decide))
    have hde : ((D == F) = true ∧ (B == C) = false) ∨ (D == F) = false := by
      by_cases z1 : D = F
      · exact .inl ⟨beq_iff_eq.2 z1, beq_eq_false_iff_ne.2 fun z2 => absurd (haz.2 ⟨z1, z2⟩) (by decide)⟩
      · exact .inr (beq_eq_false_iff_ne.2 z1)
    clear hA hN haz hab
    rcases hde with ⟨z1, z2⟩ | z1
    all_goals
      refine (Calls.since hsr (compare_at HA.out _)).mono ?_
      rintro e wd ⟨rfl, hbd⟩
      go_wp2_with (first | (go_at_call 15; (with_reducible refine (Calls.since (by assumption) (compare_at (by first | exact HN.out) _)).mono ?_); rintro e wc ⟨rfl, hbc⟩) | (go_at_call 17; (with_reducible refine (Calls.since (by assumption) (knows_any _)).mono ?_); rintro e wk ⟨rfl, hbk⟩))
      have hxf : x = false := by cases x <;> simp_all
      subst hxf
      have HX := Lib.hid hX
      clear htr hyr hX hxa
      go_wp2_with (first | (go_at_call 9; (with_reducible refine (Calls.since (by assumption) (above_at (by first | exact HX.out) _)).mono ?_); rintro e wa ⟨rfl, hba⟩))
      cases y
      all_goals
        have HY := Lib.hid hY
        clear hY
        go_wp2_with (first | (go_at_call 9; (with_reducible refine (Calls.since (by assumption) (above_at (by first | exact HX.out | exact HY.out) _)).mono ?_); rintro e wa ⟨rfl, hba⟩))
        go_ret
        exact ⟨rfl, hs.trans (by assumption)⟩
end Go.Proofs.Ytilkifjdonafnaa
