/- The walk of the law TorusMetric: the distance of cells is a metric, and stays when both are moved. -/
import Derived.Test.YtgnligeiojdmhaaTKnows
import Derived.Test.YtgnligeiojdmhaaTDistM
namespace Go.Proofs.Ytgnligeiojdmhaa
open Go.RowKit
theorem rgt_on (k : Int) : rgt (1 + k % 16) = true := by rw [rgt_iff]; omega
theorem Since.named {w0 w1 w2 : World} (h : Since w0 w1) (e : w2 = w1) : Since w0 w2 := e ▸ h
theorem Whole.named {w1 w2 : World} {g : Nat} {t : TypeId} {cs : Array Value} (h : Whole w1 g t cs) (e : w2 = w1) : Whole w2 g t cs := e ▸ h
theorem dist_at {k ax ay bx b2 d : Int} (h : dist k ax ay bx b2 = d) (w : World) : Calls Try.prog 26 #[.agg #[.int .i64 k], .agg #[.int .i64 ax, .int .i64 ay], .agg #[.int .i64 bx, .int .i64 b2]] w fun e w' => e = .returned (.int .i64 d) ∧ Below w.heap.size w w' := h ▸ dist_any k ax ay bx b2 w
set_option maxRecDepth 100000 in
set_option maxHeartbeats 1600000 in
theorem metric_walk (k x1 y1 x2 y2 x3 y3 dx dy : Int) (w : World) : Calls Try.prog 4 #[.int .i64 k, .agg #[.int .i64 x1, .int .i64 y1], .agg #[.int .i64 x2, .int .i64 y2], .agg #[.int .i64 x3, .int .i64 y3], .int .i64 dx, .int .i64 dy] w fun e w' => e = .returned (.bool true) ∧ Below w.heap.size w w' := by
  obtain ⟨K, hK⟩ : ∃ K, K = 1 + k % 16 := ⟨_, rfl⟩
  have hr : rgt K = true := by rw [hK]; exact rgt_on k
  have HK := Lib.hid hK
  clear hK
  obtain ⟨X1, hX1⟩ : ∃ X, X = x1 % sd K := ⟨_, rfl⟩
  obtain ⟨Y1, hY1⟩ : ∃ Y, Y = y1 % sd K := ⟨_, rfl⟩
  have h1 : hasB K X1 Y1 = true := by rw [hX1, hY1]; exact has_mod hr x1 y1
  have HX1 := Lib.hid hX1
  have HY1 := Lib.hid hY1
  clear hX1 hY1
  obtain ⟨X2, hX2⟩ : ∃ X, X = x2 % sd K := ⟨_, rfl⟩
  obtain ⟨Y2, hY2⟩ : ∃ Y, Y = y2 % sd K := ⟨_, rfl⟩
  have h2 : hasB K X2 Y2 = true := by rw [hX2, hY2]; exact has_mod hr x2 y2
  have HX2 := Lib.hid hX2
  have HY2 := Lib.hid hY2
  clear hX2 hY2
  obtain ⟨X3, hX3⟩ : ∃ X, X = x3 % sd K := ⟨_, rfl⟩
  obtain ⟨Y3, hY3⟩ : ∃ Y, Y = y3 % sd K := ⟨_, rfl⟩
  have h3 : hasB K X3 Y3 = true := by rw [hX3, hY3]; exact has_mod hr x3 y3
  have HX3 := Lib.hid hX3
  have HY3 := Lib.hid hY3
  clear hX3 hY3
  go_enter Try.func4, Try.ntmps4
  go_wp2_with fail
  refine Calls.named (fun w0 hw0 => ?_)
  have hs : Since w w0 := (((Since.refl w).alloc _).alloc _ |>.alloc _).named hw0
  have wa : Whole w0 w.heap.size 23 #[.int .i64 x1, .int .i64 y1] := (((Whole.new w _ _).alloc _).alloc _).named hw0
  have wb : Whole w0 (w.heap.size + 1) 23 #[.int .i64 x2, .int .i64 y2] := (((Whole.new (w.alloc _) _ _).alloc _).at_ (by simp)).named hw0
  have wc : Whole w0 (w.heap.size + 1 + 1) 23 #[.int .i64 x3, .int .i64 y3] := ((Whole.new ((w.alloc _).alloc _) _ _).at_ (by simp)).named hw0
  clear hw0
  refine (on_any k w0).mono ?_
  rintro e w1 ⟨rfl, hb1⟩
  rw [← HK.out]
  replace hs := hs.trans hb1
  replace wa := Since.whole hb1 wa
  replace wb := Since.whole hb1 wb
  replace wc := Since.whole hb1 wc
  clear hb1
  have hz1 := wa.lt
  have hz2 := wb.lt
  have hz3 := wc.lt
  have q1 := wa.cell 0
  have q2 := wa.cell 1
  go_wp2_with fail
  clear q1 q2
  refine Calls.named (fun w2 hw2 => ?_)
  have wt : Whole w2 w1.heap.size 25 #[.int .i64 K] := (Whole.new w1 _ _).named hw2
  replace hs : Since w w2 := (hs.alloc _).named hw2
  replace wa := (wa.alloc _).named hw2
  replace wb := (wb.alloc _).named hw2
  replace wc := (wc.alloc _).named hw2
  obtain ⟨g, hg⟩ : ∃ g, g = w1.heap.size := ⟨_, rfl⟩
  rw [← hg] at wt hz1 hz2 hz3 ⊢
  clear hw2 hg
  refine (at_any K x1 y1 _).mono ?_
  rintro e w3 ⟨rfl, hb1⟩
  rw [← HX1.out, ← HY1.out]
  replace hs := hs.trans hb1
  replace wt := Since.whole hb1 wt
  replace wa := Since.whole hb1 wa
  replace wb := Since.whole hb1 wb
  replace wc := Since.whole hb1 wc
  clear hb1
  have t1 := wt.cell 0
  have p1 := wa.cell 0
  have p2 := wa.cell 1
  have p3 := wb.cell 0
  have p4 := wb.cell 1
  have p5 := wc.cell 0
  have p6 := wc.cell 1
  have f1 := wa.frozen 0
  have f2 := wa.frozen 1
  go_wp2_with fail
  clear t1 p1 p2 p3 p4 p5 p6 f1 f2
  refine Calls.named (fun w4 hw => ?_)
  replace hs : Since w w4 := ((hs.setCell (p := ⟨w.heap.size, 0, none⟩) (by simp; try omega) _).setCell (p := ⟨w.heap.size, 1, none⟩) (by simp; try omega) _).named hw
  replace wt := ((wt.far (p := ⟨w.heap.size, 0, none⟩) (by simp; try omega) _).far (p := ⟨w.heap.size, 1, none⟩) (by simp; try omega) _).named hw
  replace wa : Whole w4 (w.heap.size) 23 #[.int .i64 X1, .int .i64 Y1] := ((wa.set_ 0 _).set_ 1 _).named hw
  replace wb := ((wb.far (p := ⟨w.heap.size, 0, none⟩) (by simp; try omega) _).far (p := ⟨w.heap.size, 1, none⟩) (by simp; try omega) _).named hw
  replace wc := ((wc.far (p := ⟨w.heap.size, 0, none⟩) (by simp; try omega) _).far (p := ⟨w.heap.size, 1, none⟩) (by simp; try omega) _).named hw
  clear hw
  refine (at_any K x2 y2 _).mono ?_
  rintro e w5 ⟨rfl, hb1⟩
  rw [← HX2.out, ← HY2.out]
  replace hs := hs.trans hb1
  replace wt := Since.whole hb1 wt
  replace wa := Since.whole hb1 wa
  replace wb := Since.whole hb1 wb
  replace wc := Since.whole hb1 wc
  clear hb1
  have t1 := wt.cell 0
  have p1 := wa.cell 0
  have p2 := wa.cell 1
  have p3 := wb.cell 0
  have p4 := wb.cell 1
  have p5 := wc.cell 0
  have p6 := wc.cell 1
  have f1 := wb.frozen 0
  have f2 := wb.frozen 1
  go_wp2_with fail
  clear t1 p1 p2 p3 p4 p5 p6 f1 f2
  refine Calls.named (fun w6 hw => ?_)
  replace hs : Since w w6 := ((hs.setCell (p := ⟨w.heap.size + 1, 0, none⟩) (by simp; try omega) _).setCell (p := ⟨w.heap.size + 1, 1, none⟩) (by simp; try omega) _).named hw
  replace wt := ((wt.far (p := ⟨w.heap.size + 1, 0, none⟩) (by simp; try omega) _).far (p := ⟨w.heap.size + 1, 1, none⟩) (by simp; try omega) _).named hw
  replace wa := ((wa.far (p := ⟨w.heap.size + 1, 0, none⟩) (by simp; try omega) _).far (p := ⟨w.heap.size + 1, 1, none⟩) (by simp; try omega) _).named hw
  replace wb : Whole w6 (w.heap.size + 1) 23 #[.int .i64 X2, .int .i64 Y2] := ((wb.set_ 0 _).set_ 1 _).named hw
  replace wc := ((wc.far (p := ⟨w.heap.size + 1, 0, none⟩) (by simp; try omega) _).far (p := ⟨w.heap.size + 1, 1, none⟩) (by simp; try omega) _).named hw
  clear hw
  refine (at_any K x3 y3 _).mono ?_
  rintro e w7 ⟨rfl, hb1⟩
  rw [← HX3.out, ← HY3.out]
  replace hs := hs.trans hb1
  replace wt := Since.whole hb1 wt
  replace wa := Since.whole hb1 wa
  replace wb := Since.whole hb1 wb
  replace wc := Since.whole hb1 wc
  clear hb1
  have t1 := wt.cell 0
  have p1 := wa.cell 0
  have p2 := wa.cell 1
  have p3 := wb.cell 0
  have p4 := wb.cell 1
  have p5 := wc.cell 0
  have p6 := wc.cell 1
  have f1 := wc.frozen 0
  have f2 := wc.frozen 1
  go_wp2_with fail
  clear t1 p1 p2 p3 p4 p5 p6 f1 f2
  refine Calls.named (fun w8 hw => ?_)
  replace hs : Since w w8 := ((hs.setCell (p := ⟨w.heap.size + 1 + 1, 0, none⟩) (by simp; try omega) _).setCell (p := ⟨w.heap.size + 1 + 1, 1, none⟩) (by simp; try omega) _).named hw
  replace wt := ((wt.far (p := ⟨w.heap.size + 1 + 1, 0, none⟩) (by simp; try omega) _).far (p := ⟨w.heap.size + 1 + 1, 1, none⟩) (by simp; try omega) _).named hw
  replace wa := ((wa.far (p := ⟨w.heap.size + 1 + 1, 0, none⟩) (by simp; try omega) _).far (p := ⟨w.heap.size + 1 + 1, 1, none⟩) (by simp; try omega) _).named hw
  replace wb := ((wb.far (p := ⟨w.heap.size + 1 + 1, 0, none⟩) (by simp; try omega) _).far (p := ⟨w.heap.size + 1 + 1, 1, none⟩) (by simp; try omega) _).named hw
  replace wc : Whole w8 (w.heap.size + 1 + 1) 23 #[.int .i64 X3, .int .i64 Y3] := ((wc.set_ 0 _).set_ 1 _).named hw
  clear hw
  have ct := box_cell wt 0 (.int .i64 K) rfl
  have ca1 := box_cell wa 0 (.int .i64 X1) rfl
  have ca2 := box_cell wa 1 (.int .i64 Y1) rfl
  have cb1 := box_cell wb 0 (.int .i64 X2) rfl
  have cb2 := box_cell wb 1 (.int .i64 Y2) rfl
  have cc1 := box_cell wc 0 (.int .i64 X3) rfl
  have cc2 := box_cell wc 1 (.int .i64 Y3) rfl
  have hsr := Since.refl w8
  have hlt := wt.lt
  have hltb := wb.lt
  clear wt wa wb wc hz1 hz2 hz3
  obtain ⟨D, hD⟩ : ∃ D, dist K X1 Y1 X2 Y2 = D := ⟨_, rfl⟩
  obtain ⟨E, hE⟩ : ∃ E, dist K X1 Y1 X3 Y3 = E := ⟨_, rfl⟩
  obtain ⟨F, hF⟩ : ∃ F, dist K X2 Y2 X3 Y3 = F := ⟨_, rfl⟩
  have hD2 : dist K X2 Y2 X1 Y1 = D := by rw [dist_comm h1 h2, hD]
  have bD := dist_bd h1 h2
  have bE := dist_bd h1 h3
  have bF := dist_bd h2 h3
  have bT := dist_tri h1 h2 h3
  have bZ := dist_zero h1 h2
  have hM := dist_move (dx.tmod 1000) (dy.tmod 1000) h1 h2
  rw [hD] at bD bT bZ hM
  rw [hE] at bE bT
  rw [hF] at bF bT
  obtain ⟨bD1, bD2⟩ := bD
  have bS := (side_bd K).2
  have e1 : IntKind.i64.wrap (D + F) = D + F := IntWalk.i64_in _ (by omega)
  have d1 : decide (D < 0) = false := decide_eq_false (by omega)
  have d2 : decide (side K < D) = false := decide_eq_false (by omega)
  have d3 : decide (D + F < E) = false := decide_eq_false (by omega)
  have bm1 := tmod_bd dx 1000 (by omega)
  have bm2 := tmod_bd dy 1000 (by omega)
  have m1 : mvB K X1 Y1 (dx.tmod 1000) (dy.tmod 1000) = true := by unfold mvB; rw [h1, (may_iff _).2 (by omega), (may_iff _).2 (by omega)]; rfl
  have m2 : mvB K X2 Y2 (dx.tmod 1000) (dy.tmod 1000) = true := by unfold mvB; rw [h2, (may_iff _).2 (by omega), (may_iff _).2 (by omega)]; rfl
  have hcase : ((X1 == X2) = true ∧ (Y1 == Y2) = true ∧ (D == 0) = true) ∨ ((X1 == X2) = false ∧ (Y1 == Y1) = true ∧ (D == 0) = false) ∨ ((X1 == X2) = true ∧ (Y1 == Y2) = false ∧ (D == 0) = false) := by
    simp only [beq_iff_eq, beq_eq_false_iff_ne]
    by_cases q1 : X1 = X2 <;> by_cases q2 : Y1 = Y2 <;> simp [q1, q2] at bZ ⊢ <;> exact bZ
  replace h1 := Lib.hid h1
  replace h2 := Lib.hid h2
  replace hD := Lib.hid hD
  replace hD2 := Lib.hid hD2
  replace hE := Lib.hid hE
  replace hF := Lib.hid hF
  replace hM := Lib.hid hM
  replace m1 := Lib.hid m1
  replace m2 := Lib.hid m2
  clear bZ hr h3 bE bF bm1 bm2
  go_wp2_with (first
    | (go_at_call 19; (with_reducible refine (Calls.since (by assumption) (has_at (by first | exact h1.out | exact h2.out) _)).mono ?_); rintro e w9 ⟨rfl, hb9⟩)
    | (go_at_call 23; (with_reducible refine (Calls.since (by assumption) (knows_any _)).mono ?_); rintro e w10 ⟨rfl, hb10⟩)
    | (go_at_call 26; (with_reducible refine (Calls.since (by assumption) (dist_at hD.out _)).mono ?_); rintro e w11 ⟨rfl, hb11⟩))
  have hd11 := hb11.drew
  rcases hcase with ⟨n1, n2, n3⟩ | ⟨n1, n2, n3⟩ | ⟨n1, n2, n3⟩
  all_goals
    go_region_held3 (fun W => Since w8 W) (first | assumption | exact Since.drew (by assumption)) ((first | (go_at_call 16; (with_reducible refine (Calls.since (by assumption) (side_any _ _)).mono ?_); rintro e w12 ⟨rfl, hb12⟩) | (go_at_call 26; (with_reducible refine (Calls.since (by assumption) (dist_at (by first | exact hD2.out | exact hE.out | exact hF.out) _)).mono ?_); rintro e w12 ⟨rfl, hb12⟩)))
    go_wp2_with fail
    refine (Calls.since (by assumption) (move_yes _ _ _ _ _ _ m1.out)).mono ?_
    rintro e w13 ⟨rfl, hb13⟩
    have hz := hb13.size_
    have hz3 := Nat.lt_of_lt_of_le hlt hz
    have hz4 := Nat.lt_of_lt_of_le hltb hz
    go_wp2_with fail
    refine Calls.named (fun w14 hw => ?_)
    have wp : Whole w14 w13.heap.size 23 #[.int .i64 ((X1 + dx.tmod 1000) % sd K), .int .i64 ((Y1 + dy.tmod 1000) % sd K)] := (Whole.new w13 _ _).named hw
    have hs14 : Since w8 w14 := (hb13.alloc _).named hw
    obtain ⟨p, hp⟩ : ∃ p, p = w13.heap.size := ⟨_, rfl⟩
    rw [← hp] at wp hz hz3 hz4 ⊢
    clear hw hp
    refine (move_yes _ _ _ _ _ _ m2.out).mono ?_
    rintro e w15 ⟨rfl, hb15⟩
    have hs15 : Since w8 w15 := hs14.trans hb15
    replace wp := Since.whole hb15 wp
    have hz1 := wp.lt
    have hz2 := hs15.size_
    have hz5 := Nat.lt_of_lt_of_le hlt hz2
    clear hb15 hz3 hz4
    go_wp2_with fail
    refine Calls.named (fun w16 hw => ?_)
    have wq : Whole w16 w15.heap.size 23 #[.int .i64 ((X2 + dx.tmod 1000) % sd K), .int .i64 ((Y2 + dy.tmod 1000) % sd K)] := (Whole.new w15 _ _).named hw
    have hs16 : Since w8 w16 := (hs15.alloc _).named hw
    replace wp := (wp.alloc _).named hw
    obtain ⟨q, hq⟩ : ∃ q, q = w15.heap.size := ⟨_, rfl⟩
    rw [← hq] at wq hz1 hz2 hz5 ⊢
    clear hw hq
    have r1 := wp.cell 0
    have r2 := wp.cell 1
    have r3 := wq.cell 0
    have r4 := wq.cell 1
    refine (law_num_any _ _).mono ?_
    rintro e w' ⟨rfl, rfl⟩
    go_wp2_with (first
      | (go_at_call 8; (with_reducible refine (law_num_any _ _).mono ?_); rintro e w' ⟨rfl, rfl⟩)
      | (go_at_call 26; (with_reducible refine (dist_at hM.out _).mono ?_); rintro e w17 ⟨rfl, hb17⟩))
    go_ret
    exact ⟨rfl, hs.trans (hs16.trans hb17)⟩
end Go.Proofs.Ytgnligeiojdmhaa
