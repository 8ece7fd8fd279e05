/- The walk of the law TorusSteps: steps by Toward come to the other cell in as many as the distance. -/
import Derived.Test.YtgnligeiojdmhaaTStepM
import Derived.Test.YtgnligeiojdmhaaTMetric
namespace Go.Proofs.Ytgnligeiojdmhaa
open Go.RowKit
theorem on_low (k m : Int) (hm : 1 ≤ m ∧ m ≤ 8) : 1 ≤ 1 + (k % m) % 16 ∧ 1 + (k % m) % 16 ≤ m := by
  have h1 := Int.emod_nonneg k (show m ≠ 0 by omega)
  have h2 := Int.emod_lt_of_pos k (show 0 < m by omega)
  omega
theorem side_mono {k : Int} {n : Nat} (h : rgt k = true) (hk : k ≤ n) : side k ≤ ((2 ^ n : Nat) : Int) := by
  obtain ⟨h1, h2⟩ := (rgt_iff k).1 h
  rw [side_yes h, pow_cast]
  exact Int.ofNat_le.2 (Nat.pow_le_pow_right (n := 2) (by omega) (by omega))
theorem toward_at {k px py qx qy tx ty : Int} (w : World) (ha : hasB k px py = true) (hb : hasB k qx qy = true) (hne : 0 < dist k px py qx qy) (h1 : twX k px qx = tx) (h2 : twY k px py qx qy = ty) :
    Calls Try.prog 27 #[.agg #[.int .i64 k], .agg #[.int .i64 px, .int .i64 py], .agg #[.int .i64 qx, .int .i64 qy]] w fun e w' => e = .returned (.tuple #[.agg #[.int .i64 tx, .int .i64 ty], .bool true]) ∧ Below w.heap.size w w' := h1 ▸ h2 ▸ toward_step k px py qx qy w ha hb hne
set_option maxRecDepth 100000 in
set_option maxHeartbeats 1600000 in
theorem steps_walk (k x1 y1 x2 y2 : Int) (w : World) : Calls Try.prog 5 #[.int .i64 k, .agg #[.int .i64 x1, .int .i64 y1], .agg #[.int .i64 x2, .int .i64 y2]] w fun e w' => e = .returned (.bool true) ∧ Below w.heap.size w w' := by
  obtain ⟨K, hK⟩ : ∃ K, K = 1 + (k % 8) % 16 := ⟨_, rfl⟩
  have hr0 := on_low k 8 (by omega)
  rw [← hK] at hr0
  have hr : rgt K = true := by rw [rgt_iff]; omega
  have hs8 : side K ≤ 256 := side_mono (n := 8) hr hr0.2
  have HK := Lib.hid hK
  have hkt := tmod_bd k 8 (by omega)
  have hke := tmod_emod k 8
  clear hK
  obtain ⟨X1, hX1⟩ : ∃ X, X = x1 % sd K := ⟨_, rfl⟩
  obtain ⟨Y1, hY1⟩ : ∃ Y, Y = y1 % sd K := ⟨_, rfl⟩
  have h1 : hasB K X1 Y1 = true := by rw [hX1, hY1]; exact has_mod hr x1 y1
  have HX1 := Lib.hid hX1
  have HY1 := Lib.hid hY1
  clear hX1 hY1
  obtain ⟨X2, hX2⟩ : ∃ X, X = x2 % sd K := ⟨_, rfl⟩
  obtain ⟨Y2, hY2⟩ : ∃ Y, Y = y2 % sd K := ⟨_, rfl⟩
  have h2 : hasB K X2 Y2 = true := by rw [hX2, hY2]; exact has_mod hr x2 y2
  have HX2 := Lib.hid hX2
  have HY2 := Lib.hid hY2
  clear hX2 hY2
  replace h1 := Lib.hid h1
  replace h2 := Lib.hid h2
  go_enter Try.func5, Try.ntmps5
  go_wp2_with fail
  refine Calls.named (fun w0 hw0 => ?_)
  have hs : Since w w0 := (((Since.refl w).alloc _).alloc _).named hw0
  have wa : Whole w0 w.heap.size 23 #[.int .i64 x1, .int .i64 y1] := ((Whole.new w _ _).alloc _).named hw0
  have wb : Whole w0 (w.heap.size + 1) 23 #[.int .i64 x2, .int .i64 y2] := ((Whole.new (w.alloc _) _ _).at_ (by simp)).named hw0
  clear hw0
  refine (on_any _ w0).mono ?_
  rintro e w1 ⟨rfl, hb1⟩
  rw [← HK.out]
  replace hs := hs.trans hb1
  replace wa := Since.whole hb1 wa
  replace wb := Since.whole hb1 wb
  clear hb1 hkt hke
  have hz1 := wa.lt
  have hz2 := wb.lt
  have q1 := wa.cell 0
  have q2 := wa.cell 1
  go_wp2_with fail
  clear q1 q2
  refine Calls.named (fun w2 hw2 => ?_)
  have wt : Whole w2 w1.heap.size 25 #[.int .i64 K] := (Whole.new w1 _ _).named hw2
  replace hs : Since w w2 := (hs.alloc _).named hw2
  replace wa := (wa.alloc _).named hw2
  replace wb := (wb.alloc _).named hw2
  obtain ⟨g, hg⟩ : ∃ g, g = w1.heap.size := ⟨_, rfl⟩
  rw [← hg] at wt hz1 hz2 ⊢
  clear hw2 hg
  refine (at_any K x1 y1 _).mono ?_
  rintro e w3 ⟨rfl, hb1⟩
  rw [← HX1.out, ← HY1.out]
  replace hs := hs.trans hb1
  replace wt := Since.whole hb1 wt
  replace wa := Since.whole hb1 wa
  replace wb := Since.whole hb1 wb
  clear hb1
  have t1 := wt.cell 0
  have p1 := wa.cell 0
  have p2 := wa.cell 1
  have p3 := wb.cell 0
  have p4 := wb.cell 1
  have f1 := wa.frozen 0
  have f2 := wa.frozen 1
  go_wp2_with fail
  clear t1 p1 p2 p3 p4 f1 f2
  refine Calls.named (fun w4 hw => ?_)
  replace hs : Since w w4 := ((hs.setCell (p := ⟨w.heap.size, 0, none⟩) (by simp; try omega) _).setCell (p := ⟨w.heap.size, 1, none⟩) (by simp; try omega) _).named hw
  replace wt := ((wt.far (p := ⟨w.heap.size, 0, none⟩) (by simp; try omega) _).far (p := ⟨w.heap.size, 1, none⟩) (by simp; try omega) _).named hw
  replace wa : Whole w4 (w.heap.size) 23 #[.int .i64 X1, .int .i64 Y1] := ((wa.set_ 0 _).set_ 1 _).named hw
  replace wb := ((wb.far (p := ⟨w.heap.size, 0, none⟩) (by simp; try omega) _).far (p := ⟨w.heap.size, 1, none⟩) (by simp; try omega) _).named hw
  clear hw
  refine (at_any K x2 y2 _).mono ?_
  rintro e w5 ⟨rfl, hb1⟩
  rw [← HX2.out, ← HY2.out]
  replace hs := hs.trans hb1
  replace wt := Since.whole hb1 wt
  replace wa := Since.whole hb1 wa
  replace wb := Since.whole hb1 wb
  clear hb1
  have t1 := wt.cell 0
  have p1 := wa.cell 0
  have p2 := wa.cell 1
  have p3 := wb.cell 0
  have p4 := wb.cell 1
  have f1 := wb.frozen 0
  have f2 := wb.frozen 1
  go_wp2_with fail
  clear t1 p1 p2 p3 p4 f1 f2
  refine Calls.named (fun w6 hw => ?_)
  replace hs : Since w w6 := ((hs.setCell (p := ⟨w.heap.size + 1, 0, none⟩) (by simp; try omega) _).setCell (p := ⟨w.heap.size + 1, 1, none⟩) (by simp; try omega) _).named hw
  replace wt := ((wt.far (p := ⟨w.heap.size + 1, 0, none⟩) (by simp; try omega) _).far (p := ⟨w.heap.size + 1, 1, none⟩) (by simp; try omega) _).named hw
  replace wa := ((wa.far (p := ⟨w.heap.size + 1, 0, none⟩) (by simp; try omega) _).far (p := ⟨w.heap.size + 1, 1, none⟩) (by simp; try omega) _).named hw
  replace wb : Whole w6 (w.heap.size + 1) 23 #[.int .i64 X2, .int .i64 Y2] := ((wb.set_ 0 _).set_ 1 _).named hw
  clear hw
  have ct := box_cell wt 0 (.int .i64 K) rfl
  have ca1 := box_cell wa 0 (.int .i64 X1) rfl
  have ca2 := box_cell wa 1 (.int .i64 Y1) rfl
  have cb1 := box_cell wb 0 (.int .i64 X2) rfl
  have cb2 := box_cell wb 1 (.int .i64 Y2) rfl
  have hsr := Since.refl w6
  have bD := dist_bd h1.out h2.out
  go_wp2_with (first
    | (go_at_call 23; (with_reducible refine (Calls.since (by assumption) (knows_any _)).mono ?_); rintro e w7 ⟨rfl, hb7⟩)
    | (go_at_call 26; (with_reducible refine (Calls.since (by assumption) (dist_any _ _ _ _ _ _)).mono ?_); rintro e w8 ⟨rfl, hb8⟩))
  replace wt := Since.whole hb8 wt
  replace wa := Since.whole hb8 wa
  replace wb := Since.whole hb8 wb
  replace hs := hs.trans hb8
  clear ct ca1 ca2 cb1 cb2 hsr hb7 hb8
  go_loopw [8, 9] (fun d i wr => ∃ (X Y : Int) (n : Nat), i = .int .i64 n ∧ d = .int .i64 (dist K X Y X2 Y2) ∧ hasB K X Y = true ∧ (n : Int) + dist K X Y X2 Y2 ≤ 256 ∧ Whole wr g 25 #[.int .i64 K] ∧ Whole wr w.heap.size 23 #[.int .i64 X, .int .i64 Y] ∧ Whole wr (w.heap.size + 1) 23 #[.int .i64 X2, .int .i64 Y2] ∧ Since w wr) (fun d _ _ => (intOf d).toNat)
  case atStart => exact ⟨X1, Y1, 0, rfl, rfl, h1.out, by omega, wt, wa, wb, hs⟩
  case round =>
    clear wt wa wb hs bD
    obtain ⟨X, Y, n, rfl, rfl, hh, hn, wt, wa, wb, hs⟩ := hrel
    have bD := dist_bd hh h2.out
    obtain ⟨D, hD⟩ : ∃ D, dist K X Y X2 Y2 = D := ⟨_, rfl⟩
    rw [hD] at hn bD ⊢
    have HD := Lib.hid hD
    have ct := box_cell wt 0 (.int .i64 K) rfl
    have ca1 := box_cell wa 0 (.int .i64 X) rfl
    have ca2 := box_cell wa 1 (.int .i64 Y) rfl
    have cb1 := box_cell wb 0 (.int .i64 X2) rfl
    have cb2 := box_cell wb 1 (.int .i64 Y2) rfl
    have hsr := Since.refl wr
    by_cases hlt : 0 < D
    · have hp : 0 < dist K X Y X2 Y2 := by rw [hD]; exact hlt
      obtain ⟨s1, s2, s3⟩ := tw_step hh h2.out hp
      obtain ⟨U, hU⟩ : ∃ U, twX K X X2 = U := ⟨_, rfl⟩
      obtain ⟨V, hV⟩ : ∃ V, twY K X Y X2 Y2 = V := ⟨_, rfl⟩
      rw [hU, hV] at s1 s2 s3
      rw [hD] at s3
      have HU := Lib.hid hU
      have HV := Lib.hid hV
      have HP := Lib.hid hp
      have HH := Lib.hid hh
      have S1 := Lib.hid s1
      have S2 := Lib.hid s2
      have S3 := Lib.hid s3
      have n6 : (n : Int) < 600 := by omega
      clear hD hU hV hp hh s1 s2 s3
      go_wp2_with fail
      refine (toward_at _ HH.out h2.out HP.out HU.out HV.out).mono ?_
      rintro e w9 ⟨rfl, hb9⟩
      replace hs := hs.trans hb9
      replace wt := Since.whole hb9 wt
      replace wa := Since.whole hb9 wa
      replace wb := Since.whole hb9 wb
      clear ct ca1 ca2 cb1 cb2 hsr hb9
      have y1 := wt.lt
      have y2 := wa.lt
      have y3 := wb.lt
      have t1 := wt.cell 0
      have p1 := wa.cell 0
      have p2 := wa.cell 1
      have p3 := wb.cell 0
      have p4 := wb.cell 1
      go_wp2_with fail
      clear t1 p1 p2 p3 p4
      refine Calls.named (fun w10 hw => ?_)
      have wn : Whole w10 w9.heap.size 23 #[.int .i64 U, .int .i64 V] := (Whole.new w9 _ _).named hw
      replace hs : Since w w10 := (hs.alloc _).named hw
      replace wt := (wt.alloc _).named hw
      replace wa := (wa.alloc _).named hw
      replace wb := (wb.alloc _).named hw
      obtain ⟨m, hm⟩ : ∃ m, m = w9.heap.size := ⟨_, rfl⟩
      rw [← hm] at wn y1 y2 y3 ⊢
      clear hw hm
      have ct := box_cell wt 0 (.int .i64 K) rfl
      have ca1 := box_cell wa 0 (.int .i64 X) rfl
      have ca2 := box_cell wa 1 (.int .i64 Y) rfl
      have cb1 := box_cell wb 0 (.int .i64 X2) rfl
      have cb2 := box_cell wb 1 (.int .i64 Y2) rfl
      have cn1 := box_cell wn 0 (.int .i64 U) rfl
      have cn2 := box_cell wn 1 (.int .i64 V) rfl
      have fa1 := box_free wa 0
      have fa2 := box_free wa 1
      have hsr := Since.refl w10
      go_wp2_with (go_at_call 26; (with_reducible refine (Calls.since (by assumption) (dist_at (by first | exact S2.out | exact S3.out) _)).mono ?_); rintro e w12 ⟨rfl, hb12⟩)
      clear ct ca1 ca2 cb1 cb2 cn1 cn2 fa1 fa2 hsr
      go_roundw
      case rel =>
        refine ⟨U, V, n + 1, by go_num, by rw [S3.out], S1.out, by rw [S3.out]; omega, ?_, ?_, ?_, ?_⟩
        · exact ((Since.whole hb12 wt).far (p := ⟨w.heap.size, 0, none⟩) (by simp; try omega) _).far (p := ⟨w.heap.size, 1, none⟩) (by simp; try omega) _
        · exact ((Since.whole hb12 wa).set_ 0 _).set_ 1 _
        · exact ((Since.whole hb12 wb).far (p := ⟨w.heap.size, 0, none⟩) (by simp; try omega) _).far (p := ⟨w.heap.size, 1, none⟩) (by simp; try omega) _
        · exact (((hs.trans hb12).setCell (p := ⟨w.heap.size, 0, none⟩) (by simp; try omega) _).setCell (p := ⟨w.heap.size, 1, none⟩) (by simp; try omega) _)
      case measure => simp [intOf]; omega
    · have n6 : (n : Int) < 600 := by omega
      obtain ⟨e1, e2⟩ := (dist_zero hh h2.out).1 (by omega)
      have HH := Lib.hid hh
      clear hD hh
      subst e1 e2
      go_wp2_with fail
      refine (toward_same K X Y _ HH.out).mono ?_
      rintro e w9 ⟨rfl, hb9⟩
      replace hs := hs.trans hb9
      replace wa := Since.whole hb9 wa
      replace wb := Since.whole hb9 wb
      clear ct ca1 ca2 cb1 cb2 hsr hb9
      have y2 := wa.lt
      have y3 := wb.lt
      have p1 := wa.cell 0
      have p2 := wa.cell 1
      have p3 := wb.cell 0
      have p4 := wb.cell 1
      go_wp2
      go_ret
      exact ⟨rfl, hs.alloc _⟩
end Go.Proofs.Ytgnligeiojdmhaa
