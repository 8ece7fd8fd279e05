/- The walk of the law TorusRings: the rings of all distances have all cells; a ring's count is that of the cells so far away. -/
import Derived.Test.YtgnligeiojdmhaaTRingM
import Derived.Test.YtgnligeiojdmhaaTSteps
namespace Go.Proofs.Ytgnligeiojdmhaa
open Go.RowKit
set_option maxHeartbeats 400000 in
theorem ring_far (k px py d : Int) (w : World) (ha : hasB k px py = true) (hd : side k < d) : Calls Try.prog 28 #[.agg #[.int .i64 k], .agg #[.int .i64 px, .int .i64 py], .int .i64 d] w fun e w' => e = .returned (.int .i64 0) ∧ Below w.heap.size w w' := by
  have hs := side_bd k
  have q1 : decide (d < 0) = false := decide_eq_false (by omega)
  have q2 : decide (side k < d) = true := decide_eq_true hd
  obtain ⟨w0, hw0⟩ : ∃ w0, w0 = (w.alloc (.cells #[.int .i64 k] 25)).alloc (.cells #[.int .i64 px, .int .i64 py] 23) := ⟨_, rfl⟩
  have hs0 : Since w w0 := by rw [hw0]; exact ((Since.refl w).alloc _).alloc _
  have wh0 : Whole w0 (w.heap.size) 25 #[.int .i64 k] := by rw [hw0]; exact (Whole.new w _ _).alloc _
  have wh1 : Whole w0 (w.heap.size + 1) 23 #[.int .i64 px, .int .i64 py] := by rw [hw0]; exact (Whole.new (w.alloc _) _ _).at_ (by simp)
  have HW := Lib.hid hw0
  have c0_0 := box_cell wh0 0 (.int .i64 k) rfl
  have c1_0 := box_cell wh1 0 (.int .i64 px) rfl
  have c1_1 := box_cell wh1 1 (.int .i64 py) rfl
  have hsr := Since.refl w0
  have hsd := hsr.drew
  clear hw0 wh0 wh1
  replace ha := Lib.hid ha
  go_enter Try.func28, Try.ntmps28
  go_wp2_with fail
  rw [← HW.out]
  go_wp2_with (first
    | (go_at_call 19; (with_reducible refine (Calls.since (by assumption) (has_at ha.out _)).mono ?_); rintro e w1 ⟨rfl, hb1⟩)
    | (go_at_call 16; (with_reducible refine (Calls.since (by assumption) (side_any _ _)).mono ?_); rintro e w1 ⟨rfl, hb1⟩))
  go_ret
  exact ⟨rfl, hs0.trans (by assumption)⟩
theorem ring_total (k : Int) (x y d m C : Nat) (w : World) (hh : m = 1 ∨ m = 2 ∨ m = 4 ∨ m = 8) (hs : side k = 2 * (m : Int)) (hx : (x : Int) < side k) (hy : (y : Int) < side k) (hd : d < 20) (hC : cntI (atD k x y d) (2 * m * (2 * m)) = C) :
    Calls Try.prog 28 #[.agg #[.int .i64 k], .agg #[.int .i64 ((x : Int)), .int .i64 ((y : Int))], .int .i64 (d : Int)] w fun e w' => e = .returned (.int .i64 (C : Int)) ∧ Below w.heap.size w w' := by
  have hc : hasB k x y = true := (hasB_iff _ _ _).2 (by omega)
  have h2 := count_ring (k := k) (s := 2 * m) (x := x) (y := y) (d := d) (by omega) (by omega) (by omega) (by omega) hd
  rw [hC] at h2
  by_cases e : d ≤ 2 * m
  · have e2 : Nat.blt (2 * m) d = false := by cases q : Nat.blt (2 * m) d with | false => rfl | true => have := Nat.le_of_ble_eq_true q; omega
    have e3 : 2 * m / 2 = m := by omega
    rw [e2, e3] at h2
    have h3 := (ringM_bd m d e).1
    have e4 : (C : Int) = ringM m d := by rw [h2]; show ((ringM m d).toNat : Int) = _; omega
    rw [e4]
    exact ring_at k x y d m w hc hs (by omega) e
  · have e2 : Nat.blt (2 * m) d = true := Nat.ble_eq_true_of_le (show 2 * m + 1 ≤ d by omega)
    rw [e2] at h2
    have e4 : (C : Int) = 0 := by rw [h2]; rfl
    rw [e4]
    exact ring_far k x y d w hc (by omega)
theorem side_at {k s : Int} (h : side k = s) (w : World) : Calls Try.prog 16 #[.agg #[.int .i64 k]] w fun e w' => e = .returned (.int .i64 s) ∧ Below w.heap.size w w' := h ▸ side_any k w
theorem area_at {k s : Int} (h : side k * side k = s) (w : World) : Calls Try.prog 18 #[.agg #[.int .i64 k]] w fun e w' => e = .returned (.int .i64 s) ∧ Below w.heap.size w w' := h ▸ area_any k w
theorem cell_at {k n u v : Int} (w : World) (h : 0 ≤ n ∧ n < side k * side k) (h1 : n % sd k = u) (h2 : n / sd k = v) : Calls Try.prog 14 #[.agg #[.int .i64 k], .int .i64 n] w fun e w' => e = .returned (.tuple #[.agg #[.int .i64 u, .int .i64 v], .int .i64 0]) ∧ Below w.heap.size w w' := h1 ▸ h2 ▸ cell_yes k n w h
theorem number_at {k x y n : Int} (w : World) (h : hasB k x y = true) (h1 : y * side k + x = n) : Calls Try.prog 12 #[.agg #[.int .i64 k], .agg #[.int .i64 x, .int .i64 y]] w fun e w' => e = .returned (.tuple #[.int .i64 n, .int .i64 0]) ∧ Below w.heap.size w w' := h1 ▸ number_yes k x y w h
theorem ring_in {k x y : Int} {d m : Nat} {s : Int} (w : World) (ha : hasB k x y = true) (hm : side k = 2 * (m : Int)) (hm2 : 1 ≤ m ∧ m ≤ 8) (hd : d ≤ 2 * m) (h : ringM m d = s) : Calls Try.prog 28 #[.agg #[.int .i64 k], .agg #[.int .i64 x, .int .i64 y], .int .i64 (d : Int)] w fun e w' => e = .returned (.int .i64 s) ∧ Below w.heap.size w w' := h ▸ ring_at k x y d m w ha hm (by omega) hd
set_option maxRecDepth 100000 in
set_option maxHeartbeats 1600000 in
theorem rings_walk (k x1 y1 d0 : Int) (w : World) : Calls Try.prog 6 #[.int .i64 k, .agg #[.int .i64 x1, .int .i64 y1], .int .i64 d0] w fun e w' => e = .returned (.bool true) ∧ Below w.heap.size w w' := by
  obtain ⟨K, hK⟩ : ∃ K, K = 1 + (k % 4) % 16 := ⟨_, rfl⟩
  have hr0 := on_low k 4 (by omega)
  rw [← hK] at hr0
  have hr : rgt K = true := by rw [rgt_iff]; omega
  obtain ⟨m, hm, hm4⟩ := side_small hr0
  have HK := Lib.hid hK
  have hkt := tmod_bd k 4 (by omega)
  have hke := tmod_emod k 4
  clear hK
  have hin1 := inB_mod_yes hr x1
  have hin2 := inB_mod_yes hr y1
  obtain ⟨a1, a2⟩ := (inB_iff _ _).1 hin1
  obtain ⟨a3, a4⟩ := (inB_iff _ _).1 hin2
  obtain ⟨X, hX⟩ := Int.eq_ofNat_of_zero_le a1
  obtain ⟨Y, hY⟩ := Int.eq_ofNat_of_zero_le a3
  rw [hX] at hin1 a2
  rw [hY] at hin2 a4
  have hh : hasB K X Y = true := has_mk hin1 hin2
  have HX := Lib.hid hX
  have HY := Lib.hid hY
  have HH := Lib.hid hh
  clear a1 a3 hX hY hh hin1 hin2
  have hd1 := Int.emod_nonneg d0 (show (20 : Int) ≠ 0 by omega)
  have hd2 := Int.emod_lt_of_pos d0 (show (0 : Int) < 20 by omega)
  have hdt := tmod_bd d0 20 (by omega)
  have hde : (d0.tmod 20 + 20) % 20 = d0 % 20 := by rw [Int.add_emod_right, tmod_emod d0 20]
  obtain ⟨d, hd⟩ := Int.eq_ofNat_of_zero_le hd1
  rw [hd] at hde hd2
  have hd3 : d < 20 := by omega
  have HDE := Lib.hid hde
  clear hd hd1 hd2 hde
  have HM := Lib.hid hm
  replace hm4 := Lib.hid hm4
  have hmb : 1 ≤ m ∧ m ≤ 8 := by have := hm4.out; omega
  go_enter Try.func6, Try.ntmps6
  go_wp2_with fail
  refine Calls.named (fun w0 hw0 => ?_)
  have hs : Since w w0 := ((Since.refl w).alloc _).named hw0
  have wa : Whole w0 w.heap.size 23 #[.int .i64 x1, .int .i64 y1] := (Whole.new w _ _).named hw0
  clear hw0
  refine (on_any _ w0).mono ?_
  rintro e w1 ⟨rfl, hb1⟩
  rw [← HK.out]
  replace hs := hs.trans hb1
  replace wa := Since.whole hb1 wa
  clear hb1 hkt hke
  have hz1 := wa.lt
  have q1 := wa.cell 0
  have q2 := wa.cell 1
  go_wp2_with fail
  clear q1 q2
  refine Calls.named (fun w2 hw2 => ?_)
  have wt : Whole w2 w1.heap.size 25 #[.int .i64 K] := (Whole.new w1 _ _).named hw2
  replace hs : Since w w2 := (hs.alloc _).named hw2
  replace wa := (wa.alloc _).named hw2
  obtain ⟨g, hg⟩ : ∃ g, g = w1.heap.size := ⟨_, rfl⟩
  rw [← hg] at wt hz1 ⊢
  clear hw2 hg
  refine (at_any K x1 y1 _).mono ?_
  rintro e w3 ⟨rfl, hb1⟩
  rw [HX.out, HY.out]
  replace hs := hs.trans hb1
  replace wt := Since.whole hb1 wt
  replace wa := Since.whole hb1 wa
  clear hb1
  have t1 := wt.cell 0
  have p1 := wa.cell 0
  have p2 := wa.cell 1
  have f1 := wa.frozen 0
  have f2 := wa.frozen 1
  go_wp2
  clear t1 p1 p2 f1 f2
  replace hs := (hs.setCell (p := ⟨w.heap.size, 0, none⟩) (by simp) (.int .i64 (X : Int))).setCell (p := ⟨w.heap.size, 1, none⟩) (by simp) (.int .i64 (Y : Int))
  replace wt := (wt.far (p := ⟨w.heap.size, 0, none⟩) (by simp; try omega) (.int .i64 (X : Int))).far (p := ⟨w.heap.size, 1, none⟩) (by simp; try omega) (.int .i64 (Y : Int))
  replace wa := (wa.set_ 0 (.int .i64 (X : Int))).set_ 1 (.int .i64 (Y : Int))
  have HXS := Lib.hid a2
  have HYS := Lib.hid a4
  obtain ⟨A, hA⟩ : ∃ A, A = 2 * m * (2 * m) := ⟨_, rfl⟩
  have hA2 : side K * side K = (A : Int) := by rw [hm, hA]; push_cast; rfl
  have hA3 : A ≤ 256 := by rw [hA]; exact Nat.le_trans (Nat.mul_le_mul (show 2 * m ≤ 16 by omega) (show 2 * m ≤ 16 by omega)) (by omega)
  have hT : sumR m (2 * m + 1) = (A : Int) := by rw [sumR_all hm4.out, hA]; push_cast; rfl
  have HA := Lib.hid hA
  have HA2 := Lib.hid hA2
  have HT := Lib.hid hT
  clear a2 a4 hm hA hA2 hT hr hr0
  go_loopw [8, 9] (fun t c wr => ∃ i : Nat, c = .int .i64 (i : Int) ∧ i ≤ 2 * m + 1 ∧ t = .int .i64 (sumR m i) ∧ Whole wr g 25 #[.int .i64 K] ∧ Whole wr w.heap.size 23 #[.int .i64 (X : Int), .int .i64 (Y : Int)] ∧ Since w wr) (fun _ c _ => 2 * m + 1 - (intOf c).toNat)
  case atStart => exact ⟨0, rfl, by omega, rfl, wt, wa, hs⟩
  case round =>
    clear wt wa hs
    obtain ⟨i, rfl, hi, rfl, wt, wa, hs⟩ := hrel
    have ct := box_cell wt 0 (.int .i64 K) rfl
    have ca1 := box_cell wa 0 (.int .i64 (X : Int)) rfl
    have ca2 := box_cell wa 1 (.int .i64 (Y : Int)) rfl
    have hsr := Since.refl wr
    by_cases hlt : i ≤ 2 * m
    · have hlt2 : (i : Int) ≤ 2 * (m : Int) := by omega
      obtain ⟨R, hR⟩ : ∃ R, ringM m i = R := ⟨_, rfl⟩
      have b1 := ringM_bd m i hlt
      have b2 := sumR_bd m i (by omega) hi
      have e1 : sumR m (i + 1) = sumR m i + R := by rw [← hR]; rfl
      rw [hR] at b1
      have HR := Lib.hid hR
      have E1 := Lib.hid e1
      have HLT := Lib.hid hlt
      clear hR e1
      go_wp2_with (first
        | (go_at_call 16; (with_reducible refine (Calls.since (by assumption) (side_at HM.out _)).mono ?_); rintro e w5 ⟨rfl, hb5⟩)
        | (go_at_call 28; (with_reducible refine (Calls.since (by assumption) (ring_in _ HH.out HM.out hmb HLT.out HR.out)).mono ?_); rintro e w6 ⟨rfl, hb6⟩))
      clear ct ca1 ca2 hsr
      go_roundw
      case rel => exact ⟨i + 1, by go_num, by omega, by rw [E1.out], Since.whole hb6 wt, Since.whole hb6 wa, hs.trans hb6⟩
      case measure => simp [intOf]; omega
    · obtain rfl : i = 2 * m + 1 := by omega
      rw [HT.out]
      go_wp2_with (go_at_call 16; (with_reducible refine (Calls.since (by assumption) (side_at HM.out _)).mono ?_); rintro e w5 ⟨rfl, hb5⟩)
      replace wt := Since.whole hb5 wt
      replace wa := Since.whole hb5 wa
      replace hs := hs.trans hb5
      clear ct ca1 ca2 hsr hb5 hi hlt hdt
      rw [HDE.out]
      go_loopw [10, 11] (fun n c wr => ∃ i : Nat, c = .int .i64 (i : Int) ∧ i ≤ A ∧ n = .int .i64 ((cntI (atD K X Y d) i : Nat) : Int) ∧ Whole wr g 25 #[.int .i64 K] ∧ Whole wr w.heap.size 23 #[.int .i64 (X : Int), .int .i64 (Y : Int)] ∧ Since w wr) (fun _ c _ => A - (intOf c).toNat)
      case atStart => exact ⟨0, rfl, by omega, rfl, wt, wa, hs⟩
      case round =>
        clear wt wa hs
        obtain ⟨i, rfl, hi, rfl, wt, wa, hs⟩ := hrel
        have ct := box_cell wt 0 (.int .i64 K) rfl
        have ca1 := box_cell wa 0 (.int .i64 (X : Int)) rfl
        have ca2 := box_cell wa 1 (.int .i64 (Y : Int)) rfl
        have hsr := Since.refl wr
        by_cases hlt : i < A
        · have h300 : (i : Int) < 300 := by omega
          have hlt2 : (i : Int) < (A : Int) := by omega
          have HR : 0 ≤ (i : Int) ∧ (i : Int) < side K * side K := by rw [HA2.out]; omega
          have hrt : rgt K = true := area_no HR
          obtain ⟨U, hU⟩ : ∃ U, (i : Int) % sd K = U := ⟨_, rfl⟩
          obtain ⟨V, hV⟩ : ∃ V, (i : Int) / sd K = V := ⟨_, rfl⟩
          have hnum : V * side K + U = (i : Int) := by
            rw [← hU, ← hV, sd_yes hrt, Int.mul_comm]
            exact Int.mul_ediv_add_emod _ _
          have hUV : hasB K U V = true := by
            have hsp := sd_pos K
            rw [hasB_iff, ← hU, ← hV, sd_yes hrt]
            rw [sd_yes hrt] at hsp
            exact ⟨Int.emod_nonneg _ (by omega), Int.emod_lt_of_pos _ hsp, Int.ediv_nonneg HR.1 (by omega), Int.ediv_lt_of_lt_mul hsp HR.2⟩
          have hf : atD K X Y d i = decide (dist K X Y U V = (d : Int)) := by unfold atD; rw [← hU, ← hV, sd_yes hrt]
          obtain ⟨D, hD⟩ : ∃ D, dist K X Y U V = D := ⟨_, rfl⟩
          rw [hD] at hf
          have hcl := cntI_le (atD K X Y d) i
          have HU := Lib.hid hU
          have HV := Lib.hid hV
          have HN := Lib.hid hnum
          have HUV := Lib.hid hUV
          have HD := Lib.hid hD
          have HRR := Lib.hid HR
          have hcase : ((D == (d : Int)) = true ∧ cntI (atD K X Y d) (i + 1) = cntI (atD K X Y d) i + 1) ∨ ((D == (d : Int)) = false ∧ cntI (atD K X Y d) (i + 1) = cntI (atD K X Y d) i) := by
            simp only [cntI]
            rw [hf]
            by_cases e : D = (d : Int)
            · left; simp [e]
            · right; simp [e]
          clear hf hD HR hrt hU hV hnum hUV
          obtain ⟨c0, hc0⟩ : ∃ c0, cntI (atD K X Y d) i = c0 := ⟨_, rfl⟩
          rw [hc0] at hcase hcl ⊢
          clear hc0
          go_wp2_with fail
          refine (area_at HA2.out _).mono ?_
          rintro e w5 ⟨rfl, hb5⟩
          replace wt := Since.whole hb5 wt
          replace wa := Since.whole hb5 wa
          replace hs := hs.trans hb5
          replace ct := box_cell wt 0 (.int .i64 K) rfl
          clear ca1 ca2 hsr hb5
          have hsr := Since.refl w5
          go_wp2_with fail
          refine (cell_at _ HRR.out HU.out HV.out).mono ?_
          rintro e w6 ⟨rfl, hb6⟩
          replace wt := Since.whole hb6 wt
          replace wa := Since.whole hb6 wa
          replace hs := hs.trans hb6
          clear ct hb6 hsr
          have y1 := wt.lt
          have y2 := wa.lt
          have t1 := wt.cell 0
          go_wp2_with fail
          clear t1
          refine Calls.named (fun w7 hw => ?_)
          have wn : Whole w7 w6.heap.size 23 #[.int .i64 U, .int .i64 V] := (Whole.new w6 _ _).named hw
          replace hs : Since w w7 := (hs.alloc _).named hw
          replace wt := (wt.alloc _).named hw
          replace wa := (wa.alloc _).named hw
          obtain ⟨q, hq⟩ : ∃ q, q = w6.heap.size := ⟨_, rfl⟩
          rw [← hq] at wn y1 y2 ⊢
          clear hw hq
          have ct := box_cell wt 0 (.int .i64 K) rfl
          have ca1 := box_cell wa 0 (.int .i64 (X : Int)) rfl
          have ca2 := box_cell wa 1 (.int .i64 (Y : Int)) rfl
          have cn1 := box_cell wn 0 (.int .i64 U) rfl
          have cn2 := box_cell wn 1 (.int .i64 V) rfl
          have hsr := Since.refl w7
          refine (Calls.since hsr (number_at _ HUV.out HN.out)).mono ?_
          rintro e w8 ⟨rfl, hb8⟩
          rcases hcase with ⟨n1, n2⟩ | ⟨n1, n2⟩
          all_goals
            have N2 := Lib.hid n2
            clear n2
            go_wp2_with (first
              | (go_at_call 8; (with_reducible refine (law_num_any _ _).mono ?_); rintro e w' ⟨rfl, rfl⟩)
              | (go_at_call 26; (with_reducible refine (Calls.since (by assumption) (dist_at HD.out _)).mono ?_); rintro e w9 ⟨rfl, hb9⟩))
            clear ct ca1 ca2 cn1 cn2 hsr
            go_roundw
            case rel => exact ⟨i + 1, by go_num, by omega, by rw [N2.out]; try go_num, Since.whole hb9 wt, Since.whole hb9 wa, hs.trans hb9⟩
            case measure => simp [intOf]; omega
        · obtain rfl : i = A := by omega
          obtain ⟨C, hC⟩ : ∃ C, cntI (atD K X Y d) i = C := ⟨_, rfl⟩
          rw [hC]
          rw [HA.out] at hC
          have HC := Lib.hid hC
          clear hC hi hlt
          go_wp2_with (first
            | (go_at_call 18; (with_reducible refine (Calls.since (by assumption) (area_at HA2.out _)).mono ?_); rintro e w6 ⟨rfl, hb6⟩)
            | (go_at_call 28; (with_reducible refine (Calls.since (by assumption) (ring_total _ _ _ _ _ _ _ hm4.out HM.out HXS.out HYS.out hd3 HC.out)).mono ?_); rintro e w7 ⟨rfl, hb7⟩)
            | (go_at_call 23; (with_reducible refine (Calls.since (by assumption) (knows_any _)).mono ?_); rintro e w8 ⟨rfl, hb8⟩))
          go_ret
          exact ⟨rfl, hs.trans hb8⟩
end Go.Proofs.Ytgnligeiojdmhaa
