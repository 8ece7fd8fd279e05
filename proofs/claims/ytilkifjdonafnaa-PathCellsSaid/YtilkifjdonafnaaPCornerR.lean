/- gleberef03.Corner: a zone's least cell, how wide and how high it is, half by half. -/
import Derived.Test.YtilkifjdonafnaaPAtR
namespace Go.Proofs.Ytilkifjdonafnaa
open Go.RowKit
set_option maxHeartbeats 800000 in
theorem refCorner_no (k d b : Int) (w : World) (h : okP k d b = false) : Calls Try.prog 21 #[.int .i64 k, .agg #[.int .i64 d, .int .i64 b]] w fun e w' => e = .returned (.tuple #[.agg #[.int .i64 0, .int .i64 0], .int .i64 0, .int .i64 0]) ∧ Below w.heap.size w w' := by
  obtain ⟨w0, hw0⟩ : ∃ w0, w0 = (w.alloc (.cells #[.int .i64 d, .int .i64 b] 23)).alloc (.cells #[.int .i64 0, .int .i64 0] 29) := ⟨_, rfl⟩
  have hs0 : Since w w0 := by rw [hw0]; exact ((Since.refl w).alloc _).alloc _
  have wh0 : Whole w0 (w.heap.size) 23 #[.int .i64 d, .int .i64 b] := by rw [hw0]; exact (Whole.new w _ _).alloc _
  have wh1 : Whole w0 (w.heap.size + 1) 29 #[.int .i64 0, .int .i64 0] := by rw [hw0]; exact (Whole.new (w.alloc _) _ _).at_ (by simp)
  have HW := Lib.hid hw0
  have c0_0 := box_cell wh0 0 (.int .i64 d) rfl
  have c0_1 := box_cell wh0 1 (.int .i64 b) rfl
  have c1_0 := box_cell wh1 0 (.int .i64 0) rfl
  have f1_0 := box_free wh1 0
  have c1_1 := box_cell wh1 1 (.int .i64 0) rfl
  have f1_1 := box_free wh1 1
  have hsr := Since.refl w0
  have hsd := hsr.drew
  clear hw0 wh0 wh1
  replace h := Lib.hid h
  go_enter Try.func21, Try.ntmps21
  go_wp2_with fail
  rw [← HW.out]
  go_wp2_with (go_at_call 47; (with_reducible refine (Calls.since (by assumption) (refRightP_at h.out _)).mono ?_); rintro e w1 ⟨rfl, hb1⟩)
  have g1 := c1_0 w1 hb1
  have g2 := c1_1 w1 hb1
  exact bodyPost_ret (v := .tuple #[.agg #[.int .i64 0, .int .i64 0], .int .i64 0, .int .i64 0]) (by simp [results, Try.results21, go_sem, g1, g2]) rfl ⟨rfl, Below.setCell (Below.setCell (hs0.trans hb1) (by simp) _) (by simp) _⟩
/-- One half more of a row of cells, out of a path's halves. -/
theorem half_more {z t P W : Int} (hW : W = 2 * P) : (2 * z + t) * P = z * W + t * P := by
  rw [hW, Int.add_mul, ← Int.mul_assoc, Int.mul_comm z 2]
set_option maxRecDepth 100000 in
set_option maxHeartbeats 3200000 in
theorem refCorner_yes (k d b p q r s : Int) (w : World) (h : okP k d b = true) (e : corF (side k) (ups d b (cnt d b)) = (p, q, r, s)) : Calls Try.prog 21 #[.int .i64 k, .agg #[.int .i64 d, .int .i64 b]] w fun e w' => e = .returned (.tuple #[.agg #[.int .i64 p, .int .i64 q], .int .i64 r, .int .i64 s]) ∧ Below w.heap.size w w' := by
  have hf := okP_fine h
  obtain ⟨k1, k2, d1, d2, b1, b2⟩ := (okP_iff k d b).1 h
  obtain ⟨n, hn⟩ : ∃ n : Nat, k = (n : Int) := ⟨k.toNat, by omega⟩
  obtain ⟨dn, hdn⟩ : ∃ dn : Nat, d.toNat = dn := ⟨_, rfl⟩
  have hdd : d = (dn : Int) := by omega
  have hside : side k = 2 ^ n := by rw [side_yes ((rgt_iff k).2 ⟨k1, k2⟩), hn]; rfl
  have hn16 : n ≤ 16 := by omega
  have hn1 : 1 ≤ n := by omega
  have hdn2 : dn ≤ 2 * n := by omega
  have hv := corF_val (n := n) (d := d) (b := b) hn1 hn16 hf (by omega) dn (by omega)
  rw [hside, cnt_yes hf, hdn, hv] at e
  obtain ⟨e1, e⟩ := Prod.mk.inj e
  obtain ⟨e2, e⟩ := Prod.mk.inj e
  obtain ⟨e3, e4⟩ := Prod.mk.inj e
  have E1 := Lib.hid e1
  have E2 := Lib.hid e2
  have E3 := Lib.hid e3
  have E4 := Lib.hid e4
  have HS2 := Lib.hid hside
  have HF := Lib.hid hf
  have HD := Lib.hid hdd
  obtain ⟨S, hS⟩ : ∃ S, txt d b = S := ⟨_, rfl⟩
  have zS : (S.size : Int) = dn := by rw [← hS, txt_size, hdn]
  have hgS : ∀ n : Nat, (hn : n < S.size) → ((S[n]'hn).toNat : Int) = 48 + bitI d b n := by rw [← hS]; exact fun n hn => txt_get hf n hn
  have HGS := Lib.hid hgS
  have ZS := Lib.hid zS
  replace hS := Lib.hid hS
  replace h := Lib.hid h
  obtain ⟨w0, hw0⟩ : ∃ w0, w0 = (w.alloc (.cells #[.int .i64 d, .int .i64 b] 23)).alloc (.cells #[.int .i64 0, .int .i64 0] 29) := ⟨_, rfl⟩
  have hs0 : Since w w0 := by rw [hw0]; exact ((Since.refl w).alloc _).alloc _
  have wh0 : Whole w0 (w.heap.size) 23 #[.int .i64 d, .int .i64 b] := by rw [hw0]; exact (Whole.new w _ _).alloc _
  have wh1 : Whole w0 (w.heap.size + 1) 29 #[.int .i64 0, .int .i64 0] := by rw [hw0]; exact (Whole.new (w.alloc _) _ _).at_ (by simp)
  have HW := Lib.hid hw0
  have c0_0 := box_cell wh0 0 (.int .i64 d) rfl
  have c0_1 := box_cell wh0 1 (.int .i64 b) rfl
  have c1_0 := box_cell wh1 0 (.int .i64 0) rfl
  have c1_1 := box_cell wh1 1 (.int .i64 0) rfl
  have hsr := Since.refl w0
  have hsd := hsr.drew
  clear hw0
  have hzx : xs d b 0 * 2 ^ (n - hx 0) = 0 := Int.zero_mul _
  have hzy : ys d b 0 * 2 ^ (n - hy 0) = 0 := Int.zero_mul _
  have ZX := Lib.hid hzx
  have ZY := Lib.hid hzy
  clear e e1 e2 e3 e4 hside hv hgS zS hzx hzy hf hdd hn k1 k2 d1 d2 b1 b2 hdn
  go_enter Try.func21, Try.ntmps21
  go_wp2_with fail
  rw [← HW.out]
  go_wp2_with (first | (go_at_call 47; (with_reducible refine (Calls.since (by assumption) (refRightP_at h.out _)).mono ?_); rintro e w1 ⟨rfl, hb1⟩) | ((go_at_call 45; (with_reducible refine (Calls.since_same (by assumption) (refSide_at HS2.out _)).mono ?_); rintro e w2 ⟨rfl, hb2⟩); have hsa := hb2.alloc (.cells #[.int .i64 0, .int .i64 0] 29)))
  refine Calls.named (fun w3 hw3 => ?_)
  have wg : Whole w3 w2.heap.size 29 #[.int .i64 0, .int .i64 0] := (Whole.new w2 29 #[.int .i64 0, .int .i64 0]).named hw3
  have hlG := (Since.whole hb2 wh1).lt
  have wr0 : Whole w3 (w.heap.size + 1) 29 #[.int .i64 0, .int .i64 0] := ((Since.whole hb2 wh1).alloc (.cells #[.int .i64 0, .int .i64 0] 29)).named hw3
  have hs : Since w w3 := ((hs0.trans hb2).alloc (.cells #[.int .i64 0, .int .i64 0] 29)).named hw3
  clear hw3 hsa
  refine (refHalves_at HF.out hS.out w3).mono ?_
  rintro e w4 ⟨rfl, hb4⟩
  replace wg := Since.whole hb4 wg
  replace wr0 := Since.whole hb4 wr0
  replace hs := hs.trans hb4
  obtain ⟨G, hG⟩ : ∃ G, G = w2.heap.size := ⟨_, rfl⟩
  rw [← hG] at hlG wg ⊢
  have u0 : w.heap.size + 1 ≠ G := by omega
  clear hG hb4 c0_0 c0_1 c1_0 c1_1 wh0 wh1 hsr hsd hs0
  go_wp2_with fail
  go_loopw [7, 8, 11] (fun wd ht i wr => ∃ m : Nat, i = .int .i64 m ∧ m ≤ dn ∧ wd = .int .i64 (2 ^ (n - hx m)) ∧ ht = .int .i64 (2 ^ (n - hy m)) ∧
      Whole wr G 29 #[.int .i64 (xs d b m * 2 ^ (n - hx m)), .int .i64 (ys d b m * 2 ^ (n - hy m))] ∧ Whole wr (w.heap.size + 1) 29 #[.int .i64 0, .int .i64 0] ∧ Since w wr) (fun _ _ i _ => dn - (intOf i).toNat)
  case atStart => exact ⟨0, rfl, Nat.zero_le _, rfl, rfl, by rw [ZX.out, ZY.out]; exact wg, wr0, hs⟩
  case round =>
    clear wg wr0 hs
    obtain ⟨m, rfl, hm, rfl, rfl, wg, wr0, hs⟩ := hrel
    have hln : (m : Int) ≤ 32 := by omega
    by_cases hlt : m < dn
    · have l1 : m < S.size := by have := ZS.out; omega
      have d1 : decide ((m : Int) < S.size) = true := decide_eq_true (by omega)
      have j1 : (m : Int) < S.size := by omega
      have gs := HGS.out m l1
      have hb := bit01 (i := m) HF.out (by omega) (by have := HD.out; omega)
      have hz := xs_bd HF.out m (by have := HD.out; omega)
      by_cases he : m % 2 = 0
      · have f1 := tmod_even he
        obtain ⟨ex, ey⟩ := hx_even he
        obtain ⟨s1, s2⟩ := xs_e (d := d) (b := b) he
        have hle : hx (m + 1) ≤ n := by unfold hx; omega
        have hE : n - hx m = n - hx (m + 1) + 1 := by rw [ex] at hle ⊢; omega
        have hpe : (2 : Int) ^ (n - hx m) = 2 * 2 ^ (n - hx (m + 1)) := by rw [hE, p2_succ]
        have hp16 := p2_16 (n := n) hn16
        have hpp := p2_pos (n - hx (m + 1))
        have hpb := part_bd (e := n - hx m) (n := n) hz.1 hz.2.1 (by rw [ex] at hle; omega)
        have hmo := half_more (z := xs d b m) (t := bitI d b m) hpe
        rw [← s1] at hmo
        obtain ⟨P, hP⟩ : ∃ P : Int, 2 ^ (n - hx (m + 1)) = P := ⟨_, rfl⟩
        obtain ⟨W, hWW⟩ : ∃ W : Int, 2 ^ (n - hx m) = W := ⟨_, rfl⟩
        rw [hP, hWW] at hmo
        rw [hP] at hpe hpp
        rw [hWW] at hpe hpb
        obtain ⟨X, hX⟩ : ∃ X : Int, xs d b m * W = X := ⟨_, rfl⟩
        obtain ⟨V, hV⟩ : ∃ V : Int, 2 ^ (n - hy m) = V := ⟨_, rfl⟩
        obtain ⟨Y, hY⟩ : ∃ Y : Int, ys d b m * V = Y := ⟨_, rfl⟩
        rw [hWW, hV, hX, hY] at wg
        rw [hX] at hmo hpb
        rw [hWW, hV]
        have u1 : W.tdiv 2 = P := by rw [hpe, Int.tdiv_eq_ediv_of_nonneg (by omega)]; omega
        have u2 : W / 2 = P := by omega
        have u3 : wrap64 P = P := IntWalk.wrap64_in _ ⟨by omega, by omega⟩
        have u4 : wrap64 (X + P) = X + P := IntWalk.wrap64_in _ ⟨by omega, by omega⟩
        have HP := Lib.hid hP
        have HV := Lib.hid hV
        have HY := Lib.hid hY
        have HE := Lib.hid ey
        have SY := Lib.hid s2
        have t1 := wg.cell 0
        have t2 := wg.cell 1
        have f2 := wg.frozen 0
        rcases (show bitI d b m = 0 ∨ bitI d b m = 1 by omega) with hbit | hbit
        · rw [hbit] at gs hmo
          have gs' : ((S[m]'l1).toNat : Int) = 48 := by omega
          have hmo' : xs d b (m + 1) * P = X := by omega
          have SX := Lib.hid hmo'
          clear gs hmo hmo' hbit hb hz ex ey s1 s2 hle hE hpe hp16 hpp hpb hP hWW hX hV hY
          go_wp2_with fail
          go_roundw
          case rel =>
            refine ⟨m + 1, by go_num, by omega, ?_, ?_, ?_, wr0, hs⟩
            · rw [HP.out]; try rw [u3]
            · rw [HE.out, HV.out]
            · rw [HP.out, SX.out, SY.out, HE.out, HV.out, HY.out]
              exact wg
          case measure => simp [intOf]; omega
        · rw [hbit] at gs hmo
          have gs' : ((S[m]'l1).toNat : Int) = 49 := by omega
          have hmo' : xs d b (m + 1) * P = X + P := by omega
          have SX := Lib.hid hmo'
          clear gs hmo hmo' hbit hb hz ex ey s1 s2 hle hE hpe hp16 hpp hpb hP hWW hX hV hY
          go_wp2_with fail
          go_roundw
          case rel =>
            refine ⟨m + 1, by go_num, by omega, ?_, ?_, ?_, wr0.far (p := ⟨G, 0, none⟩) u0 _, hs.setCell (p := ⟨G, 0, none⟩) (by simp; omega) _⟩
            · rw [HP.out]; try rw [u3]
            · rw [HE.out, HV.out]
            · rw [HP.out, SX.out, SY.out, HE.out, HV.out, HY.out]
              first | exact wg.set_ 0 _ | (have := wg.set_ 0 (.int .i64 (wrap64 (X + P))); rw [u4] at this; exact this) | trace_state
          case measure => simp [intOf]; omega
      · have f1 := tmod_odd he
        obtain ⟨ex, ey⟩ := hx_odd he
        obtain ⟨s1, s2⟩ := xs_o (d := d) (b := b) he
        have hle : hy (m + 1) ≤ n := by unfold hy; omega
        have hE : n - hy m = n - hy (m + 1) + 1 := by rw [ey] at hle ⊢; omega
        have hpe : (2 : Int) ^ (n - hy m) = 2 * 2 ^ (n - hy (m + 1)) := by rw [hE, p2_succ]
        have hp16 := p2_16 (n := n) hn16
        have hpp := p2_pos (n - hy (m + 1))
        have hpb := part_bd (e := n - hy m) (n := n) hz.2.2.1 hz.2.2.2 (by rw [ey] at hle; omega)
        have hmo := half_more (z := ys d b m) (t := bitI d b m) hpe
        rw [← s2] at hmo
        obtain ⟨P, hP⟩ : ∃ P : Int, 2 ^ (n - hy (m + 1)) = P := ⟨_, rfl⟩
        obtain ⟨W, hWW⟩ : ∃ W : Int, 2 ^ (n - hy m) = W := ⟨_, rfl⟩
        rw [hP, hWW] at hmo
        rw [hP] at hpe hpp
        rw [hWW] at hpe hpb
        obtain ⟨X, hX⟩ : ∃ X : Int, ys d b m * W = X := ⟨_, rfl⟩
        obtain ⟨V, hV⟩ : ∃ V : Int, 2 ^ (n - hx m) = V := ⟨_, rfl⟩
        obtain ⟨Y, hY⟩ : ∃ Y : Int, xs d b m * V = Y := ⟨_, rfl⟩
        rw [hWW, hV, hX, hY] at wg
        rw [hX] at hmo hpb
        rw [hWW, hV]
        have u1 : W.tdiv 2 = P := by rw [hpe, Int.tdiv_eq_ediv_of_nonneg (by omega)]; omega
        have u2 : W / 2 = P := by omega
        have u3 : wrap64 P = P := IntWalk.wrap64_in _ ⟨by omega, by omega⟩
        have u4 : wrap64 (X + P) = X + P := IntWalk.wrap64_in _ ⟨by omega, by omega⟩
        have HP := Lib.hid hP
        have HV := Lib.hid hV
        have HY := Lib.hid hY
        have HE := Lib.hid ex
        have SY := Lib.hid s1
        have t1 := wg.cell 0
        have t2 := wg.cell 1
        have f2 := wg.frozen 1
        rcases (show bitI d b m = 0 ∨ bitI d b m = 1 by omega) with hbit | hbit
        · rw [hbit] at gs hmo
          have gs' : ((S[m]'l1).toNat : Int) = 48 := by omega
          have hmo' : ys d b (m + 1) * P = X := by omega
          have SX := Lib.hid hmo'
          clear gs hmo hmo' hbit hb hz ex ey s1 s2 hle hE hpe hp16 hpp hpb hP hWW hX hV hY
          go_wp2_with fail
          go_roundw
          case rel =>
            refine ⟨m + 1, by go_num, by omega, ?_, ?_, ?_, wr0, hs⟩
            · rw [HE.out, HV.out]
            · rw [HP.out]; try rw [u3]
            · rw [HP.out, SX.out, SY.out, HE.out, HV.out, HY.out]
              exact wg
          case measure => simp [intOf]; omega
        · rw [hbit] at gs hmo
          have gs' : ((S[m]'l1).toNat : Int) = 49 := by omega
          have hmo' : ys d b (m + 1) * P = X + P := by omega
          have SX := Lib.hid hmo'
          clear gs hmo hmo' hbit hb hz ex ey s1 s2 hle hE hpe hp16 hpp hpb hP hWW hX hV hY
          go_wp2_with fail
          go_roundw
          case rel =>
            refine ⟨m + 1, by go_num, by omega, ?_, ?_, ?_, wr0.far (p := ⟨G, 1, none⟩) u0 _, hs.setCell (p := ⟨G, 1, none⟩) (by simp; omega) _⟩
            · rw [HE.out, HV.out]
            · rw [HP.out]; try rw [u3]
            · rw [HP.out, SX.out, SY.out, HE.out, HV.out, HY.out]
              first | exact wg.set_ 1 _ | (have := wg.set_ 1 (.int .i64 (wrap64 (X + P))); rw [u4] at this; exact this) | trace_state
          case measure => simp [intOf]; omega
    · obtain rfl : m = dn := by omega
      have d1 : decide (m < S.size) = false := decide_eq_false (by have := ZS.out; omega)
      rw [E1.out, E2.out] at wg
      rw [E3.out, E4.out]
      have q1 := wg.cell 0
      have q2 := wg.cell 1
      have r1 := wr0.frozen 0
      have r2 := wr0.frozen 1
      have r3 := wr0.cell 0
      have r4 := wr0.cell 1
      have w1' := (wr0.set_ 0 (.int .i64 p)).set_ 1 (.int .i64 q)
      have r5 := w1'.cell 0
      have r6 := w1'.cell 1
      clear w1'
      go_wp2
      exact bodyPost_ret (v := .tuple #[.agg #[.int .i64 p, .int .i64 q], .int .i64 r, .int .i64 s]) (by simp [results, Try.results21, go_sem, r5, r6]) rfl ⟨rfl, (hs.setCell (p := ⟨w.heap.size + 1, 0, none⟩) (by simp) _).setCell (p := ⟨w.heap.size + 1, 1, none⟩) (by simp) _⟩
end Go.Proofs.Ytilkifjdonafnaa
