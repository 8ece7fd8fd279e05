/- The walk of the law WindowFour, by premises on the program. -/
import Derived.Test.YtbfjnnjblnjdkaaWKnows
import Derived.Test.YtbfjnnjblnjdkaaTBase
namespace Go.Proofs.Ytbfjnnjblnjdkaa
open Go.RowKit
set_option maxRecDepth 100000 in
set_option maxHeartbeats 6400000 in
theorem four_walk (hP : PlainC) (hD : DistC) (hG : RightC) (hM : MeetC) (hA : AreaC) (hH : HasC) (k a b c d x y : Int) (w : World) : Calls Try.prog 4 #[.int .i64 k, .agg #[.int .i64 a, .int .i64 b, .int .i64 c, .int .i64 d], .agg #[.int .i64 x, .int .i64 y]] w fun z w' => z = .returned (.bool true) ∧ Below w.heap.size w w' := by
  have k1 := tmod_bd k 16 (by decide)
  have k2 := tmod_pos k 16 (by decide)
  obtain ⟨R, hR⟩ : ∃ R, k % 16 = R := ⟨_, rfl⟩
  have k3 : 0 ≤ R ∧ R < 16 := by omega
  rw [hR] at k2
  clear hR
  obtain ⟨K, hK⟩ : ∃ K, 1 + R = K := ⟨_, rfl⟩
  have hr : rgt K = true := by rw [rgt_iff]; omega
  have HR := Lib.hid hr
  have hwin := smW_win hr ⟨a, b, c, d⟩
  obtain ⟨⟨X, Y, U, T⟩, hsm⟩ : ∃ ρ, smW K ⟨a, b, c, d⟩ = ρ := ⟨_, rfl⟩
  rw [hsm] at hwin
  have SM := Lib.hid hsm
  have hw4 := (winR_iff _ _).1 hwin
  have hsd := side_bd K
  have hse := sd_yes hr
  have hsp := sd_pos K
  dsimp only at hw4
  obtain ⟨CX, hCX⟩ : ∃ C, x % sd K = C := ⟨_, rfl⟩
  obtain ⟨CY, hCY⟩ : ∃ C, y % sd K = C := ⟨_, rfl⟩
  have cx0 := Int.emod_nonneg x (show sd K ≠ 0 by omega)
  have cx1 := Int.emod_lt_of_pos x hsp
  have cy0 := Int.emod_nonneg y (show sd K ≠ 0 by omega)
  have cy1 := Int.emod_lt_of_pos y hsp
  rw [hCX] at cx0 cx1
  rw [hCY] at cy0 cy1
  rw [hse] at cx1 cy1
  have HX := Lib.hid hCX
  have HY := Lib.hid hCY
  have wx : wrap64 (CX - X) = CX - X := IntWalk.wrap64_in _ ⟨by omega, by omega⟩
  have wy : wrap64 (CY - Y) = CY - Y := IntWalk.wrap64_in _ ⟨by omega, by omega⟩
  have hpn := plain_cnt hwin ⟨cx0, cx1⟩ ⟨cy0, cy1⟩
  dsimp only at hpn
  obtain ⟨DX, hDX⟩ : ∃ D, (CX - X) % sd K = D := ⟨_, rfl⟩
  obtain ⟨DY, hDY⟩ : ∃ D, (CY - Y) % sd K = D := ⟨_, rfl⟩
  rw [← hse, hDX, hDY] at hpn
  have HDX := Lib.hid hDX
  have HDY := Lib.hid hDY
  have hsu := plain_sum hwin
  have hap := plain_apart hwin
  have hrt : ∀ r ∈ plainR K ⟨X, Y, U, T⟩, rightR K r = true := fun r h => (plain_right r h).1
  have hl4 : (plainR K ⟨X, Y, U, T⟩).length ≤ 4 := plain_len
  have hp := hP K X Y U T
  rw [show plE K ⟨X, Y, U, T⟩ = 0 from if_pos hwin] at hp
  obtain ⟨L, hL⟩ : ∃ L, plainR K ⟨X, Y, U, T⟩ = L := ⟨_, rfl⟩
  rw [hL] at hpn hsu hap hrt hl4 hp
  dsimp only at hsu
  obtain ⟨N, hN⟩ : ∃ N, L.countP (fun r => hasR r CX CY) = N := ⟨_, rfl⟩
  rw [hN] at hpn
  have PN := Lib.hid hN
  have hN' : (decide (DX < U) = true ∧ decide (DY < T) = true ∧ N = 1) ∨ (decide (DX < U) = false ∧ N = 0) ∨ (decide (DX < U) = true ∧ decide (DY < T) = false ∧ N = 0) := by
    by_cases h1 : DX < U
    · by_cases h2 : DY < T
      · rw [if_pos ⟨h1, h2⟩] at hpn
        exact .inl ⟨decide_eq_true h1, decide_eq_true h2, hpn⟩
      · rw [if_neg (fun z => h2 z.2)] at hpn
        exact .inr (.inr ⟨decide_eq_true h1, decide_eq_false h2, hpn⟩)
    · rw [if_neg (fun z => h1 z.1)] at hpn
      exact .inr (.inl ⟨decide_eq_false h1, hpn⟩)
  have ut : IntKind.i64.wrap (U * T) = U * T := by
    have h1 := Int.mul_nonneg (show 0 ≤ U by omega) (show 0 ≤ T by omega)
    have h2 := Int.mul_le_mul (show U ≤ 65536 by omega) (show T ≤ 65536 by omega) (by omega) (by omega)
    exact IntWalk.i64_in _ (by omega)
  have SU := Lib.hid hsu
  have hright := Lib.hid hrt
  have hapart := Lib.hid (show ∀ q m (h1 : q < m) (h2 : m < L.length), areaR (meetR L[m] (L[q]'(Nat.lt_trans h1 h2))) = 0 from fun q m h1 h2 => List.pairwise_iff_getElem.1 hap q m _ h2 h1)
  have hk := fun W => knows4 hP hD W
  replace hN := Lib.hid hN'
  clear hr hwin hsm hw4 hsd hse hsp hCX hCY cx0 cx1 cy0 cy1 hpn hDX hDY hsu hap hrt hN' hL hP hD
  obtain ⟨w0, hw0⟩ : ∃ w0, w0 = ((w.alloc (.cells #[.int .i64 a, .int .i64 b, .int .i64 c, .int .i64 d] 23)).alloc (.cells #[.int .i64 x, .int .i64 y] 27)).alloc (.cells #[.int .i64 K] 29) := ⟨_, rfl⟩
  have hs0 : Since w w0 := by rw [hw0]; exact (((Since.refl w).alloc _).alloc _).alloc _
  have wh0 : Whole w0 (w.heap.size) 23 #[.int .i64 a, .int .i64 b, .int .i64 c, .int .i64 d] := by rw [hw0]; exact ((Whole.new w _ _).alloc _).alloc _
  have wh1 : Whole w0 (w.heap.size + 1) 27 #[.int .i64 x, .int .i64 y] := by rw [hw0]; exact ((Whole.new (w.alloc _) _ _).alloc _).at_ (by simp)
  have wh2 : Whole w0 (w.heap.size + 1 + 1) 29 #[.int .i64 K] := by rw [hw0]; exact (Whole.new ((w.alloc _).alloc _) _ _).at_ (by simp)
  have HW := Lib.hid hw0
  have c0_0 := box_cell wh0 0 (.int .i64 a) rfl
  have c0_1 := box_cell wh0 1 (.int .i64 b) rfl
  have c0_2 := box_cell wh0 2 (.int .i64 c) rfl
  have c0_3 := box_cell wh0 3 (.int .i64 d) rfl
  have c1_0 := box_cell wh1 0 (.int .i64 x) rfl
  have c1_1 := box_cell wh1 1 (.int .i64 y) rfl
  have c2_0 := box_cell wh2 0 (.int .i64 K) rfl
  have hsr := Since.refl w0
  have hsd := hsr.drew
  clear hw0
  have br := wh0
  have bc := wh1
  have bt := wh2
  have hs : Since w w0 := hs0
  clear wh0 wh1 wh2 c0_0 c0_1 c0_2 c0_3 c1_0 c1_1 c2_0 hsr hsd hs0
  go_enter Try.func4, Try.ntmps4
  go_wp2_with fail
  rw [← HW.out]
  have t_bt0 := bt.cell 0
  have l_bt := bt.lt
  have t_br0 := br.cell 0
  have t_br1 := br.cell 1
  have t_br2 := br.cell 2
  have t_br3 := br.cell 3
  have l_br := br.lt
  go_wp2_with fail
  clear t_bt0 l_bt t_br0 t_br1 t_br2 t_br3 l_br
  refine (some4_at w0 HR.out SM.out).mono ?_
  rintro e w1 ⟨rfl, hb⟩
  replace br := Since.whole hb br
  replace bc := Since.whole hb bc
  replace bt := Since.whole hb bt
  replace hs := hs.trans hb
  clear hb
  have t_bt0 := bt.cell 0
  have l_bt := bt.lt
  go_wp2_with fail
  clear t_bt0 l_bt
  have u_br := br.lt
  have u_bc := bc.lt
  have u_bt := bt.lt
  refine Calls.named (fun w2 hw => ?_)
  replace br := (br.alloc (.cells #[.int .i64 X, .int .i64 Y, .int .i64 U, .int .i64 T] 34)).named hw
  replace bc := (bc.alloc (.cells #[.int .i64 X, .int .i64 Y, .int .i64 U, .int .i64 T] 34)).named hw
  replace bt := (bt.alloc (.cells #[.int .i64 X, .int .i64 Y, .int .i64 U, .int .i64 T] 34)).named hw
  replace hs : Since w w2 := Since.named (hs.alloc (.cells #[.int .i64 X, .int .i64 Y, .int .i64 U, .int .i64 T] 34)) hw
  have bw : Whole w2 w1.heap.size 34 #[.int .i64 X, .int .i64 Y, .int .i64 U, .int .i64 T] := (Whole.new w1 _ _).named hw
  obtain ⟨g_bw, hg⟩ : ∃ g, g = w1.heap.size := ⟨_, rfl⟩
  rw [← hg] at bw ⊢
  have n_bw_br : g_bw ≠ w.heap.size := by omega
  have m_bw_br : w.heap.size ≠ g_bw := by omega
  have n_bw_bc : g_bw ≠ w.heap.size + 1 := by omega
  have m_bw_bc : w.heap.size + 1 ≠ g_bw := by omega
  have n_bw_bt : g_bw ≠ w.heap.size + 1 + 1 := by omega
  have m_bw_bt : w.heap.size + 1 + 1 ≠ g_bw := by omega
  clear u_br u_bc u_bt
  clear hw hg
  have xb := bw.lt
  have xc := bc.lt
  refine (hp w2).mono ?_
  rintro z w3 ⟨v, rfl, hrow, hb⟩
  replace br := Since.whole hb br
  replace bc := Since.whole hb bc
  replace bt := Since.whole hb bt
  replace bw := Since.whole hb bw
  replace hs := hs.trans hb
  clear hb
  have hls0 := hrow.list encR_len
  obtain ⟨va, cap, rfl, hform⟩ := hls0.form
  obtain ⟨Bb, hBb⟩ : ∃ B, B = w2.heap.size := ⟨_, rfl⟩
  rw [← hBb] at hrow xb xc
  clear hBb hls0 hform
  have t_bt0 := bt.cell 0
  have l_bt := bt.lt
  have t_bc0 := bc.cell 0
  have t_bc1 := bc.cell 1
  have l_bc := bc.lt
  go_wp2_with fail
  clear t_bt0 l_bt t_bc0 t_bc1 l_bc
  refine (wrap_at HX.out HY.out _).mono ?_
  rintro e w4 ⟨rfl, hb⟩
  replace br := Since.whole hb br
  replace bc := Since.whole hb bc
  replace bt := Since.whole hb bt
  replace bw := Since.whole hb bw
  replace hrow := RowE.since hrow hb
  replace hs := hs.trans hb
  clear hb
  have t_bt0 := bt.cell 0
  have l_bt := bt.lt
  have t_bw0 := bw.cell 0
  have t_bw1 := bw.cell 1
  have t_bw2 := bw.cell 2
  have t_bw3 := bw.cell 3
  have l_bw := bw.lt
  have f_bc0 := bc.frozen 0
  have f_bc1 := bc.frozen 1
  have t_bc0 := bc.cell 0
  have t_bc1 := bc.cell 1
  go_wp2_with fail
  clear t_bt0 l_bt t_bw0 t_bw1 t_bw2 t_bw3 l_bw f_bc0 f_bc1 t_bc0 t_bc1
  refine Calls.named (fun w5 hw => ?_)
  replace br : Whole w5 (w.heap.size) 23 #[.int .i64 a, .int .i64 b, .int .i64 c, .int .i64 d] := (((br).far (p := ⟨w.heap.size + 1, 0, none⟩) (by simp; try omega) _).far (p := ⟨w.heap.size + 1, 1, none⟩) (by simp; try omega) _).named hw
  replace bc : Whole w5 (w.heap.size + 1) 27 #[.int .i64 CX, .int .i64 CY] := (((bc).set_ 0 _).set_ 1 _).named hw
  replace bt : Whole w5 (w.heap.size + 1 + 1) 29 #[.int .i64 K] := (((bt).far (p := ⟨w.heap.size + 1, 0, none⟩) (by simp; try omega) _).far (p := ⟨w.heap.size + 1, 1, none⟩) (by simp; try omega) _).named hw
  replace bw : Whole w5 (g_bw) 34 #[.int .i64 X, .int .i64 Y, .int .i64 U, .int .i64 T] := (((bw).far (p := ⟨w.heap.size + 1, 0, none⟩) (by simp; try omega) _).far (p := ⟨w.heap.size + 1, 1, none⟩) (by simp; try omega) _).named hw
  replace hrow : RowE encR 4 w5 (Bb) 34 (.slice va L.length cap) (L) := by rw [hw]; exact RowE.far (RowE.far (hrow) (p := ⟨w.heap.size + 1, 0, none⟩) (by simp; try omega) _) (p := ⟨w.heap.size + 1, 1, none⟩) (by simp; try omega) _
  replace hs : Since w w5 := Since.named (((hs).setCell (p := ⟨w.heap.size + 1, 0, none⟩) (by simp; try omega) _).setCell (p := ⟨w.heap.size + 1, 1, none⟩) (by simp; try omega) _) hw
  clear hw
  refine (wrap_at HDX.out HDY.out _).mono ?_
  rintro e w6 ⟨rfl, hb⟩
  replace br := Since.whole hb br
  replace bc := Since.whole hb bc
  replace bt := Since.whole hb bt
  replace bw := Since.whole hb bw
  replace hrow := RowE.since hrow hb
  replace hs := hs.trans hb
  clear hb
  have t_bc0 := bc.cell 0
  have t_bc1 := bc.cell 1
  have l_bc := bc.lt
  go_wp2_with fail
  clear t_bc0 t_bc1 l_bc
  refine Calls.named (fun w7 hw => ?_)
  replace br := (br.alloc (.cells #[.int .i64 DX, .int .i64 DY] 27)).named hw
  replace bc := (bc.alloc (.cells #[.int .i64 DX, .int .i64 DY] 27)).named hw
  replace bt := (bt.alloc (.cells #[.int .i64 DX, .int .i64 DY] 27)).named hw
  replace bw := (bw.alloc (.cells #[.int .i64 DX, .int .i64 DY] 27)).named hw
  replace hrow : RowE encR 4 w7 (Bb) 34 (.slice va L.length cap) (L) := by rw [hw]; exact RowE.alloc hrow _
  replace hs : Since w w7 := Since.named (hs.alloc (.cells #[.int .i64 DX, .int .i64 DY] 27)) hw
  have bd : Whole w7 w6.heap.size 27 #[.int .i64 DX, .int .i64 DY] := (Whole.new w6 _ _).named hw
  obtain ⟨g_bd, hg⟩ : ∃ g, g = w6.heap.size := ⟨_, rfl⟩
  rw [← hg] at bd ⊢
  clear hw hg
  have hls := hrow.list encR_len
  obtain ⟨B1, hB1⟩ : ∃ B, B = w7.heap.size := ⟨_, rfl⟩
  have hBz : B1 ≤ w7.heap.size := by omega
  rw [← hB1] at hls
  have hin := in_law hH CX CY w7 hls hBz hl4
  rw [PN.out] at hin
  refine hin.mono ?_
  rintro z w8 ⟨rfl, hb⟩
  replace br := Since.whole hb br
  replace bc := Since.whole hb bc
  replace bt := Since.whole hb bt
  replace bw := Since.whole hb bw
  replace bd := Since.whole hb bd
  replace hs := hs.trans hb
  replace hls := hls.since hb hBz
  replace hBz := Nat.le_trans hBz (Since.size_ hb)
  clear hb hrow hB1 hin
  have c_br0 := box_cell br 0 (.int .i64 a) rfl
  have c_br1 := box_cell br 1 (.int .i64 b) rfl
  have c_br2 := box_cell br 2 (.int .i64 c) rfl
  have c_br3 := box_cell br 3 (.int .i64 d) rfl
  have c_bc0 := box_cell bc 0 (.int .i64 CX) rfl
  have c_bc1 := box_cell bc 1 (.int .i64 CY) rfl
  have c_bt0 := box_cell bt 0 (.int .i64 K) rfl
  have c_bw0 := box_cell bw 0 (.int .i64 X) rfl
  have c_bw1 := box_cell bw 1 (.int .i64 Y) rfl
  have c_bw2 := box_cell bw 2 (.int .i64 U) rfl
  have c_bw3 := box_cell bw 3 (.int .i64 T) rfl
  have c_bd0 := box_cell bd 0 (.int .i64 DX) rfl
  have c_bd1 := box_cell bd 1 (.int .i64 DY) rfl
  have hsr := Since.refl w8
  have hsd := hsr.drew
  obtain ⟨va', cap', he, hform⟩ := hls.form
  injection he with he1 he2 he3
  subst he1 he3
  go_wp2_with fail
  go_loopw [13] (fun i wr => ∃ m : Nat, i = .int .i64 m ∧ m ≤ L.length ∧ Since w8 wr) (fun i _ => L.length - (intOf i).toNat)
  case atStart => exact ⟨0, rfl, Nat.zero_le _, hsr⟩
  case round =>
    obtain ⟨m, rfl, hm, hsm⟩ := hrel
    have hm5 : (m : Int) < 5 := by omega
    by_cases hlt : m < L.length
    · obtain ⟨g, rfl, hg⟩ := hform m hlt
      obtain ⟨⟨p1, p2, p3, p4⟩, hr⟩ : ∃ ρ, L[m] = ρ := ⟨_, rfl⟩
      have t0 : ∀ W, Since wr W → W.cell? ⟨g, m * 4, none⟩ = some (.int .i64 p1) := fun W hW => (hls.since (hsm.trans hW) hBz).at_ hlt 0 (by rw [hr]; rfl)
      have t1 : ∀ W, Since wr W → W.cell? ⟨g, m * 4 + 1, none⟩ = some (.int .i64 p2) := fun W hW => (hls.since (hsm.trans hW) hBz).at_ hlt 1 (by rw [hr]; rfl)
      have t2 : ∀ W, Since wr W → W.cell? ⟨g, m * 4 + 2, none⟩ = some (.int .i64 p3) := fun W hW => (hls.since (hsm.trans hW) hBz).at_ hlt 2 (by rw [hr]; rfl)
      have t3 : ∀ W, Since wr W → W.cell? ⟨g, m * 4 + 3, none⟩ = some (.int .i64 p4) := fun W hW => (hls.since (hsm.trans hW) hBz).at_ hlt 3 (by rw [hr]; rfl)
      have tt : ∀ W, Since wr W → W.cell? ⟨w.heap.size + 1 + 1, 0, none⟩ = some (.int .i64 K) := fun W hW => c_bt0 W (hsm.trans hW)
      have hrt : ∀ W, Calls Try.prog 22 #[.agg #[.int .i64 K], .agg #[.int .i64 p1, .int .i64 p2, .int .i64 p3, .int .i64 p4]] W fun z w' => z = .returned (.bool true) ∧ Below W.heap.size W w' := fun W => by
        have hrf := (fineR_iff _).1 (right_fine (hright.out L[m] (List.getElem_mem _)))
        rw [hr] at hrf
        dsimp only at hrf
        have h1 := hG K p1 p2 p3 p4 (by omega) (by omega) W
        rw [← hr, (hright.out L[m] (List.getElem_mem _))] at h1
        exact h1
      have d1 : decide ((m : Int) < L.length) = true := decide_eq_true (by omega)
      have d2 : decide ((m : Int) < 10) = true := decide_eq_true (by omega)
      have hwr := Since.refl wr
      have hwd := hwr.drew
      go_wp2_with fail
      go_region_held3 (fun W => Since wr W) (first | assumption | exact Since.drew (by assumption)) ((first | (go_at_call 22; (with_reducible refine (Calls.since (by assumption) (hrt _)).mono ?_); rintro e w70 ⟨rfl, hb70⟩)))
      go_wp2_with fail
      have hs70 : Since w8 w70 := hsm.trans hb70
      clear t0 t1 t2 t3 tt hrt hwr hwd hsm
      go_loopw [14] (fun i wr => ∃ q : Nat, i = .int .i64 q ∧ q ≤ m ∧ Since w8 wr) (fun i _ => m - (intOf i).toNat)
      case atStart => exact ⟨0, rfl, Nat.zero_le _, hs70⟩
      case round =>
        clear hs70 hb70
        obtain ⟨q, rfl, hq, hsm⟩ := hrel
        have hq5 : (q : Int) < 5 := by omega
        by_cases hqm : q < m
        · have hql : q < L.length := by omega
          obtain ⟨⟨q1, q2, q3, q4⟩, hr2⟩ : ∃ ρ, L[q] = ρ := ⟨_, rfl⟩
          obtain ⟨⟨v1, v2, v3, v4⟩, hmt⟩ : ∃ ρ, meetR ⟨p1, p2, p3, p4⟩ ⟨q1, q2, q3, q4⟩ = ρ := ⟨_, rfl⟩
          have hap := hapart.out q m hqm hlt
          rw [hr, hr2, hmt] at hap
          have hme : ∀ W, Calls Try.prog 24 #[.agg #[.int .i64 p1, .int .i64 p2, .int .i64 p3, .int .i64 p4], .agg #[.int .i64 q1, .int .i64 q2, .int .i64 q3, .int .i64 q4]] W fun z w' => z = .returned (.agg #[.int .i64 v1, .int .i64 v2, .int .i64 v3, .int .i64 v4]) ∧ Below W.heap.size W w' := fun W => by
            have h1 := hM p1 p2 p3 p4 q1 q2 q3 q4 W
            rw [hmt] at h1
            exact h1
          have har := hA v1 v2 v3 v4
          rw [hap] at har
          have t0 : ∀ W, Since wr W → W.cell? ⟨g, m * 4, none⟩ = some (.int .i64 p1) := fun W hW => (hls.since (hsm.trans hW) hBz).at_ hlt 0 (by rw [hr]; rfl)
          have t1 : ∀ W, Since wr W → W.cell? ⟨g, m * 4 + 1, none⟩ = some (.int .i64 p2) := fun W hW => (hls.since (hsm.trans hW) hBz).at_ hlt 1 (by rw [hr]; rfl)
          have t2 : ∀ W, Since wr W → W.cell? ⟨g, m * 4 + 2, none⟩ = some (.int .i64 p3) := fun W hW => (hls.since (hsm.trans hW) hBz).at_ hlt 2 (by rw [hr]; rfl)
          have t3 : ∀ W, Since wr W → W.cell? ⟨g, m * 4 + 3, none⟩ = some (.int .i64 p4) := fun W hW => (hls.since (hsm.trans hW) hBz).at_ hlt 3 (by rw [hr]; rfl)
          have s0 : ∀ W, Since wr W → W.cell? ⟨g, q * 4, none⟩ = some (.int .i64 q1) := fun W hW => (hls.since (hsm.trans hW) hBz).at_ hql 0 (by rw [hr2]; rfl)
          have s1 : ∀ W, Since wr W → W.cell? ⟨g, q * 4 + 1, none⟩ = some (.int .i64 q2) := fun W hW => (hls.since (hsm.trans hW) hBz).at_ hql 1 (by rw [hr2]; rfl)
          have s2 : ∀ W, Since wr W → W.cell? ⟨g, q * 4 + 2, none⟩ = some (.int .i64 q3) := fun W hW => (hls.since (hsm.trans hW) hBz).at_ hql 2 (by rw [hr2]; rfl)
          have s3 : ∀ W, Since wr W → W.cell? ⟨g, q * 4 + 3, none⟩ = some (.int .i64 q4) := fun W hW => (hls.since (hsm.trans hW) hBz).at_ hql 3 (by rw [hr2]; rfl)
          have d3 : decide ((q : Int) < m) = true := decide_eq_true (by omega)
          have hmL : (m : Int) < L.length := by omega
          have hqL : (q : Int) < L.length := by omega
          have hwr := Since.refl wr
          have hwd := hwr.drew
          go_wp2_with fail
          go_region_held3 (fun W => Since wr W) (first | assumption | exact Since.drew (by assumption)) ((first | (go_at_call 24; (with_reducible refine (Calls.since (by assumption) (hme _)).mono ?_); rintro e w71 ⟨rfl, hb71⟩) | (go_at_call 23; (with_reducible refine (Calls.since (by assumption) (har _)).mono ?_); rintro e w72 ⟨rfl, hb72⟩)))
          go_wp2_with fail
          go_roundw
          case rel => exact ⟨q + 1, by go_num, by omega, hsm.trans (by assumption)⟩
          case measure => simp [intOf]; omega
        · obtain rfl : q = m := by omega
          have d3 : decide ((q : Int) < q) = false := decide_eq_false (by omega)
          go_wp2_with fail
          go_roundw
          case rel => exact ⟨q + 1, by go_num, by omega, hsm⟩
          case measure => simp [intOf]; omega
    · obtain rfl : m = L.length := by omega
      have d1 : decide ((L.length : Int) < L.length) = false := decide_eq_false (by omega)
      have hsl : ∀ W, Since wr W → Calls Try.prog 25 #[.slice va L.length cap] W fun e w' => e = .returned (.int .i64 (U * T)) ∧ Below W.heap.size W w' := fun W hW => by
        have h1 := sum_law hA W (hls.since (hsm.trans hW) hBz) (Nat.le_trans hBz (Since.size_ (hsm.trans hW))) hl4
        rw [SU.out] at h1
        exact h1
      have k_bw0 := fun W (hW : Since wr W) => c_bw0 W (hsm.trans hW)
      have k_bw1 := fun W (hW : Since wr W) => c_bw1 W (hsm.trans hW)
      have k_bw2 := fun W (hW : Since wr W) => c_bw2 W (hsm.trans hW)
      have k_bw3 := fun W (hW : Since wr W) => c_bw3 W (hsm.trans hW)
      have k_bd0 := fun W (hW : Since wr W) => c_bd0 W (hsm.trans hW)
      have k_bd1 := fun W (hW : Since wr W) => c_bd1 W (hsm.trans hW)
      have hwr := Since.refl wr
      have hwd := hwr.drew
      have l4 : decide ((L.length : Int) ≤ 4) = true := decide_eq_true (by omega)
      go_wp2_with fail
      rcases hN.out with ⟨r0, r1, r2⟩ | ⟨r0, r1⟩ | ⟨r0, r1, r2⟩
      · go_region_held3 (fun W => Since wr W) (first | assumption | exact Since.drew (by assumption)) ((first | (go_at_call 11; (with_reducible refine (Calls.since_same (by assumption) (law4_num _ _)).mono ?_); rintro e w80 ⟨rfl, hb80⟩) | (go_at_call 25; (with_reducible refine (Calls.since (by assumption) (hsl _ (by assumption))).mono ?_); rintro e w81 ⟨rfl, hb81⟩) | (go_at_call 18; (with_reducible refine (Calls.since (by assumption) (hk _)).mono ?_); rintro e w82 ⟨rfl, hb82⟩)))
        go_wp2
        go_ret
        exact ⟨rfl, (hs.trans hsm).trans (by assumption)⟩
      · obtain ⟨wq, hwq⟩ : ∃ wq, wq = wr.drew := ⟨_, rfl⟩
        refine wp_region_held_drew (S := fun W => Since wr W) (by kernel_rfl) hwd (fun hHeld => ?_)
        rw [← hwq] at hHeld ⊢
        have hq : Since wr wq := hHeld
        clear hwq hwd
        refine wpAnyH_take (i := 0) (v := ?_) rfl (by kernel_rfl) (by kernel_rfl) (by kernel_rfl) (fun _ _ _ h => h) (Or.inl ⟨by rfl, ?_⟩) (by assumption) ?_
        rotate_left 1
        · (intro W hW; clear hW; go_simp; try with_reducible rfl)
        simp only [Act.put, List.getElem_toArray, List.getElem_cons_zero, List.setIfInBounds_toArray, List.set_cons_zero, List.set_cons_succ]
        refine wpAnyH_ready (rs := [1]) (by kernel_rfl) (by simp) ?_
        refine AllReadyH.cons rfl (fun K hK => ?_) AllReadyH.nil
        go_simp
        refine (Calls.since_same hq (law4_num _ _)).mono ?_
        rintro e w80 ⟨rfl, hb80⟩
        go_wp2_with fail
        refine hK.out _ _ (hb80) (fun hHeld => ?_)
        clear hK K
        try simp only [Act.put, List.getElem_toArray, List.getElem_cons_succ, List.getElem_cons_zero, List.setIfInBounds_toArray, List.set_cons_zero, List.set_cons_succ]
        refine wpAnyH_take (i := 2) (v := ?_) rfl (by kernel_rfl) (by kernel_rfl) (by kernel_rfl) (fun _ _ _ h => h) (Or.inl ⟨by rfl, ?_⟩) (by assumption) ?_
        rotate_left 1
        · (intro W hW; clear hW; go_simp; try with_reducible rfl)
        simp only [Act.put, List.getElem_toArray, List.getElem_cons_succ, List.getElem_cons_zero, List.setIfInBounds_toArray, List.set_cons_zero, List.set_cons_succ]
        refine wpAnyH_take (i := 3) (v := ?_) rfl (by kernel_rfl) (by kernel_rfl) (by kernel_rfl) (fun _ _ _ h => h) (Or.inl ⟨by rfl, ?_⟩) (by assumption) ?_
        rotate_left 1
        · (intro W hW; clear hW; go_simp; try with_reducible rfl)
        simp only [Act.put, List.getElem_toArray, List.getElem_cons_succ, List.getElem_cons_zero, List.setIfInBounds_toArray, List.set_cons_zero, List.set_cons_succ]
        refine wpAnyH_take (i := 4) (v := ?_) rfl (by kernel_rfl) (by kernel_rfl) (by kernel_rfl) (fun _ _ _ h => h) (Or.inl ⟨by rfl, ?_⟩) (by assumption) ?_
        rotate_left 1
        · (intro W hW; clear hW; go_simp; try with_reducible rfl)
        simp only [Act.put, List.getElem_toArray, List.getElem_cons_succ, List.getElem_cons_zero, List.setIfInBounds_toArray, List.set_cons_zero, List.set_cons_succ]
        refine wpAnyH_take (i := 5) (v := ?_) rfl (by kernel_rfl) (by kernel_rfl) (by kernel_rfl) (fun _ _ _ h => h) (Or.inl ⟨by rfl, ?_⟩) (by assumption) ?_
        rotate_left 1
        · (intro W hW; clear hW; go_simp; try with_reducible rfl)
        simp only [Act.put, List.getElem_toArray, List.getElem_cons_succ, List.getElem_cons_zero, List.setIfInBounds_toArray, List.set_cons_zero, List.set_cons_succ]
        refine wpAnyH_take (i := 6) (v := ?_) rfl (by kernel_rfl) (by kernel_rfl) (by kernel_rfl) (fun _ _ _ h => h) (Or.inl ⟨by rfl, ?_⟩) (by assumption) ?_
        rotate_left 1
        · (intro W hW; clear hW; go_simp; try with_reducible rfl)
        simp only [Act.put, List.getElem_toArray, List.getElem_cons_succ, List.getElem_cons_zero, List.setIfInBounds_toArray, List.set_cons_zero, List.set_cons_succ]
        refine wpAnyH_take (i := 7) (v := ?_) rfl (by kernel_rfl) (by kernel_rfl) (by kernel_rfl) (fun _ _ _ h => h) (Or.inl ⟨by rfl, ?_⟩) (by assumption) ?_
        rotate_left 1
        · (intro W hW; clear hW; go_simp; try with_reducible rfl)
        simp only [Act.put, List.getElem_toArray, List.getElem_cons_succ, List.getElem_cons_zero, List.setIfInBounds_toArray, List.set_cons_zero, List.set_cons_succ]
        refine wpAnyH_take (i := 8) (v := ?_) rfl (by kernel_rfl) (by kernel_rfl) (by kernel_rfl) (fun _ _ _ h => h) (Or.inl ⟨by rfl, ?_⟩) (by assumption) ?_
        rotate_left 1
        · (intro W hW; clear hW; go_simp; try with_reducible rfl)
        simp only [Act.put, List.getElem_toArray, List.getElem_cons_succ, List.getElem_cons_zero, List.setIfInBounds_toArray, List.set_cons_zero, List.set_cons_succ]
        refine wpAnyH_take (i := 9) (v := ?_) rfl (by kernel_rfl) (by kernel_rfl) (by kernel_rfl) (fun _ _ _ h => h) (Or.inl ⟨by rfl, ?_⟩) (by assumption) ?_
        rotate_left 1
        · (intro W hW; clear hW; go_simp; try with_reducible rfl)
        simp only [Act.put, List.getElem_toArray, List.getElem_cons_succ, List.getElem_cons_zero, List.setIfInBounds_toArray, List.set_cons_zero, List.set_cons_succ]
        refine wpAnyH_take (i := 11) (v := ?_) rfl (by kernel_rfl) (by kernel_rfl) (by kernel_rfl) (fun _ _ _ h => h) (Or.inl ⟨by rfl, ?_⟩) (by assumption) ?_
        rotate_left 1
        · (intro W hW; clear hW; go_simp; try with_reducible rfl)
        simp only [Act.put, List.getElem_toArray, List.getElem_cons_succ, List.getElem_cons_zero, List.setIfInBounds_toArray, List.set_cons_zero, List.set_cons_succ]
        refine wpAnyH_take (i := 12) (v := ?_) rfl (by kernel_rfl) (by kernel_rfl) (by kernel_rfl) (fun _ _ _ h => h) (Or.inl ⟨by rfl, ?_⟩) (by assumption) ?_
        rotate_left 1
        · (intro W hW; skip; go_simp; try with_reducible rfl)
        simp only [Act.put, List.getElem_toArray, List.getElem_cons_succ, List.getElem_cons_zero, List.setIfInBounds_toArray, List.set_cons_zero, List.set_cons_succ]
        refine wpAnyH_take (i := 13) (v := ?_) rfl (by kernel_rfl) (by kernel_rfl) (by kernel_rfl) (fun _ _ _ h => h) (Or.inl ⟨by rfl, ?_⟩) (by assumption) ?_
        rotate_left 1
        · (intro W hW; clear hW; go_simp; try with_reducible rfl)
        simp only [Act.put, List.getElem_toArray, List.getElem_cons_succ, List.getElem_cons_zero, List.setIfInBounds_toArray, List.set_cons_zero, List.set_cons_succ]
        refine wpAnyH_take (i := 14) (v := ?_) rfl (by kernel_rfl) (by kernel_rfl) (by kernel_rfl) (fun _ _ _ h => h) (Or.inl ⟨by rfl, ?_⟩) (by assumption) ?_
        rotate_left 1
        · (intro W hW; skip; go_simp; try with_reducible rfl)
        simp only [Act.put, List.getElem_toArray, List.getElem_cons_succ, List.getElem_cons_zero, List.setIfInBounds_toArray, List.set_cons_zero, List.set_cons_succ]
        refine wpAnyH_take (i := 15) (v := ?_) rfl (by kernel_rfl) (by kernel_rfl) (by kernel_rfl) (fun _ _ _ h => h) (Or.inl ⟨by rfl, ?_⟩) (by assumption) ?_
        rotate_left 1
        · (intro W hW; clear hW; go_simp; try with_reducible rfl)
        simp only [Act.put, List.getElem_toArray, List.getElem_cons_succ, List.getElem_cons_zero, List.setIfInBounds_toArray, List.set_cons_zero, List.set_cons_succ]
        refine wpAnyH_ready (rs := [10]) (by kernel_rfl) (by simp) ?_
        refine AllReadyH.cons rfl (fun K hK => ?_) AllReadyH.nil
        go_simp
        refine (Calls.since hb80 (hsl _ hb80)).mono ?_
        rintro e w81 ⟨rfl, hb81⟩
        go_wp2_with fail
        refine hK.out _ _ (hb81) (fun hHeld => ?_)
        clear hK K
        try simp only [Act.put, List.getElem_toArray, List.getElem_cons_succ, List.getElem_cons_zero, List.setIfInBounds_toArray, List.set_cons_zero, List.set_cons_succ]
        refine wpAnyH_take (i := 16) (v := ?_) rfl (by kernel_rfl) (by kernel_rfl) (by kernel_rfl) (fun _ _ _ h => h) (Or.inl ⟨by rfl, ?_⟩) (by assumption) ?_
        rotate_left 1
        · (intro W hW; clear hW; go_simp; try with_reducible rfl)
        simp only [Act.put, List.getElem_toArray, List.getElem_cons_succ, List.getElem_cons_zero, List.setIfInBounds_toArray, List.set_cons_zero, List.set_cons_succ]
        refine wpAnyH_take (i := 17) (v := ?_) rfl (by kernel_rfl) (by kernel_rfl) (by kernel_rfl) (fun _ _ _ h => h) (Or.inl ⟨by rfl, ?_⟩) (by assumption) ?_
        rotate_left 1
        · (intro W hW; clear hW; go_simp; try with_reducible rfl)
        simp only [Act.put, List.getElem_toArray, List.getElem_cons_succ, List.getElem_cons_zero, List.setIfInBounds_toArray, List.set_cons_zero, List.set_cons_succ]
        refine wpAnyH_take (i := 18) (v := ?_) rfl (by kernel_rfl) (by kernel_rfl) (by kernel_rfl) (fun _ _ _ h => h) (Or.inl ⟨by rfl, ?_⟩) (by assumption) ?_
        rotate_left 1
        · (intro W hW; clear hW; go_simp; try with_reducible rfl)
        simp only [Act.put, List.getElem_toArray, List.getElem_cons_succ, List.getElem_cons_zero, List.setIfInBounds_toArray, List.set_cons_zero, List.set_cons_succ]
        refine wpAnyH_take (i := 19) (v := ?_) rfl (by kernel_rfl) (by kernel_rfl) (by kernel_rfl) (fun _ _ _ h => h) (Or.inl ⟨by rfl, ?_⟩) (by assumption) ?_
        rotate_left 1
        · (intro W hW; clear hW; go_simp; try with_reducible rfl)
        simp only [Act.put, List.getElem_toArray, List.getElem_cons_succ, List.getElem_cons_zero, List.setIfInBounds_toArray, List.set_cons_zero, List.set_cons_succ]
        refine wpAnyH_take (i := 20) (v := ?_) rfl (by kernel_rfl) (by kernel_rfl) (by kernel_rfl) (fun _ _ _ h => h) (Or.inl ⟨by rfl, ?_⟩) (by assumption) ?_
        rotate_left 1
        · (intro W hW; clear hW; go_simp; try with_reducible rfl)
        simp only [Act.put, List.getElem_toArray, List.getElem_cons_succ, List.getElem_cons_zero, List.setIfInBounds_toArray, List.set_cons_zero, List.set_cons_succ]
        refine wpAnyH_take (i := 21) (v := ?_) rfl (by kernel_rfl) (by kernel_rfl) (by kernel_rfl) (fun _ _ _ h => h) (Or.inl ⟨by rfl, ?_⟩) (by assumption) ?_
        rotate_left 1
        · (intro W hW; clear hW; go_simp; try with_reducible rfl)
        simp only [Act.put, List.getElem_toArray, List.getElem_cons_succ, List.getElem_cons_zero, List.setIfInBounds_toArray, List.set_cons_zero, List.set_cons_succ]
        refine wpAnyH_take (i := 22) (v := ?_) rfl (by kernel_rfl) (by kernel_rfl) (by kernel_rfl) (fun _ _ _ h => h) (Or.inl ⟨by rfl, ?_⟩) (by assumption) ?_
        rotate_left 1
        · (intro W hW; skip; go_simp; try with_reducible rfl)
        simp only [Act.put, List.getElem_toArray, List.getElem_cons_succ, List.getElem_cons_zero, List.setIfInBounds_toArray, List.set_cons_zero, List.set_cons_succ]
        refine wpAnyH_take (i := 23) (v := ?_) rfl (by kernel_rfl) (by kernel_rfl) (by kernel_rfl) (fun _ _ _ h => h) (Or.inl ⟨by rfl, ?_⟩) (by assumption) ?_
        rotate_left 1
        · (intro W hW; clear hW; go_simp; try with_reducible rfl)
        simp only [Act.put, List.getElem_toArray, List.getElem_cons_succ, List.getElem_cons_zero, List.setIfInBounds_toArray, List.set_cons_zero, List.set_cons_succ]
        refine wpAnyH_take (i := 24) (v := ?_) rfl (by kernel_rfl) (by kernel_rfl) (by kernel_rfl) (fun _ _ _ h => h) (Or.inl ⟨by rfl, ?_⟩) (by assumption) ?_
        rotate_left 1
        · (intro W hW; skip; go_simp; try with_reducible rfl)
        simp only [Act.put, List.getElem_toArray, List.getElem_cons_succ, List.getElem_cons_zero, List.setIfInBounds_toArray, List.set_cons_zero, List.set_cons_succ]
        refine wpAnyH_take (i := 25) (v := ?_) rfl (by kernel_rfl) (by kernel_rfl) (by kernel_rfl) (fun _ _ _ h => h) (Or.inl ⟨by rfl, ?_⟩) (by assumption) ?_
        rotate_left 1
        · (intro W hW; clear hW; go_simp; try with_reducible rfl)
        simp only [Act.put, List.getElem_toArray, List.getElem_cons_succ, List.getElem_cons_zero, List.setIfInBounds_toArray, List.set_cons_zero, List.set_cons_succ]
        refine wpAnyH_take (i := 26) (v := ?_) rfl (by kernel_rfl) (by kernel_rfl) (by kernel_rfl) (fun _ _ _ h => h) (Or.inl ⟨by rfl, ?_⟩) (by assumption) ?_
        rotate_left 1
        · (intro W hW; clear hW; go_simp; try with_reducible rfl)
        simp only [Act.put, List.getElem_toArray, List.getElem_cons_succ, List.getElem_cons_zero, List.setIfInBounds_toArray, List.set_cons_zero, List.set_cons_succ]
        refine wpAnyH_take (i := 27) (v := undef) rfl (by kernel_rfl) (by kernel_rfl) (by kernel_rfl) (fun _ _ _ h => h) (Or.inr ⟨by rfl, rfl⟩) (by assumption) ?_
        simp only [Act.put, List.getElem_toArray, List.getElem_cons_succ, List.getElem_cons_zero, List.setIfInBounds_toArray, List.set_cons_zero, List.set_cons_succ]
        refine wpAnyH_take (i := 28) (v := undef) rfl (by kernel_rfl) (by kernel_rfl) (by kernel_rfl) (fun _ _ _ h => h) (Or.inr ⟨by rfl, rfl⟩) (by assumption) ?_
        simp only [Act.put, List.getElem_toArray, List.getElem_cons_succ, List.getElem_cons_zero, List.setIfInBounds_toArray, List.set_cons_zero, List.set_cons_succ]
        refine wpAnyH_take (i := 29) (v := undef) rfl (by kernel_rfl) (by kernel_rfl) (by kernel_rfl) (fun _ _ _ h => h) (Or.inr ⟨by rfl, rfl⟩) (by assumption) ?_
        simp only [Act.put, List.getElem_toArray, List.getElem_cons_succ, List.getElem_cons_zero, List.setIfInBounds_toArray, List.set_cons_zero, List.set_cons_succ]
        refine wpAnyH_take (i := 30) (v := undef) rfl (by kernel_rfl) (by kernel_rfl) (by kernel_rfl) (fun _ _ _ h => h) (Or.inr ⟨by rfl, rfl⟩) (by assumption) ?_
        simp only [Act.put, List.getElem_toArray, List.getElem_cons_succ, List.getElem_cons_zero, List.setIfInBounds_toArray, List.set_cons_zero, List.set_cons_succ]
        refine wpAnyH_take (i := 31) (v := undef) rfl (by kernel_rfl) (by kernel_rfl) (by kernel_rfl) (fun _ _ _ h => h) (Or.inr ⟨by rfl, rfl⟩) (by assumption) ?_
        simp only [Act.put, List.getElem_toArray, List.getElem_cons_succ, List.getElem_cons_zero, List.setIfInBounds_toArray, List.set_cons_zero, List.set_cons_succ]
        refine wpAnyH_take (i := 32) (v := ?_) rfl (by kernel_rfl) (by kernel_rfl) (by kernel_rfl) (fun _ _ _ h => h) (Or.inl ⟨by rfl, ?_⟩) (by assumption) ?_
        rotate_left 1
        · (intro W hW; clear hW; go_simp; try with_reducible rfl)
        simp only [Act.put, List.getElem_toArray, List.getElem_cons_succ, List.getElem_cons_zero, List.setIfInBounds_toArray, List.set_cons_zero, List.set_cons_succ]
        refine wpAnyH_take (i := 33) (v := ?_) rfl (by kernel_rfl) (by kernel_rfl) (by kernel_rfl) (fun _ _ _ h => h) (Or.inl ⟨by rfl, ?_⟩) (by assumption) ?_
        rotate_left 1
        · (intro W hW; clear hW; go_simp; try with_reducible rfl)
        simp only [Act.put, List.getElem_toArray, List.getElem_cons_succ, List.getElem_cons_zero, List.setIfInBounds_toArray, List.set_cons_zero, List.set_cons_succ]
        refine wpAnyH_take (i := 34) (v := ?_) rfl (by kernel_rfl) (by kernel_rfl) (by kernel_rfl) (fun _ _ _ h => h) (Or.inl ⟨by rfl, ?_⟩) (by assumption) ?_
        rotate_left 1
        · (intro W hW; clear hW; go_simp; try with_reducible rfl)
        simp only [Act.put, List.getElem_toArray, List.getElem_cons_succ, List.getElem_cons_zero, List.setIfInBounds_toArray, List.set_cons_zero, List.set_cons_succ]
        refine wpAnyH_take (i := 35) (v := ?_) rfl (by kernel_rfl) (by kernel_rfl) (by kernel_rfl) (fun _ _ _ h => h) (Or.inl ⟨by rfl, ?_⟩) (by assumption) ?_
        rotate_left 1
        · (intro W hW; clear hW; go_simp; try with_reducible rfl)
        simp only [Act.put, List.getElem_toArray, List.getElem_cons_succ, List.getElem_cons_zero, List.setIfInBounds_toArray, List.set_cons_zero, List.set_cons_succ]
        refine wpAnyH_take (i := 36) (v := ?_) rfl (by kernel_rfl) (by kernel_rfl) (by kernel_rfl) (fun _ _ _ h => h) (Or.inl ⟨by rfl, ?_⟩) (by assumption) ?_
        rotate_left 1
        · (intro W hW; clear hW; go_simp; try with_reducible rfl)
        simp only [Act.put, List.getElem_toArray, List.getElem_cons_succ, List.getElem_cons_zero, List.setIfInBounds_toArray, List.set_cons_zero, List.set_cons_succ]
        refine wpAnyH_take (i := 37) (v := ?_) rfl (by kernel_rfl) (by kernel_rfl) (by kernel_rfl) (fun _ _ _ h => h) (Or.inl ⟨by rfl, ?_⟩) (by assumption) ?_
        rotate_left 1
        · (intro W hW; clear hW; go_simp; try with_reducible rfl)
        simp only [Act.put, List.getElem_toArray, List.getElem_cons_succ, List.getElem_cons_zero, List.setIfInBounds_toArray, List.set_cons_zero, List.set_cons_succ]
        refine wpAnyH_take (i := 38) (v := ?_) rfl (by kernel_rfl) (by kernel_rfl) (by kernel_rfl) (fun _ _ _ h => h) (Or.inl ⟨by rfl, ?_⟩) (by assumption) ?_
        rotate_left 1
        · (intro W hW; clear hW; go_simp; try with_reducible rfl)
        simp only [Act.put, List.getElem_toArray, List.getElem_cons_succ, List.getElem_cons_zero, List.setIfInBounds_toArray, List.set_cons_zero, List.set_cons_succ]
        refine wpAnyH_take (i := 39) (v := ?_) rfl (by kernel_rfl) (by kernel_rfl) (by kernel_rfl) (fun _ _ _ h => h) (Or.inl ⟨by rfl, ?_⟩) (by assumption) ?_
        rotate_left 1
        · (intro W hW; clear hW; go_simp; try with_reducible rfl)
        simp only [Act.put, List.getElem_toArray, List.getElem_cons_succ, List.getElem_cons_zero, List.setIfInBounds_toArray, List.set_cons_zero, List.set_cons_succ]
        refine wpAnyH_ready (rs := [40]) (by kernel_rfl) (by simp) ?_
        refine AllReadyH.cons rfl (fun K hK => ?_) AllReadyH.nil
        go_simp
        refine (Calls.since hb81 (hk _)).mono ?_
        rintro e w82 ⟨rfl, hb82⟩
        go_wp2_with fail
        refine hK.out _ _ (hb82) (fun hHeld => ?_)
        clear hK K
        try simp only [Act.put, List.getElem_toArray, List.getElem_cons_succ, List.getElem_cons_zero, List.setIfInBounds_toArray, List.set_cons_zero, List.set_cons_succ]
        refine wpAnyH_take (i := 41) (v := ?_) rfl (by kernel_rfl) (by kernel_rfl) (by kernel_rfl) (fun _ _ _ h => h) (Or.inl ⟨by rfl, ?_⟩) (by assumption) ?_
        rotate_left 1
        · (intro W hW; clear hW; go_simp; try with_reducible rfl)
        simp only [Act.put, List.getElem_toArray, List.getElem_cons_succ, List.getElem_cons_zero, List.setIfInBounds_toArray, List.set_cons_zero, List.set_cons_succ]
        refine wpAnyH_take (i := 42) (v := ?_) rfl (by kernel_rfl) (by kernel_rfl) (by kernel_rfl) (fun _ _ _ h => h) (Or.inl ⟨by rfl, ?_⟩) (by assumption) ?_
        rotate_left 1
        · (intro W hW; clear hW; go_simp; try with_reducible rfl)
        simp only [Act.put, List.getElem_toArray, List.getElem_cons_succ, List.getElem_cons_zero, List.setIfInBounds_toArray, List.set_cons_zero, List.set_cons_succ]
        refine wpAnyH_done (by kernel_rfl) ?_ _
        go_wp2
        go_ret
        exact ⟨rfl, (hs.trans hsm).trans hb82⟩
      · go_region_held3 (fun W => Since wr W) (first | assumption | exact Since.drew (by assumption)) ((first | (go_at_call 11; (with_reducible refine (Calls.since_same (by assumption) (law4_num _ _)).mono ?_); rintro e w80 ⟨rfl, hb80⟩) | (go_at_call 25; (with_reducible refine (Calls.since (by assumption) (hsl _ (by assumption))).mono ?_); rintro e w81 ⟨rfl, hb81⟩) | (go_at_call 18; (with_reducible refine (Calls.since (by assumption) (hk _)).mono ?_); rintro e w82 ⟨rfl, hb82⟩)))
        go_wp2
        go_ret
        exact ⟨rfl, (hs.trans hsm).trans (by assumption)⟩
end Go.Proofs.Ytbfjnnjblnjdkaa
