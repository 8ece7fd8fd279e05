/- gleberef04.Cut of all, Covers. -/
import Derived.Test.YtbfjnnjblnjdkaaWCutR
namespace Go.Proofs.Ytbfjnnjblnjdkaa
open Go.RowKit
/-- What Of tells. -/
def OfZ (k d b p q r s E : Int) : Prop := (okP k d b = true ∧ zoneR k d b = ⟨p, q, r, s⟩ ∧ E = 0) ∨ (okP k d b = false ∧ p = 0 ∧ q = 0 ∧ r = 0 ∧ s = 0 ∧ E = 1)
theorem ofZ_ex (k d b : Int) : ∃ p q r s E, OfZ k d b p q r s E := by
  cases h : okP k d b with
  | true => exact ⟨_, _, _, _, 0, .inl ⟨h, rfl, rfl⟩⟩
  | false => exact ⟨0, 0, 0, 0, 1, .inr ⟨h, rfl, rfl, rfl, rfl, rfl⟩⟩
theorem wrOf_at {k d b p q r s E : Int} (w : World) (h : OfZ k d b p q r s E) : Calls Try.prog 37 #[.int .i64 k, .agg #[.int .i64 d, .int .i64 b]] w fun e w' => e = .returned (.tuple #[.agg #[.int .i64 p, .int .i64 q, .int .i64 r, .int .i64 s], .int .i64 E]) ∧ Below w.heap.size w w' := by
  rcases h with ⟨h, hz, rfl⟩ | ⟨h, rfl, rfl, rfl, rfl, rfl⟩
  · exact wrOf_yes k d b p q r s w h hz
  · exact wrOf_no k d b w h
set_option maxHeartbeats 1600000 in
theorem wrCut_no (k a b c d e f : Int) (w : World) (h : ¬ (winR k ⟨a, b, c, d⟩ = true ∧ okP k e f = true)) : Calls Try.prog 13 #[.int .i64 k, .agg #[.int .i64 a, .int .i64 b, .int .i64 c, .int .i64 d], .agg #[.int .i64 e, .int .i64 f]] w fun z w' => z = .returned (.slice none 0 0) ∧ Below w.heap.size w w' := by
  obtain ⟨p, q, r, s, E, hE⟩ := ofZ_ex k e f
  obtain ⟨w0, hw0⟩ : ∃ w0, w0 = (w.alloc (.cells #[.int .i64 a, .int .i64 b, .int .i64 c, .int .i64 d] 23)).alloc (.cells #[.int .i64 e, .int .i64 f] 25) := ⟨_, rfl⟩
  have hs0 : Since w w0 := by rw [hw0]; exact ((Since.refl w).alloc _).alloc _
  have wh0 : Whole w0 (w.heap.size) 23 #[.int .i64 a, .int .i64 b, .int .i64 c, .int .i64 d] := by rw [hw0]; exact (Whole.new w _ _).alloc _
  have wh1 : Whole w0 (w.heap.size + 1) 25 #[.int .i64 e, .int .i64 f] := by rw [hw0]; exact (Whole.new (w.alloc _) _ _).at_ (by simp)
  have HW := Lib.hid hw0
  have c0_0 := box_cell wh0 0 (.int .i64 a) rfl
  have c0_1 := box_cell wh0 1 (.int .i64 b) rfl
  have c0_2 := box_cell wh0 2 (.int .i64 c) rfl
  have c0_3 := box_cell wh0 3 (.int .i64 d) rfl
  have c1_0 := box_cell wh1 0 (.int .i64 e) rfl
  have c1_1 := box_cell wh1 1 (.int .i64 f) rfl
  have hsr := Since.refl w0
  have hsd := hsr.drew
  clear hw0 wh0 wh1
  cases hw : winR k ⟨a, b, c, d⟩
  · replace hw := Lib.hid hw
    replace hE := Lib.hid hE
    clear h
    go_enter Try.func13, Try.ntmps13
    go_wp2_with fail
    rw [← HW.out]
    go_wp2_with (first | (go_at_call 9; (with_reducible refine (Calls.since (by assumption) (wrPlain_no _ _ _ _ _ _ hw.out)).mono ?_); rintro e w1 ⟨rfl, hb1⟩) | (go_at_call 37; (with_reducible refine (Calls.since (by assumption) (wrOf_at _ hE.out)).mono ?_); rintro e w2 ⟨rfl, hb2⟩))
    go_ret
    exact ⟨rfl, hs0.trans ((hb2 : Since w0 w2).alloc _)⟩
  · have ho : okP k e f = false := Bool.eq_false_iff.2 fun z => h ⟨hw, z⟩
    have hE1 : E = 1 := by
      rcases hE with ⟨z, _⟩ | ⟨_, _, _, _, _, z⟩
      · rw [ho] at z; cases z
      · exact z
    subst hE1
    replace hw := Lib.hid hw
    replace hE := Lib.hid hE
    clear h ho
    go_enter Try.func13, Try.ntmps13
    go_wp2_with fail
    rw [← HW.out]
    go_wp2_with fail
    refine (wrPlain_yes k a b c d _ hw.out).mono ?_
    rintro z w1 ⟨v, rfl, _, hb1⟩
    replace hb1 : Since w0 w1 := hb1
    go_wp2_with (go_at_call 37; (with_reducible refine (Calls.since (by assumption) (wrOf_at _ hE.out)).mono ?_); rintro e w2 ⟨rfl, hb2⟩)
    go_ret
    exact ⟨rfl, hs0.trans ((hb2 : Since w0 w2).alloc _)⟩
theorem wrCut_any (k a b c d e f : Int) (w : World) : Calls Try.prog 13 #[.int .i64 k, .agg #[.int .i64 a, .int .i64 b, .int .i64 c, .int .i64 d], .agg #[.int .i64 e, .int .i64 f]] w fun z w' => ∃ v, z = .returned v ∧ RowR w' w.heap.size 23 v (cutR k ⟨a, b, c, d⟩ e f) ∧ Below w.heap.size w w' := by
  by_cases h : winR k ⟨a, b, c, d⟩ = true ∧ okP k e f = true
  · exact wrCut_yes k a b c d e f w h.1 h.2
  · refine (wrCut_no k a b c d e f w h).mono ?_
    rintro z w' ⟨rfl, hb⟩
    exact ⟨_, rfl, by rw [cutR_no h]; exact RowE.nil _ _ _, hb⟩
theorem areaR_le (r : Rc) : areaR r ≤ 1152921504606846976 := by
  unfold areaR
  split
  · next h => have := (fineR_iff r).1 h; exact Int.le_trans (Int.mul_le_mul (show r.w ≤ 1073741824 by omega) (show r.h ≤ 1073741824 by omega) (by omega) (by omega)) (by decide)
  · decide
/-- A sum of a few areas. -/
theorem sum_bd (l : List Rc) : 0 ≤ sumF areaR l ∧ sumF areaR l ≤ l.length * 1152921504606846976 := by
  induction l with
  | nil => exact ⟨Int.le_refl _, Int.le_refl _⟩
  | cons r l ih =>
    have h1 := areaR_nn r
    have h2 := areaR_le r
    show 0 ≤ areaR r + sumF areaR l ∧ areaR r + sumF areaR l ≤ _
    rw [List.length_cons]
    omega
set_option maxRecDepth 100000 in
set_option maxHeartbeats 3200000 in
theorem wrCovers_any (k a b c d e f : Int) (w : World) : Calls Try.prog 15 #[.int .i64 k, .agg #[.int .i64 a, .int .i64 b, .int .i64 c, .int .i64 d], .agg #[.int .i64 e, .int .i64 f]] w fun z w' => z = .returned (.bool (covR k ⟨a, b, c, d⟩ e f)) ∧ Below w.heap.size w w' := by
  obtain ⟨p, q, r, s, E, hE⟩ := ofZ_ex k e f
  have HE := Lib.hid hE
  obtain ⟨R, hR⟩ : ∃ R, covR k ⟨a, b, c, d⟩ e f = R := ⟨_, rfl⟩
  rw [hR]
  replace hR := Lib.hid hR
  obtain ⟨w0, hw0⟩ : ∃ w0, w0 = (w.alloc (.cells #[.int .i64 a, .int .i64 b, .int .i64 c, .int .i64 d] 23)).alloc (.cells #[.int .i64 e, .int .i64 f] 25) := ⟨_, rfl⟩
  have hs0 : Since w w0 := by rw [hw0]; exact ((Since.refl w).alloc _).alloc _
  have wh0 : Whole w0 (w.heap.size) 23 #[.int .i64 a, .int .i64 b, .int .i64 c, .int .i64 d] := by rw [hw0]; exact (Whole.new w _ _).alloc _
  have wh1 : Whole w0 (w.heap.size + 1) 25 #[.int .i64 e, .int .i64 f] := by rw [hw0]; exact (Whole.new (w.alloc _) _ _).at_ (by simp)
  have HW := Lib.hid hw0
  have c0_0 := box_cell wh0 0 (.int .i64 a) rfl
  have c0_1 := box_cell wh0 1 (.int .i64 b) rfl
  have c0_2 := box_cell wh0 2 (.int .i64 c) rfl
  have c0_3 := box_cell wh0 3 (.int .i64 d) rfl
  have c1_0 := box_cell wh1 0 (.int .i64 e) rfl
  have c1_1 := box_cell wh1 1 (.int .i64 f) rfl
  have hsr := Since.refl w0
  have hsd := hsr.drew
  clear hw0 wh0 wh1
  go_enter Try.func15, Try.ntmps15
  go_wp2_with fail
  rw [← HW.out]
  go_wp2_with fail
  refine (wrOf_at w0 HE.out).mono ?_
  rintro z w1 ⟨rfl, hb1⟩
  replace hb1 : Since w0 w1 := hb1
  have hsa := hb1.alloc (.cells #[.int .i64 p, .int .i64 q, .int .i64 r, .int .i64 s] 23)
  go_wp2_with fail
  refine Calls.named (fun w2 hw => ?_)
  have wz : Whole w2 w1.heap.size 23 #[.int .i64 p, .int .i64 q, .int .i64 r, .int .i64 s] := (Whole.new w1 _ _).named hw
  have hs2 : Since w0 w2 := hsa.named hw
  obtain ⟨Z, hZ⟩ : ∃ Z, Z = w1.heap.size := ⟨_, rfl⟩
  rw [← hZ] at wz ⊢
  clear hw hZ hsa hb1
  refine (wrCut_any k a b c d e f w2).mono ?_
  rintro z w3 ⟨v, rfl, hrow, hb3⟩
  replace wz := Since.whole hb3 wz
  replace hs2 := hs2.trans hb3
  have hls := hrow.list encR_len
  have hcl := cut_len k e f ⟨a, b, c, d⟩
  obtain ⟨L, hL⟩ : ∃ L, cutR k ⟨a, b, c, d⟩ e f = L := ⟨_, rfl⟩
  rw [hL] at hls hcl
  have HL := Lib.hid hL
  clear hrow hb3 hL
  obtain ⟨va, cap, rfl, hform⟩ := hls.form
  obtain ⟨B0, hB0⟩ : ∃ B0, B0 = w3.heap.size := ⟨_, rfl⟩
  rw [← hB0] at hls hform
  have hBz : B0 ≤ w3.heap.size := by omega
  clear hB0
  go_wp2_with fail
  go_loopw [10, 11] (fun n i wr => ∃ m : Nat, i = .int .i64 m ∧ m ≤ L.length ∧ n = .int .i64 (sumF areaR (L.take m)) ∧ Whole wr Z 23 #[.int .i64 p, .int .i64 q, .int .i64 r, .int .i64 s] ∧ ListR B0 wr (.slice va L.length cap) L ∧ B0 ≤ wr.heap.size ∧ Since w0 wr) (fun _ i _ => L.length - (intOf i).toNat)
  case atStart => exact ⟨0, rfl, Nat.zero_le _, rfl, wz, hls, hBz, hs2⟩
  case round =>
    clear wz hls hBz hs2
    obtain ⟨m, rfl, hm, rfl, wz, hls, hBz, hs2⟩ := hrel
    by_cases hlt : m < L.length
    · obtain ⟨g, rfl, hg⟩ := hform m hlt
      have hsum := sumF_take areaR L m hlt
      have hbd := sum_bd (L.take (m + 1))
      have hlen := List.length_take_le (m + 1) L
      obtain ⟨⟨x, y, u, t⟩, hr⟩ : ∃ ρ, L[m] = ρ := ⟨_, rfl⟩
      have t1 := hls.at_ hlt 0 (u := .int .i64 x) (by rw [hr]; rfl)
      have t2 := hls.at_ hlt 1 (u := .int .i64 y) (by rw [hr]; rfl)
      have t3 := hls.at_ hlt 2 (u := .int .i64 u) (by rw [hr]; rfl)
      have t4 := hls.at_ hlt 3 (u := .int .i64 t) (by rw [hr]; rfl)
      rw [Nat.add_zero] at t1
      rw [hr] at hsum
      obtain ⟨V, hV⟩ : ∃ V, areaR ⟨x, y, u, t⟩ = V := ⟨_, rfl⟩
      rw [hV] at hsum
      obtain ⟨S, hS⟩ : ∃ S, sumF areaR (L.take m) = S := ⟨_, rfl⟩
      rw [hS] at hsum ⊢
      have hwr : wrap64 (S + V) = S + V := by
        rw [← hsum]
        exact IntWalk.wrap64_in _ ⟨by omega, by omega⟩
      have HV := Lib.hid hV
      have HS := Lib.hid hsum
      have hd : decide ((m : Int) < L.length) = true := decide_eq_true (by omega)
      have hml : (m : Int) < 5 := by omega
      clear hV hS hr hsum hbd hform
      go_wp2_with (go_at_call 39; (with_reducible refine (wrArea_at HV.out _).mono ?_); rintro z w4 ⟨rfl, hb4⟩)
      go_roundw
      case rel => exact ⟨m + 1, by go_num, by omega, by rw [HS.out, hwr], Since.whole hb4 wz, hls.since hb4 hBz, Nat.le_trans hBz hb4.size, hs2.trans hb4⟩
      case measure => simp [intOf]; omega
    · obtain rfl : m = L.length := by omega
      have hd : decide ((L.length : Int) < L.length) = false := decide_eq_false (by omega)
      rw [List.take_of_length_le (Nat.le_refl _)]
      obtain ⟨A, hA⟩ : ∃ A, areaR ⟨p, q, r, s⟩ = A := ⟨_, rfl⟩
      obtain ⟨S, hS⟩ : ∃ S, sumF areaR L = S := ⟨_, rfl⟩
      rw [hS]
      have HA := Lib.hid hA
      have HS := Lib.hid hS
      clear hS hls hform hA
      have z1 := box_cell wz 0 _ rfl
      have z2 := box_cell wz 1 _ rfl
      have z3 := box_cell wz 2 _ rfl
      have z4 := box_cell wz 3 _ rfl
      have hsr := Since.refl wr
      have y1 := c0_0 wr hs2
      have y2 := c0_1 wr hs2
      have y3 := c0_2 wr hs2
      have y4 := c0_3 wr hs2
      rcases hE with ⟨ho, hz, rfl⟩ | ⟨ho, _, _, _, _, rfl⟩
      · replace ho := Lib.hid ho
        replace hz := Lib.hid hz
        cases hw : winR k ⟨a, b, c, d⟩
        · replace hw := Lib.hid hw
          go_wp2_with (go_at_call 33; (with_reducible refine (Calls.since (by assumption) (wrWin_at hw.out _)).mono ?_); rintro e w5 ⟨rfl, hb5⟩)
          go_ret
          exact ⟨ret_bool (by rw [← hR.out]; unfold covR; rw [hw.out]; rfl), (hs0.trans hs2).trans hb5⟩
        · replace hw := Lib.hid hw
          go_wp2_with (first | (go_at_call 33; (with_reducible refine (Calls.since (by assumption) (wrWin_at hw.out _)).mono ?_); rintro e w5 ⟨rfl, hb5⟩) | (go_at_call 39; (with_reducible refine (Calls.since (by assumption) (wrArea_at HA.out _)).mono ?_); rintro e w6 ⟨rfl, hb6⟩))
          go_ret
          exact ⟨ret_bool (by rw [← hR.out]; unfold covR; rw [hw.out, ho.out, hz.out, HL.out, HS.out, HA.out, Bool.eq_iff_iff, beq_iff_eq]; simp), (hs0.trans hs2).trans (by assumption)⟩
      · replace ho := Lib.hid ho
        go_wp2_with fail
        go_ret
        exact ⟨ret_bool (by rw [← hR.out]; unfold covR; rw [ho.out, Bool.and_false]; rfl), hs0.trans hs2⟩
end Go.Proofs.Ytbfjnnjblnjdkaa
