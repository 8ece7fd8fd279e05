/- gleberef03.At: half by half. -/
import Derived.Test.YtilkifjdonafnaaPCommonR
import Derived.Test.YtilkifjdonafnaaPZoneM
namespace Go.Proofs.Ytilkifjdonafnaa
open Go.RowKit
/-- The digits of the first m halves of a cell. -/
def atT (k x y : Int) : Nat → List UInt8
  | 0 => []
  | m + 1 => atT k x y m ++ [dig (atH k x y m)]
theorem atT_all (k x y : Int) : ∀ m : Nat, digs (atT k x y m) ∧ (atT k x y m).length = m ∧ valT (atT k x y m) = atV k x y m
  | 0 => ⟨fun _ h => absurd h (by unfold atT; simp), rfl, rfl⟩
  | m + 1 => by
    obtain ⟨h1, h2, h3⟩ := atT_all k x y m
    have hb := atH_bd k x y m
    have hd := dig_bit hb.1 hb.2
    rw [show atT k x y (m + 1) = atT k x y m ++ [dig (atH k x y m)] from rfl, digs_snoc, valT_snoc, h3, List.length_append, h2]
    refine ⟨⟨h1, by omega⟩, rfl, ?_⟩
    show _ = 2 * atV k x y m + atH k x y m
    omega
/-- One half more of a row of cells. -/
theorem cut_step {X : Int} (e : Nat) : X / 2 ^ e * 2 ^ e = X / 2 ^ (e + 1) * 2 ^ (e + 1) + X / 2 ^ e % 2 * 2 ^ e ∧ (X / 2 ^ (e + 1) * 2 ^ (e + 1) + 2 ^ e ≤ X ↔ X / 2 ^ e % 2 = 1) := by
  have h1 := p2_pos e
  have h2 := div_half X e
  obtain ⟨q, hq⟩ : ∃ q, X / 2 ^ e = q := ⟨_, rfl⟩
  have h3 := (div_iff (x := X) (z := q) (e := e)).1 hq
  rw [hq] at h2 ⊢
  rw [← h2, p2_succ]
  obtain ⟨P, hP⟩ : ∃ P : Int, 2 ^ e = P := ⟨_, rfl⟩
  rw [hP] at h1 h3 ⊢
  have e1 : q / 2 * (2 * P) = 2 * (q / 2) * P := by rw [← Int.mul_assoc, Int.mul_comm (q / 2) 2]
  rw [e1]
  rcases (show q % 2 = 0 ∨ q % 2 = 1 by omega) with h4 | h4
  · rw [h4, show 2 * (q / 2) = q by omega, Int.zero_mul]
    omega
  · have e2 : q * P = 2 * (q / 2) * P + P := by
      have e3 : q = 2 * (q / 2) + 1 := by omega
      conv => lhs; rw [e3]
      rw [Int.add_mul, Int.one_mul]
    rw [h4, Int.one_mul, e2]
    rw [e2] at h3
    omega
set_option maxHeartbeats 800000 in
theorem refAt_no (k x y d : Int) (w : World) (h : hasB k x y = false ∨ (hasB k x y = true ∧ d < 0) ∨ (hasB k x y = true ∧ 0 ≤ d ∧ 2 * k < d)) : Calls Try.prog 19 #[.int .i64 k, .agg #[.int .i64 x, .int .i64 y], .int .i64 d] w fun e w' => e = .returned (.tuple #[.agg #[.int .i64 0, .int .i64 0], .int .i64 1]) ∧ Below w.heap.size w w' := by
  obtain ⟨w0, hw0⟩ : ∃ w0, w0 = (w.alloc (.cells #[.int .i64 x, .int .i64 y] 29)).alloc (.cells #[.int .i64 0, .int .i64 0] 23) := ⟨_, rfl⟩
  have hs0 : Since w w0 := by rw [hw0]; exact ((Since.refl w).alloc _).alloc _
  have wh0 : Whole w0 (w.heap.size) 29 #[.int .i64 x, .int .i64 y] := by rw [hw0]; exact (Whole.new w _ _).alloc _
  have wh1 : Whole w0 (w.heap.size + 1) 23 #[.int .i64 0, .int .i64 0] := by rw [hw0]; exact (Whole.new (w.alloc _) _ _).at_ (by simp)
  have HW := Lib.hid hw0
  have c0_0 := box_cell wh0 0 (.int .i64 x) rfl
  have c0_1 := box_cell wh0 1 (.int .i64 y) rfl
  have c1_0 := box_cell wh1 0 (.int .i64 0) rfl
  have f1_0 := box_free wh1 0
  have c1_1 := box_cell wh1 1 (.int .i64 0) rfl
  have f1_1 := box_free wh1 1
  have hsr := Since.refl w0
  have hsd := hsr.drew
  clear hw0 wh0 wh1
  have hk : hasB k x y = true → wrap64 (2 * k) = 2 * k := fun e => by
    have hr : rgt k = true := by
      cases e2 : rgt k with
      | true => rfl
      | false => rw [hasB_no x y e2] at e; cases e
    have := (rgt_iff k).1 hr
    exact IntWalk.wrap64_in _ ⟨by omega, by omega⟩
  rcases h with h | ⟨h, h2⟩ | ⟨h, h2, h3⟩
  · replace h := Lib.hid h
    clear hk
    go_enter Try.func19, Try.ntmps19
    go_wp2_with fail
    rw [← HW.out]
    go_wp2_with (go_at_call 44; (with_reducible refine (Calls.since (by assumption) (refHas_at h.out _)).mono ?_); rintro e w1 ⟨rfl, hb1⟩)
    have g1 := c1_0 w1 hb1
    have g2 := c1_1 w1 hb1
    exact bodyPost_ret (v := .tuple #[.agg #[.int .i64 0, .int .i64 0], .int .i64 1]) (by simp [results, Try.results19, go_sem, g1, g2]) rfl ⟨rfl, Below.setCell (Below.setCell (hs0.trans hb1) (by simp) _) (by simp) _⟩
  · replace h := Lib.hid h
    have q1 : decide (d < 0) = true := decide_eq_true h2
    clear hk
    go_enter Try.func19, Try.ntmps19
    go_wp2_with fail
    rw [← HW.out]
    go_wp2_with (go_at_call 44; (with_reducible refine (Calls.since (by assumption) (refHas_at h.out _)).mono ?_); rintro e w1 ⟨rfl, hb1⟩)
    have g1 := c1_0 w1 hb1
    have g2 := c1_1 w1 hb1
    exact bodyPost_ret (v := .tuple #[.agg #[.int .i64 0, .int .i64 0], .int .i64 1]) (by simp [results, Try.results19, go_sem, g1, g2]) rfl ⟨rfl, Below.setCell (Below.setCell (hs0.trans hb1) (by simp) _) (by simp) _⟩
  · have e2 := hk h
    replace h := Lib.hid h
    have q1 : decide (d < 0) = false := decide_eq_false (by omega)
    have q2 : decide (2 * k < d) = true := decide_eq_true h3
    clear hk
    go_enter Try.func19, Try.ntmps19
    go_wp2_with fail
    rw [← HW.out]
    go_wp2_with (go_at_call 44; (with_reducible refine (Calls.since (by assumption) (refHas_at h.out _)).mono ?_); rintro e w1 ⟨rfl, hb1⟩)
    have g1 := c1_0 w1 hb1
    have g2 := c1_1 w1 hb1
    exact bodyPost_ret (v := .tuple #[.agg #[.int .i64 0, .int .i64 0], .int .i64 1]) (by simp [results, Try.results19, go_sem, g1, g2]) rfl ⟨rfl, Below.setCell (Below.setCell (hs0.trans hb1) (by simp) _) (by simp) _⟩
set_option maxRecDepth 100000 in
set_option maxHeartbeats 3200000 in
theorem refAt_yes (k x y d : Int) (dn : Nat) (w : World) (h : hasB k x y = true) (hdn : d = (dn : Int)) (hd : d ≤ 2 * k) : Calls Try.prog 19 #[.int .i64 k, .agg #[.int .i64 x, .int .i64 y], .int .i64 d] w fun e w' => e = .returned (.tuple #[.agg #[.int .i64 d, .int .i64 (atV k x y dn)], .int .i64 0]) ∧ Below w.heap.size w w' := by
  subst hdn
  obtain ⟨w0, hw0⟩ : ∃ w0, w0 = (w.alloc (.cells #[.int .i64 x, .int .i64 y] 29)).alloc (.cells #[.int .i64 0, .int .i64 0] 23) := ⟨_, rfl⟩
  have hs0 : Since w w0 := by rw [hw0]; exact ((Since.refl w).alloc _).alloc _
  have wh0 : Whole w0 (w.heap.size) 29 #[.int .i64 x, .int .i64 y] := by rw [hw0]; exact (Whole.new w _ _).alloc _
  have wh1 : Whole w0 (w.heap.size + 1) 23 #[.int .i64 0, .int .i64 0] := by rw [hw0]; exact (Whole.new (w.alloc _) _ _).at_ (by simp)
  have HW := Lib.hid hw0
  have c0_0 := box_cell wh0 0 (.int .i64 x) rfl
  have c0_1 := box_cell wh0 1 (.int .i64 y) rfl
  have c1_0 := box_cell wh1 0 (.int .i64 0) rfl
  have c1_1 := box_cell wh1 1 (.int .i64 0) rfl
  have hsr := Since.refl w0
  have hsd := hsr.drew
  clear hw0
  have hr : rgt k = true := by
    cases e : rgt k with
    | true => rfl
    | false => rw [hasB_no x y e] at h; cases h
  obtain ⟨hk1, hk2⟩ := (rgt_iff k).1 hr
  obtain ⟨n, hn⟩ : ∃ n : Nat, k = (n : Int) := ⟨k.toNat, by omega⟩
  have hside : side k = 2 ^ n := by rw [side_yes hr, hn]; rfl
  obtain ⟨x0, x1, y0, y1⟩ := (hasB_iff k x y).1 h
  rw [hside] at x1 y1
  have hside2 : side k = ((2 ^ n : Nat) : Int) := by rw [hside, pow_cast]
  have q1 : decide ((dn : Int) < 0) = false := decide_eq_false (by omega)
  have q2 : decide (2 * k < (dn : Int)) = false := decide_eq_false (by omega)
  have e2 : wrap64 (2 * k) = 2 * k := IntWalk.wrap64_in _ ⟨by omega, by omega⟩
  have hn16 : n ≤ 16 := by omega
  have hdn2 : dn ≤ 2 * n := by omega
  have X1 := Lib.hid x1
  have Y1 := Lib.hid y1
  have HN := Lib.hid hn
  have hst : x / 2 ^ n * 2 ^ n = 0 ∧ y / 2 ^ n * 2 ^ n = 0 := by
    rw [Int.ediv_eq_zero_of_lt x0 x1, Int.ediv_eq_zero_of_lt y0 y1]; exact ⟨Int.zero_mul _, Int.zero_mul _⟩
  have HST := Lib.hid hst
  have HS2 := Lib.hid hside
  replace h := Lib.hid h
  clear hr hside hside2 x1 y1 hn hst c0_0 c0_1 c1_0 c1_1
  go_enter Try.func19, Try.ntmps19
  have c0_0 := box_cell wh0 0 _ rfl
  have c0_1 := box_cell wh0 1 _ rfl
  go_wp2_with fail
  rw [← HW.out]
  go_wp2_with (first | (go_at_call 44; (with_reducible refine (Calls.since (by assumption) (refHas_at h.out _)).mono ?_); rintro e w1 ⟨rfl, hb1⟩) | (go_at_call 45; (with_reducible refine (Calls.since_same (by assumption) (refSide_at HS2.out _)).mono ?_); rintro e w2 ⟨rfl, hb2⟩))
  clear c0_0 c0_1
  have wp := Since.whole hb2 wh0
  have wr0 := Since.whole hb2 wh1
  have hs := hs0.trans hb2
  go_loopw [8, 9, 10, 11, 12, 13] (fun s wd ht xx yy i wr => ∃ m : Nat, i = .int .i64 m ∧ m ≤ dn ∧ s = .string ⟨(atT k x y m).toArray⟩ ∧ wd = .int .i64 (2 ^ (n - hx m)) ∧ ht = .int .i64 (2 ^ (n - hy m)) ∧ xx = .int .i64 (x / 2 ^ (n - hx m) * 2 ^ (n - hx m)) ∧ yy = .int .i64 (y / 2 ^ (n - hy m) * 2 ^ (n - hy m)) ∧
      Whole wr w.heap.size 29 #[.int .i64 x, .int .i64 y] ∧ Whole wr (w.heap.size + 1) 23 #[.int .i64 0, .int .i64 0] ∧ Since w wr) (fun _ _ _ _ _ i _ => dn - (intOf i).toNat)
  case atStart => exact ⟨0, rfl, Nat.zero_le _, rfl, rfl, rfl, by rw [show n - hx 0 = n from rfl, HST.out.1], by rw [show n - hy 0 = n from rfl, HST.out.2], wp, wr0, hs⟩
  case round =>
    clear wp wr0 hs wh0 wh1 hb2 hs0
    obtain ⟨m, rfl, hm, rfl, rfl, rfl, rfl, rfl, wp, wr0, hs⟩ := hrel
    by_cases hlt : m < dn
    · have t1 := wp.cell 0
      have t2 := wp.cell 1
      have d1 : decide ((m : Int) < dn) = true := decide_eq_true (by omega)
      have hm32 : (m : Int) < 32 := by omega
      obtain ⟨a1, a2, a3⟩ := atT_all k x y m
      have hT : atT k x y (m + 1) = atT k x y m ++ [dig (atH k x y m)] := rfl
      have hH : atH k x y m = (if m % 2 = 0 then x else y) / 2 ^ (k - 1 - ((m / 2 : Nat) : Int)).toNat % 2 := rfl
      have hb := atH_bd k x y m
      have HT := Lib.hid hT
      have hln2 : ¬ 9223372036854775807 < m + 1 := by omega
      have hcv := conv1 48 48 (by decide)
      have hcv2 := conv1 49 49 (by decide)
      by_cases he : m % 2 = 0
      · have f1 := tmod_even he
        obtain ⟨ex, ey⟩ := hx_even he
        have hle : hx (m + 1) ≤ n := by unfold hx; omega
        rw [if_pos he, show (k - 1 - ((m / 2 : Nat) : Int)).toNat = n - hx (m + 1) by have := HN.out; unfold hx at *; omega] at hH
        have hE : n - hx m = n - hx (m + 1) + 1 := by rw [ex] at hle ⊢; omega
        obtain ⟨s1, s2⟩ := cut_step (X := x) (n - hx (m + 1))
        rw [← hE, ← hH] at s1 s2
        have hpe : (2 : Int) ^ (n - hx m) = 2 * 2 ^ (n - hx (m + 1)) := by rw [hE, p2_succ]
        have hp16 := p2_16 (n := n - hx m) (by omega)
        have hpp := p2_pos (n - hx (m + 1))
        have hxb : 0 ≤ x / 2 ^ (n - hx m) * 2 ^ (n - hx m) ∧ x / 2 ^ (n - hx m) * 2 ^ (n - hx m) ≤ x := by
          have := (div_iff (x := x) (e := n - hx m)).1 rfl
          exact ⟨Int.mul_nonneg (Int.ediv_nonneg x0 (Int.le_of_lt (p2_pos _))) (Int.le_of_lt (p2_pos _)), this.1⟩
        have hx16 : x < 65536 := by have := X1.out; have := p2_16 (n := n) hn16; omega
        obtain ⟨P, hP⟩ : ∃ P : Int, 2 ^ (n - hx (m + 1)) = P := ⟨_, rfl⟩
        obtain ⟨W, hWW⟩ : ∃ W : Int, 2 ^ (n - hx m) = W := ⟨_, rfl⟩
        obtain ⟨Z, hZ⟩ : ∃ Z : Int, x / 2 ^ (n - hx m) * 2 ^ (n - hx m) = Z := ⟨_, rfl⟩
        obtain ⟨V, hV⟩ : ∃ V : Int, 2 ^ (n - hy m) = V := ⟨_, rfl⟩
        obtain ⟨Y, hY⟩ : ∃ Y : Int, y / 2 ^ (n - hy m) * 2 ^ (n - hy m) = Y := ⟨_, rfl⟩
        rw [hZ] at s1 s2 hxb
        rw [hP] at s1 s2 hpp hpe
        rw [hWW] at hpe hp16
        rw [hZ, hY, hWW, hV]
        have u1 : W.tdiv 2 = P := by rw [hpe, Int.tdiv_eq_ediv_of_nonneg (by omega)]; omega
        have u2 : W / 2 = P := by omega
        have u3 : wrap64 P = P := IntWalk.wrap64_in _ ⟨by omega, by omega⟩
        have u4 : wrap64 (Z + P) = Z + P := IntWalk.wrap64_in _ ⟨by omega, by omega⟩
        have S1 := Lib.hid s1
        have HP := Lib.hid hP
        have HV := Lib.hid hV
        have HY := Lib.hid hY
        have HE := Lib.hid ey
        have hdlt : (Z + P ≤ x) ↔ atH k x y m = 1 := s2
        rcases (show atH k x y m = 0 ∨ atH k x y m = 1 by omega) with hbit | hbit
        · have d2 : decide (Z + P ≤ x) = false := decide_eq_false fun e => by have := hdlt.1 e; omega
          have S2 := Lib.hid hbit
          clear hH hb hT ex ey hle hE s1 s2 hpe hp16 hpp hP hWW hZ hV hY hbit a1 a3 hxb hdlt
          go_wp2_with fail
          go_roundw
          case rel =>
            refine ⟨m + 1, by go_num, by omega, ?_, ?_, ?_, ?_, ?_, wp.alloc _, wr0.alloc _, hs.alloc _⟩
            · rw [HT.out, S2.out, dig_0]
              exact congrArg Value.string (bytes_app (atT k x y m) [48])
            · rw [HP.out]; try rw [u3]
            · rw [HE.out, HV.out]
            · rw [HP.out, S1.out, S2.out]; first | (simp; done) | (simp; exact u4)
            · rw [HE.out, HY.out]
          case measure => simp [intOf]; omega
        · have d2 : decide (Z + P ≤ x) = true := decide_eq_true (hdlt.2 hbit)
          have S2 := Lib.hid hbit
          clear hH hb hT ex ey hle hE s1 s2 hpe hp16 hpp hP hWW hZ hV hY hbit a1 a3 hxb hdlt
          go_wp2_with fail
          go_roundw
          case rel =>
            refine ⟨m + 1, by go_num, by omega, ?_, ?_, ?_, ?_, ?_, wp.alloc _, wr0.alloc _, hs.alloc _⟩
            · rw [HT.out, S2.out, dig_1]
              exact congrArg Value.string (bytes_app (atT k x y m) [49])
            · rw [HP.out]; try rw [u3]
            · rw [HE.out, HV.out]
            · rw [HP.out, S1.out, S2.out]; first | (simp; done) | (simp; exact u4)
            · rw [HE.out, HY.out]
          case measure => simp [intOf]; omega
      · have f1 := tmod_odd he
        obtain ⟨ex, ey⟩ := hx_odd he
        have hle : hy (m + 1) ≤ n := by unfold hy; omega
        rw [if_neg he, show (k - 1 - ((m / 2 : Nat) : Int)).toNat = n - hy (m + 1) by have := HN.out; unfold hy at *; omega] at hH
        have hE : n - hy m = n - hy (m + 1) + 1 := by rw [ey] at hle ⊢; omega
        obtain ⟨s1, s2⟩ := cut_step (X := y) (n - hy (m + 1))
        rw [← hE, ← hH] at s1 s2
        have hpe : (2 : Int) ^ (n - hy m) = 2 * 2 ^ (n - hy (m + 1)) := by rw [hE, p2_succ]
        have hp16 := p2_16 (n := n - hy m) (by omega)
        have hpp := p2_pos (n - hy (m + 1))
        have hxb : 0 ≤ y / 2 ^ (n - hy m) * 2 ^ (n - hy m) ∧ y / 2 ^ (n - hy m) * 2 ^ (n - hy m) ≤ y := by
          have := (div_iff (x := y) (e := n - hy m)).1 rfl
          exact ⟨Int.mul_nonneg (Int.ediv_nonneg y0 (Int.le_of_lt (p2_pos _))) (Int.le_of_lt (p2_pos _)), this.1⟩
        have hx16 : y < 65536 := by have := Y1.out; have := p2_16 (n := n) hn16; omega
        obtain ⟨P, hP⟩ : ∃ P : Int, 2 ^ (n - hy (m + 1)) = P := ⟨_, rfl⟩
        obtain ⟨W, hWW⟩ : ∃ W : Int, 2 ^ (n - hy m) = W := ⟨_, rfl⟩
        obtain ⟨Z, hZ⟩ : ∃ Z : Int, y / 2 ^ (n - hy m) * 2 ^ (n - hy m) = Z := ⟨_, rfl⟩
        obtain ⟨V, hV⟩ : ∃ V : Int, 2 ^ (n - hx m) = V := ⟨_, rfl⟩
        obtain ⟨Y, hY⟩ : ∃ Y : Int, x / 2 ^ (n - hx m) * 2 ^ (n - hx m) = Y := ⟨_, rfl⟩
        rw [hZ] at s1 s2 hxb
        rw [hP] at s1 s2 hpp hpe
        rw [hWW] at hpe hp16
        rw [hZ, hY, hWW, hV]
        have u1 : W.tdiv 2 = P := by rw [hpe, Int.tdiv_eq_ediv_of_nonneg (by omega)]; omega
        have u2 : W / 2 = P := by omega
        have u3 : wrap64 P = P := IntWalk.wrap64_in _ ⟨by omega, by omega⟩
        have u4 : wrap64 (Z + P) = Z + P := IntWalk.wrap64_in _ ⟨by omega, by omega⟩
        have S1 := Lib.hid s1
        have HP := Lib.hid hP
        have HV := Lib.hid hV
        have HY := Lib.hid hY
        have HE := Lib.hid ex
        have hdlt : (Z + P ≤ y) ↔ atH k x y m = 1 := s2
        rcases (show atH k x y m = 0 ∨ atH k x y m = 1 by omega) with hbit | hbit
        · have d2 : decide (Z + P ≤ y) = false := decide_eq_false fun e => by have := hdlt.1 e; omega
          have S2 := Lib.hid hbit
          clear hH hb hT ex ey hle hE s1 s2 hpe hp16 hpp hP hWW hZ hV hY hbit a1 a3 hxb hdlt
          go_wp2_with fail
          go_roundw
          case rel =>
            refine ⟨m + 1, by go_num, by omega, ?_, ?_, ?_, ?_, ?_, wp.alloc _, wr0.alloc _, hs.alloc _⟩
            · rw [HT.out, S2.out, dig_0]
              exact congrArg Value.string (bytes_app (atT k x y m) [48])
            · rw [HE.out, HV.out]
            · rw [HP.out]; try rw [u3]
            · rw [HE.out, HY.out]
            · rw [HP.out, S1.out, S2.out]; first | (simp; done) | (simp; exact u4)
          case measure => simp [intOf]; omega
        · have d2 : decide (Z + P ≤ y) = true := decide_eq_true (hdlt.2 hbit)
          have S2 := Lib.hid hbit
          clear hH hb hT ex ey hle hE s1 s2 hpe hp16 hpp hP hWW hZ hV hY hbit a1 a3 hxb hdlt
          go_wp2_with fail
          go_roundw
          case rel =>
            refine ⟨m + 1, by go_num, by omega, ?_, ?_, ?_, ?_, ?_, wp.alloc _, wr0.alloc _, hs.alloc _⟩
            · rw [HT.out, S2.out, dig_1]
              exact congrArg Value.string (bytes_app (atT k x y m) [49])
            · rw [HE.out, HV.out]
            · rw [HP.out]; try rw [u3]
            · rw [HE.out, HY.out]
            · rw [HP.out, S1.out, S2.out]; first | (simp; done) | (simp; exact u4)
          case measure => simp [intOf]; omega
    · obtain rfl : m = dn := by omega
      have d1 : decide ((m : Int) < m) = false := decide_eq_false (by omega)
      obtain ⟨a1, a2, a3⟩ := atT_all k x y m
      have A1 := Lib.hid (show digs (ByteArray.mk (atT k x y m).toArray).toList by rw [list_arr]; exact a1)
      have A2 := Lib.hid (show ((ByteArray.mk (atT k x y m).toArray).size : Int) = (m : Int) by rw [← bytes_size, list_arr, a2])
      have A3 := Lib.hid (show valT (ByteArray.mk (atT k x y m).toArray).toList = atV k x y m by rw [list_arr]; exact a3)
      have hm32 : (m : Int) ≤ 32 := by omega
      have hsr := Since.refl wr
      clear a1 a2 a3
      go_wp2_with ((go_at_call 40; (with_reducible refine (Calls.since (by assumption) (refOf_at _ A1.out (by have := A2.out; omega) A2.out A3.out)).mono ?_); rintro e w3 ⟨rfl, hb3⟩); (replace wr0 := Since.whole hb3 wr0); (replace hs := hs.trans hb3); (have r1 := wr0.frozen 0); (have r2 := wr0.frozen 1); (have r3 := wr0.cell 0); (have r4 := wr0.cell 1); (have w1' := (wr0.set_ 0 (.int .i64 (m : Int))).set_ 1 (.int .i64 (atV k x y m))); (have r5 := w1'.cell 0); (have r6 := w1'.cell 1); clear w1' hb3)
      exact bodyPost_ret (v := .tuple #[.agg #[.int .i64 ((m : Int)), .int .i64 (atV k x y m)], .int .i64 0]) (by simp [results, Try.results19, go_sem, r5, r6]) rfl ⟨rfl, (hs.setCell (p := ⟨w.heap.size + 1, 0, none⟩) (by simp) _).setCell (p := ⟨w.heap.size + 1, 1, none⟩) (by simp) _⟩
end Go.Proofs.Ytilkifjdonafnaa
