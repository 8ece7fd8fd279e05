/- gleberef04.Right, off, Dist: how far a cell is from a rectangle. -/
import Derived.Test.YtgnhamhkpbadbaaWCovR
import Derived.Test.YtgnhamhkpbadbaaWDist
namespace Go.Proofs.Ytgnhamhkpbadbaa
open Go.RowKit
set_option maxHeartbeats 1600000 in
theorem wrRight_any (k a b c d : Int) (w : World) : Calls Try.prog 122 #[.int .i64 k, .agg #[.int .i64 a, .int .i64 b, .int .i64 c, .int .i64 d]] w fun e w' => e = .returned (.bool (rightR k ⟨a, b, c, d⟩)) ∧ Below w.heap.size w w' := by
  have hi := rightR_iff k ⟨a, b, c, d⟩
  have hsd := side_bd k
  obtain ⟨S, hS⟩ : ∃ S, side k = S := ⟨_, rfl⟩
  rw [hS] at hi hsd
  have HS := Lib.hid hS
  clear hS
  obtain ⟨w0, hw0⟩ : ∃ w0, w0 = w.alloc (.cells #[.int .i64 a, .int .i64 b, .int .i64 c, .int .i64 d] 121) := ⟨_, rfl⟩
  have hs0 : Since w w0 := by rw [hw0]; exact (Since.refl w).alloc _
  have wh0 : Whole w0 (w.heap.size) 121 #[.int .i64 a, .int .i64 b, .int .i64 c, .int .i64 d] := by rw [hw0]; exact Whole.new w _ _
  have HW := Lib.hid hw0
  have c0_0 := box_cell wh0 0 (.int .i64 a) rfl
  have c0_1 := box_cell wh0 1 (.int .i64 b) rfl
  have c0_2 := box_cell wh0 2 (.int .i64 c) rfl
  have c0_3 := box_cell wh0 3 (.int .i64 d) rfl
  have hsr := Since.refl w0
  have hsd := hsr.drew
  clear hw0 wh0
  have wa : 0 ≤ a → a ≤ S → wrap64 (S - a) = S - a := fun _ _ => IntWalk.wrap64_in _ ⟨by omega, by omega⟩
  have wb : 0 ≤ b → b ≤ S → wrap64 (S - b) = S - b := fun _ _ => IntWalk.wrap64_in _ ⟨by omega, by omega⟩
  by_cases h0 : 0 < S
  rotate_left
  · rw [show rightR k ⟨a, b, c, d⟩ = false from Bool.eq_false_iff.2 fun e => h0 (hi.1 e).1]
    clear wa wb hsd
    clear hi
    go_enter Try.func122, Try.ntmps122
    go_wp2_with fail
    rw [← HW.out]
    go_wp2_with (go_at_call 78; (with_reducible refine (Calls.since_same (by assumption) (refSide_at HS.out _)).mono ?_); rintro e w' ⟨rfl, hb⟩)
    go_ret
    first | exact ⟨rfl, hs0.trans hb⟩ | exact ⟨ret_bool (decide_eq_false (by omega)), hs0.trans hb⟩
  by_cases h1 : 0 ≤ a
  rotate_left
  · rw [show rightR k ⟨a, b, c, d⟩ = false from Bool.eq_false_iff.2 fun e => h1 (hi.1 e).2.1]
    clear wa wb hsd
    clear hi
    go_enter Try.func122, Try.ntmps122
    go_wp2_with fail
    rw [← HW.out]
    go_wp2_with (go_at_call 78; (with_reducible refine (Calls.since_same (by assumption) (refSide_at HS.out _)).mono ?_); rintro e w' ⟨rfl, hb⟩)
    go_ret
    first | exact ⟨rfl, hs0.trans hb⟩ | exact ⟨ret_bool (decide_eq_false (by omega)), hs0.trans hb⟩
  by_cases h2 : a ≤ S
  rotate_left
  · rw [show rightR k ⟨a, b, c, d⟩ = false from Bool.eq_false_iff.2 fun e => h2 (hi.1 e).2.2.1]
    clear wa wb hsd
    clear hi
    go_enter Try.func122, Try.ntmps122
    go_wp2_with fail
    rw [← HW.out]
    go_wp2_with (go_at_call 78; (with_reducible refine (Calls.since_same (by assumption) (refSide_at HS.out _)).mono ?_); rintro e w' ⟨rfl, hb⟩)
    go_ret
    first | exact ⟨rfl, hs0.trans hb⟩ | exact ⟨ret_bool (decide_eq_false (by omega)), hs0.trans hb⟩
  by_cases h3 : 0 ≤ b
  rotate_left
  · rw [show rightR k ⟨a, b, c, d⟩ = false from Bool.eq_false_iff.2 fun e => h3 (hi.1 e).2.2.2.1]
    clear wa wb hsd
    clear hi
    go_enter Try.func122, Try.ntmps122
    go_wp2_with fail
    rw [← HW.out]
    go_wp2_with (go_at_call 78; (with_reducible refine (Calls.since_same (by assumption) (refSide_at HS.out _)).mono ?_); rintro e w' ⟨rfl, hb⟩)
    go_ret
    first | exact ⟨rfl, hs0.trans hb⟩ | exact ⟨ret_bool (decide_eq_false (by omega)), hs0.trans hb⟩
  by_cases h4 : b ≤ S
  rotate_left
  · rw [show rightR k ⟨a, b, c, d⟩ = false from Bool.eq_false_iff.2 fun e => h4 (hi.1 e).2.2.2.2.1]
    clear wa wb hsd
    clear hi
    go_enter Try.func122, Try.ntmps122
    go_wp2_with fail
    rw [← HW.out]
    go_wp2_with (go_at_call 78; (with_reducible refine (Calls.since_same (by assumption) (refSide_at HS.out _)).mono ?_); rintro e w' ⟨rfl, hb⟩)
    go_ret
    first | exact ⟨rfl, hs0.trans hb⟩ | exact ⟨ret_bool (decide_eq_false (by omega)), hs0.trans hb⟩
  by_cases h5 : 0 ≤ c
  rotate_left
  · rw [show rightR k ⟨a, b, c, d⟩ = false from Bool.eq_false_iff.2 fun e => h5 (hi.1 e).2.2.2.2.2.1]
    clear wa wb hsd
    clear hi
    go_enter Try.func122, Try.ntmps122
    go_wp2_with fail
    rw [← HW.out]
    go_wp2_with (go_at_call 78; (with_reducible refine (Calls.since_same (by assumption) (refSide_at HS.out _)).mono ?_); rintro e w' ⟨rfl, hb⟩)
    go_ret
    first | exact ⟨rfl, hs0.trans hb⟩ | exact ⟨ret_bool (decide_eq_false (by omega)), hs0.trans hb⟩
  have ea := wa h1 h2
  have eb := wb h3 h4
  clear wa wb hsd
  by_cases h6 : c ≤ S - a
  · by_cases h7 : 0 ≤ d
    · by_cases h8 : d ≤ S - b
      · rw [show rightR k ⟨a, b, c, d⟩ = true from hi.2 ⟨h0, h1, h2, h3, h4, h5, h6, h7, h8⟩]
        clear hi
        go_enter Try.func122, Try.ntmps122
        go_wp2_with fail
        rw [← HW.out]
        go_wp2_with (go_at_call 78; (with_reducible refine (Calls.since_same (by assumption) (refSide_at HS.out _)).mono ?_); rintro e w' ⟨rfl, hb⟩)
        go_ret
        first | exact ⟨rfl, hs0.trans hb⟩ | exact ⟨ret_bool (decide_eq_false (by omega)), hs0.trans hb⟩
      · rw [show rightR k ⟨a, b, c, d⟩ = false from Bool.eq_false_iff.2 fun e => h8 (hi.1 e).2.2.2.2.2.2.2.2]
        clear hi
        go_enter Try.func122, Try.ntmps122
        go_wp2_with fail
        rw [← HW.out]
        go_wp2_with (go_at_call 78; (with_reducible refine (Calls.since_same (by assumption) (refSide_at HS.out _)).mono ?_); rintro e w' ⟨rfl, hb⟩)
        go_ret
        first | exact ⟨rfl, hs0.trans hb⟩ | exact ⟨ret_bool (decide_eq_false (by omega)), hs0.trans hb⟩
    · rw [show rightR k ⟨a, b, c, d⟩ = false from Bool.eq_false_iff.2 fun e => h7 (hi.1 e).2.2.2.2.2.2.2.1]
      clear hi
      go_enter Try.func122, Try.ntmps122
      go_wp2_with fail
      rw [← HW.out]
      go_wp2_with (go_at_call 78; (with_reducible refine (Calls.since_same (by assumption) (refSide_at HS.out _)).mono ?_); rintro e w' ⟨rfl, hb⟩)
      go_ret
      first | exact ⟨rfl, hs0.trans hb⟩ | exact ⟨ret_bool (decide_eq_false (by omega)), hs0.trans hb⟩
  · rw [show rightR k ⟨a, b, c, d⟩ = false from Bool.eq_false_iff.2 fun e => h6 (hi.1 e).2.2.2.2.2.2.1]
    clear hi
    go_enter Try.func122, Try.ntmps122
    go_wp2_with fail
    rw [← HW.out]
    go_wp2_with (go_at_call 78; (with_reducible refine (Calls.since_same (by assumption) (refSide_at HS.out _)).mono ?_); rintro e w' ⟨rfl, hb⟩)
    go_ret
    first | exact ⟨rfl, hs0.trans hb⟩ | exact ⟨ret_bool (decide_eq_false (by omega)), hs0.trans hb⟩
theorem wrRight_at {k a b c d : Int} {z : Bool} (h : rightR k ⟨a, b, c, d⟩ = z) (w : World) : Calls Try.prog 122 #[.int .i64 k, .agg #[.int .i64 a, .int .i64 b, .int .i64 c, .int .i64 d]] w fun e w' => e = .returned (.bool z) ∧ Below w.heap.size w w' := h ▸ wrRight_any k a b c d w
/-- gleberef02.Apart of numbers that may be. -/
theorem refApart_yes (k a b : Int) (w : World) (ha : inB k a = true) (hb : inB k b = true) : Calls Try.prog 134 #[.int .i64 k, .int .i64 a, .int .i64 b] w fun e w' => e = .returned (.int .i64 (apart k a b)) ∧ w = w' := by
  have hr := inB_rgt ha
  have h1 := (inB_iff k a).1 ha
  have h2 := (inB_iff k b).1 hb
  have hsd := side_bd k
  have he : apart k a b = min ((b - a) % side k) ((a - b) % side k) := by unfold apart; rw [ha, hb, sd_yes hr]; rfl
  obtain ⟨S, hS⟩ : ∃ S, side k = S := ⟨_, rfl⟩
  rw [hS] at h1 h2 hsd he
  rw [he]
  have HS := Lib.hid hS
  have e1 : wrap64 (b - a) = b - a := IntWalk.wrap64_in _ ⟨by omega, by omega⟩
  have e2 : wrap64 (a - b) = a - b := IntWalk.wrap64_in _ ⟨by omega, by omega⟩
  have m1 := min_ite ((b - a) % S) ((a - b) % S)
  have d1 : decide (a < 0) = false := decide_eq_false (by omega)
  have d2 : decide (S ≤ a) = false := decide_eq_false (by omega)
  have d3 : decide (b < 0) = false := decide_eq_false (by omega)
  have d4 : decide (S ≤ b) = false := decide_eq_false (by omega)
  have s1 := Lib.hid (show 0 < S by omega)
  have s2 := Lib.hid hsd.2
  clear hS he ha hb hr h1 h2 hsd
  go_enter Try.func134, Try.ntmps134
  go_wp2_with (first | (go_at_call 78; (with_reducible refine (refSide_at HS.out _).mono ?_); rintro e w' ⟨rfl, rfl⟩) | (go_at_call 137; (with_reducible refine (refDown_any _ _ _ s1.out s2.out).mono ?_); rintro e w' ⟨rfl, rfl⟩))
  go_ret
  exact ⟨rfl, rfl⟩
theorem refApart_at {k a b v : Int} (w : World) (ha : inB k a = true) (hb : inB k b = true) (h : apart k a b = v) : Calls Try.prog 134 #[.int .i64 k, .int .i64 a, .int .i64 b] w fun e w' => e = .returned (.int .i64 v) ∧ w = w' := h ▸ refApart_yes k a b w ha hb
theorem wrOff_yes (k n lo c : Int) (w : World) (hn : inB k n = true) (hl : 0 ≤ lo) (hc : 0 < c) (hlc : lo + c ≤ side k) : Calls Try.prog 124 #[.int .i64 k, .int .i64 n, .int .i64 lo, .int .i64 c] w fun e w' => e = .returned (.int .i64 (offI k n lo c)) ∧ w = w' := by
  have hsd := side_bd k
  have h1 := (inB_iff k n).1 hn
  have w1 : wrap64 (lo + c) = lo + c := IntWalk.wrap64_in _ ⟨by omega, by omega⟩
  have w2 : wrap64 (lo + c - 1) = lo + c - 1 := IntWalk.wrap64_in _ ⟨by omega, by omega⟩
  have b0 : inB k lo = true := (inB_iff _ _).2 (by omega)
  have b1 : inB k (lo + c - 1) = true := (inB_iff _ _).2 (by omega)
  obtain ⟨A1, hA1⟩ : ∃ A, apart k n lo = A := ⟨_, rfl⟩
  obtain ⟨A2, hA2⟩ : ∃ A, apart k n (lo + c - 1) = A := ⟨_, rfl⟩
  have HN := Lib.hid hn
  have H0 := Lib.hid b0
  have H1 := Lib.hid b1
  have G1 := Lib.hid hA1
  have G2 := Lib.hid hA2
  have m1 := min_ite A1 A2
  have he : offI k n lo c = if lo ≤ n ∧ n < lo + c then 0 else min A1 A2 := by unfold offI; rw [hA1, hA2]
  rw [he]
  clear he hn b0 b1 hA1 hA2 hsd
  by_cases c1 : lo ≤ n
  · by_cases c2 : n < lo + c
    · rw [if_pos ⟨c1, c2⟩]
      go_enter Try.func124, Try.ntmps124
      go_wp2
      go_ret
      exact ⟨rfl, rfl⟩
    · rw [if_neg (fun z => c2 z.2)]
      have d2 : decide (n < lo + c) = false := decide_eq_false c2
      go_enter Try.func124, Try.ntmps124
      go_wp2_with (go_at_call 134; (with_reducible refine (refApart_at _ HN.out (by first | exact H0.out | exact H1.out) (by first | exact G1.out | exact G2.out)).mono ?_); rintro e w' ⟨rfl, rfl⟩)
      go_ret
      exact ⟨rfl, rfl⟩
  · rw [if_neg (fun z => c1 z.1)]
    have d2 : decide (lo ≤ n) = false := decide_eq_false c1
    go_enter Try.func124, Try.ntmps124
    go_wp2_with (go_at_call 134; (with_reducible refine (refApart_at _ HN.out (by first | exact H0.out | exact H1.out) (by first | exact G1.out | exact G2.out)).mono ?_); rintro e w' ⟨rfl, rfl⟩)
    go_ret
    exact ⟨rfl, rfl⟩
theorem wrOff_at {k n lo c v : Int} (w : World) (hn : inB k n = true) (hl : 0 ≤ lo ∧ 0 < c ∧ lo + c ≤ side k) (h : offI k n lo c = v) : Calls Try.prog 124 #[.int .i64 k, .int .i64 n, .int .i64 lo, .int .i64 c] w fun e w' => e = .returned (.int .i64 v) ∧ w = w' := h ▸ wrOff_yes k n lo c w hn hl.1 hl.2.1 hl.2.2
theorem offI_bd {k n lo c : Int} (hn : inB k n = true) (hl : 0 ≤ lo ∧ 0 < c ∧ lo + c ≤ side k) : 0 ≤ offI k n lo c ∧ offI k n lo c ≤ 65536 := by
  have hsd := side_bd k
  have h1 := apart_half hn (show inB k lo = true from (inB_iff _ _).2 (by omega))
  have h2 := apart_half hn (show inB k (lo + c - 1) = true from (inB_iff _ _).2 (by omega))
  unfold offI
  split <;> omega
set_option maxRecDepth 100000 in
set_option maxHeartbeats 1600000 in
theorem wrDist_any (k a b c d x y : Int) (w : World) : Calls Try.prog 84 #[.int .i64 k, .agg #[.int .i64 a, .int .i64 b, .int .i64 c, .int .i64 d], .agg #[.int .i64 x, .int .i64 y]] w fun e w' => e = .returned (.int .i64 (distR k ⟨a, b, c, d⟩ x y)) ∧ Below w.heap.size w w' := by
  obtain ⟨A, hA⟩ : ∃ A, areaR ⟨a, b, c, d⟩ = A := ⟨_, rfl⟩
  obtain ⟨h, hh⟩ : ∃ h, hasB k x y = h := ⟨_, rfl⟩
  have HA := Lib.hid hA
  have HH := Lib.hid hh
  obtain ⟨w0, hw0⟩ : ∃ w0, w0 = (w.alloc (.cells #[.int .i64 a, .int .i64 b, .int .i64 c, .int .i64 d] 121)).alloc (.cells #[.int .i64 x, .int .i64 y] 25) := ⟨_, rfl⟩
  have hs0 : Since w w0 := by rw [hw0]; exact ((Since.refl w).alloc _).alloc _
  have wh0 : Whole w0 (w.heap.size) 121 #[.int .i64 a, .int .i64 b, .int .i64 c, .int .i64 d] := by rw [hw0]; exact (Whole.new w _ _).alloc _
  have wh1 : Whole w0 (w.heap.size + 1) 25 #[.int .i64 x, .int .i64 y] := by rw [hw0]; exact (Whole.new (w.alloc _) _ _).at_ (by simp)
  have HW := Lib.hid hw0
  have c0_0 := box_cell wh0 0 (.int .i64 a) rfl
  have c0_1 := box_cell wh0 1 (.int .i64 b) rfl
  have c0_2 := box_cell wh0 2 (.int .i64 c) rfl
  have c0_3 := box_cell wh0 3 (.int .i64 d) rfl
  have c1_0 := box_cell wh1 0 (.int .i64 x) rfl
  have c1_1 := box_cell wh1 1 (.int .i64 y) rfl
  have hsr := Since.refl w0
  have hsd := hsr.drew
  clear hw0 wh0 wh1
  cases hr : rightR k ⟨a, b, c, d⟩
  · rw [show distR k ⟨a, b, c, d⟩ x y = -1 from if_neg (by rw [hr]; exact fun z => Bool.false_ne_true z.1)]
    have HR := Lib.hid hr
    clear hr hA hh
    go_enter Try.func84, Try.ntmps84
    go_wp2_with fail
    rw [← HW.out]
    go_wp2_with (first | (go_at_call 122; (with_reducible refine (Calls.since (by assumption) (wrRight_at HR.out _)).mono ?_); rintro e w1 ⟨rfl, hb1⟩) | (go_at_call 123; (with_reducible refine (Calls.since (by assumption) (wrArea_at HA.out _)).mono ?_); rintro e w2 ⟨rfl, hb2⟩) | (go_at_call 106; (with_reducible refine (Calls.since (by assumption) (refHas_at HH.out _)).mono ?_); rintro e w3 ⟨rfl, hb3⟩))
    go_ret
    exact ⟨rfl, hs0.trans (by assumption)⟩
  · have HR := Lib.hid hr
    have hf := right_fine hr
    cases hn : neR ⟨a, b, c, d⟩
    · rw [show distR k ⟨a, b, c, d⟩ x y = -1 from if_neg (by rw [hn]; exact fun z => Bool.false_ne_true z.2.1)]
      have hA0 : A = 0 := by rw [← hA]; exact areaR_ne hf hn
      subst hA0
      clear hr hA hh hf hn
      go_enter Try.func84, Try.ntmps84
      go_wp2_with fail
      rw [← HW.out]
      go_wp2_with (first | (go_at_call 122; (with_reducible refine (Calls.since (by assumption) (wrRight_at HR.out _)).mono ?_); rintro e w1 ⟨rfl, hb1⟩) | (go_at_call 123; (with_reducible refine (Calls.since (by assumption) (wrArea_at HA.out _)).mono ?_); rintro e w2 ⟨rfl, hb2⟩) | (go_at_call 106; (with_reducible refine (Calls.since (by assumption) (refHas_at HH.out _)).mono ?_); rintro e w3 ⟨rfl, hb3⟩))
      go_ret
      exact ⟨rfl, hs0.trans (by assumption)⟩
    · have hA0 : (A == 0) = false := by
        have h1 := (neR_iff _).1 hn
        have h2 := Int.mul_pos h1.1 h1.2
        have h3 : A = c * d := by rw [← hA]; exact if_pos hf
        exact beq_eq_false_iff_ne.2 (by dsimp only at h2; omega)
      cases h
      · rw [show distR k ⟨a, b, c, d⟩ x y = -1 from if_neg (by rw [hh]; exact fun z => Bool.false_ne_true z.2.2)]
        clear hr hA hh hf hn
        go_enter Try.func84, Try.ntmps84
        go_wp2_with fail
        rw [← HW.out]
        go_wp2_with (first | (go_at_call 122; (with_reducible refine (Calls.since (by assumption) (wrRight_at HR.out _)).mono ?_); rintro e w1 ⟨rfl, hb1⟩) | (go_at_call 123; (with_reducible refine (Calls.since (by assumption) (wrArea_at HA.out _)).mono ?_); rintro e w2 ⟨rfl, hb2⟩) | (go_at_call 106; (with_reducible refine (Calls.since (by assumption) (refHas_at HH.out _)).mono ?_); rintro e w3 ⟨rfl, hb3⟩))
        go_ret
        exact ⟨rfl, hs0.trans (by assumption)⟩
      · rw [show distR k ⟨a, b, c, d⟩ x y = offI k x a c + offI k y b d from if_pos ⟨hr, hn, hh⟩]
        have h1 := (rightR_iff k _).1 hr
        have h2 := (neR_iff _).1 hn
        dsimp only at h1 h2
        obtain ⟨g1, g2⟩ := has_in hh
        have l1 : 0 ≤ a ∧ 0 < c ∧ a + c ≤ side k := by omega
        have l2 : 0 ≤ b ∧ 0 < d ∧ b + d ≤ side k := by omega
        have b1 := offI_bd g1 l1
        have b2 := offI_bd g2 l2
        obtain ⟨U, hU⟩ : ∃ U, offI k x a c = U := ⟨_, rfl⟩
        obtain ⟨V, hV⟩ : ∃ V, offI k y b d = V := ⟨_, rfl⟩
        rw [hU, hV]
        rw [hU] at b1
        rw [hV] at b2
        have e1 : IntKind.i64.wrap (U + V) = U + V := IntWalk.i64_in _ (by omega)
        have HU := Lib.hid hU
        have HV := Lib.hid hV
        have G1 := Lib.hid g1
        have G2 := Lib.hid g2
        have L1 := Lib.hid l1
        have L2 := Lib.hid l2
        clear hr hA hh hf hn h1 h2 g1 g2 l1 l2 b1 b2 hU hV
        go_enter Try.func84, Try.ntmps84
        go_wp2_with fail
        rw [← HW.out]
        go_wp2_with (first | (go_at_call 122; (with_reducible refine (Calls.since (by assumption) (wrRight_at HR.out _)).mono ?_); rintro e w1 ⟨rfl, hb1⟩) | (go_at_call 123; (with_reducible refine (Calls.since (by assumption) (wrArea_at HA.out _)).mono ?_); rintro e w2 ⟨rfl, hb2⟩) | ((go_at_call 106; (with_reducible refine (Calls.since (by assumption) (refHas_at HH.out _)).mono ?_); rintro e w3 ⟨rfl, hb3⟩); have hsd3 := Since.drew hb3))
        go_region_held3 (fun W => Since w0 W) (first | assumption | exact Since.drew (by assumption)) ((first | (go_at_call 124; (with_reducible refine (Calls.since_same (by assumption) (wrOff_at _ G1.out L1.out HU.out)).mono ?_); rintro e w4 ⟨rfl, hb4⟩) | (go_at_call 124; (with_reducible refine (Calls.since_same (by assumption) (wrOff_at _ G2.out L2.out HV.out)).mono ?_); rintro e w5 ⟨rfl, hb5⟩)))
        go_wp2
        all_goals
          go_ret
          exact ⟨by first | rfl | exact ret_int e1, hs0.trans (by assumption)⟩
theorem wrDist_at {k a b c d x y v : Int} (w : World) (h : distR k ⟨a, b, c, d⟩ x y = v) : Calls Try.prog 84 #[.int .i64 k, .agg #[.int .i64 a, .int .i64 b, .int .i64 c, .int .i64 d], .agg #[.int .i64 x, .int .i64 y]] w fun e w' => e = .returned (.int .i64 v) ∧ Below w.heap.size w w' := h ▸ wrDist_any k a b c d x y w
end Go.Proofs.Ytgnhamhkpbadbaa
