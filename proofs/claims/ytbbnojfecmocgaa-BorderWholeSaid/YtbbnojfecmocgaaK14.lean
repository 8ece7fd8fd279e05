/- window.Dist: how far a cell is from a rectangle. -/
import Derived.Test.YtbbnojfecmocgaaK11
import Derived.Test.YtbbnojfecmocgaaK13
namespace Go.Proofs.Ytbbnojfecmocgaa
open Go.RowKit
theorem apart_at {k a b v : Int} (h : apart k a b = v) (w : World) : Calls Try.prog 74 #[.agg #[.int .i64 k], .int .i64 a, .int .i64 b] w fun e w' => e = .returned (.int .i64 v) ∧ Below w.heap.size w w' := h ▸ apart_any k a b w
set_option maxRecDepth 100000 in
set_option maxHeartbeats 1600000 in
theorem away_any {k n lo c : Int} {g : Nat} (W : World) (hg : ∀ W', Since W W' → W'.cell? ⟨g, 0, none⟩ = some (.int .i64 k)) (hn : inB k n = true) (hl : 0 ≤ lo ∧ 0 < c ∧ lo + c ≤ side k) : Calls Try.prog 73 #[.int .i64 n, .int .i64 lo, .int .i64 c, .pointer (some ⟨g, 0, none⟩)] W fun e w' => e = .returned (.int .i64 (offI k n lo c)) ∧ Below W.heap.size W w' := by
  have hsb := side_bd k
  have h1 := (inB_iff k n).1 hn
  have w1 : IntKind.i64.wrap (lo + c) = lo + c := IntWalk.i64_in _ (by omega)
  have w2 : IntKind.i64.wrap (lo + c - 1) = lo + c - 1 := IntWalk.i64_in _ (by omega)
  have w3 : wrap64 (lo + c) = lo + c := IntWalk.wrap64_in _ ⟨by omega, by omega⟩
  obtain ⟨A1, hA1⟩ : ∃ A, apart k n lo = A := ⟨_, rfl⟩
  obtain ⟨A2, hA2⟩ : ∃ A, apart k n (lo + c - 1) = A := ⟨_, rfl⟩
  have G1 := Lib.hid hA1
  have G2 := Lib.hid hA2
  have he : offI k n lo c = if lo ≤ n ∧ n < lo + c then 0 else min A1 A2 := by unfold offI; rw [hA1, hA2]
  have hsr := Since.refl W
  have hsd := hsr.drew
  rw [he]
  clear he hn hA1 hA2 hsb hl h1
  by_cases c1 : lo ≤ n
  · by_cases c2 : n < lo + c
    · rw [if_pos ⟨c1, c2⟩]
      go_enter Try.func73, Try.ntmps73
      go_wp2
      go_ret
      exact ⟨rfl, Since.refl W⟩
    · rw [if_neg (fun z => c2 z.2)]
      have d1 : decide (lo ≤ n) = true := decide_eq_true c1
      have d2 : decide (n < lo + c) = false := decide_eq_false c2
      clear c1 c2
      go_enter Try.func73, Try.ntmps73
      go_wp2_with fail
      go_region_held3 (fun W1 => Since W W1) (first | assumption | exact Since.drew (by assumption)) ((first | (go_at_call 74; (with_reducible refine (Calls.since (by assumption) (apart_at (by first | exact G1.out | exact G2.out) _)).mono ?_); rintro e w3 ⟨rfl, hb3⟩)))
      go_wp2
      all_goals
        go_ret
        exact ⟨ret_int (by omega), by assumption⟩
  · rw [if_neg (fun z => c1 z.1)]
    have d2 : decide (lo ≤ n) = false := decide_eq_false c1
    clear c1
    go_enter Try.func73, Try.ntmps73
    go_wp2_with fail
    go_region_held3 (fun W1 => Since W W1) (first | assumption | exact Since.drew (by assumption)) ((first | (go_at_call 74; (with_reducible refine (Calls.since (by assumption) (apart_at (by first | exact G1.out | exact G2.out) _)).mono ?_); rintro e w3 ⟨rfl, hb3⟩)))
    go_wp2
    all_goals
      go_ret
      exact ⟨ret_int (by omega), by assumption⟩
theorem away_at {k n lo c v : Int} {g : Nat} (W : World) (hg : ∀ W', Since W W' → W'.cell? ⟨g, 0, none⟩ = some (.int .i64 k)) (hn : inB k n = true) (hl : 0 ≤ lo ∧ 0 < c ∧ lo + c ≤ side k) (h : offI k n lo c = v) : Calls Try.prog 73 #[.int .i64 n, .int .i64 lo, .int .i64 c, .pointer (some ⟨g, 0, none⟩)] W fun e w' => e = .returned (.int .i64 v) ∧ Below W.heap.size W w' := h ▸ away_any W hg hn hl
set_option maxRecDepth 100000 in
set_option maxHeartbeats 3200000 in
theorem dist_c : DistC := by
  intro k a b c d x y ha hb w
  have hmf : ∀ (fn : Fn) (first cap : Array Value) (w : World), (Instr.makeFunc fn first cap).run Try.prog w = .ok (.func fn first cap) w := fun _ _ _ _ => rfl
  have HA := Lib.hid ha
  have HB := Lib.hid hb
  clear ha hb
  obtain ⟨w0, hw0⟩ : ∃ w0, w0 = ((w.alloc (.cells #[.int .i64 k] 26)).alloc (.cells #[.int .i64 a, .int .i64 b, .int .i64 c, .int .i64 d] 81)).alloc (.cells #[.int .i64 x, .int .i64 y] 24) := ⟨_, rfl⟩
  have hs0 : Since w w0 := by rw [hw0]; exact (((Since.refl w).alloc _).alloc _).alloc _
  have wh0 : Whole w0 (w.heap.size) 26 #[.int .i64 k] := by rw [hw0]; exact ((Whole.new w _ _).alloc _).alloc _
  have wh1 : Whole w0 (w.heap.size + 1) 81 #[.int .i64 a, .int .i64 b, .int .i64 c, .int .i64 d] := by rw [hw0]; exact ((Whole.new (w.alloc _) _ _).alloc _).at_ (by simp)
  have wh2 : Whole w0 (w.heap.size + 1 + 1) 24 #[.int .i64 x, .int .i64 y] := by rw [hw0]; exact (Whole.new ((w.alloc _).alloc _) _ _).at_ (by simp)
  have HW := Lib.hid hw0
  have c0_0 := box_cell wh0 0 (.int .i64 k) rfl
  have c1_0 := box_cell wh1 0 (.int .i64 a) rfl
  have c1_1 := box_cell wh1 1 (.int .i64 b) rfl
  have c1_2 := box_cell wh1 2 (.int .i64 c) rfl
  have c1_3 := box_cell wh1 3 (.int .i64 d) rfl
  have c2_0 := box_cell wh2 0 (.int .i64 x) rfl
  have c2_1 := box_cell wh2 1 (.int .i64 y) rfl
  have hsr := Since.refl w0
  have hsd := hsr.drew
  clear hw0 wh0 wh1 wh2
  cases hr : rightR k ⟨a, b, c, d⟩
  · rw [show distR k ⟨a, b, c, d⟩ x y = -1 from if_neg (by rw [hr]; exact fun z => Bool.false_ne_true z.1)]
    have HR := Lib.hid hr
    have HE := Lib.hid (show emR c d = emR c d from rfl)
    have HH := Lib.hid (show hasB k x y = hasB k x y from rfl)
    clear hr
    go_enter Try.func36, Try.ntmps36
    go_wp2_with fail
    rw [← HW.out]
    go_wp2_with (first | (go_at_call 70; (with_reducible refine (Calls.since (by assumption) (right4_at HR.out HA.out HB.out _)).mono ?_); rintro e w1 ⟨rfl, hb1⟩) | (go_at_call 71; (with_reducible refine (Calls.since (by assumption) (wEmpty_at HE.out _)).mono ?_); rintro e w2 ⟨rfl, hb2⟩) | (go_at_call 72; (with_reducible refine (Calls.since (by assumption) (has_at HH.out _)).mono ?_); rintro e w3 ⟨rfl, hb3⟩))
    go_ret
    exact ⟨rfl, hs0.trans (by assumption)⟩
  · have HR := Lib.hid hr
    have h1 := (rightR_iff k _).1 hr
    dsimp only at h1
    have hem := emR_ne (a := a) (b := b) (c := c) (d := d) (by omega) (by omega)
    cases hn : neR ⟨a, b, c, d⟩
    · rw [show distR k ⟨a, b, c, d⟩ x y = -1 from if_neg (by rw [hn]; exact fun z => Bool.false_ne_true z.2.1)]
      rw [hn] at hem
      have HE := Lib.hid (show emR c d = true from hem)
      have HH := Lib.hid (show hasB k x y = hasB k x y from rfl)
      clear hr h1 hem hn
      go_enter Try.func36, Try.ntmps36
      go_wp2_with fail
      rw [← HW.out]
      go_wp2_with (first | (go_at_call 70; (with_reducible refine (Calls.since (by assumption) (right4_at HR.out HA.out HB.out _)).mono ?_); rintro e w1 ⟨rfl, hb1⟩) | (go_at_call 71; (with_reducible refine (Calls.since (by assumption) (wEmpty_at HE.out _)).mono ?_); rintro e w2 ⟨rfl, hb2⟩) | (go_at_call 72; (with_reducible refine (Calls.since (by assumption) (has_at HH.out _)).mono ?_); rintro e w3 ⟨rfl, hb3⟩))
      go_ret
      exact ⟨rfl, hs0.trans (by assumption)⟩
    · rw [hn] at hem
      have HE := Lib.hid (show emR c d = false from hem)
      cases hh : hasB k x y
      · rw [show distR k ⟨a, b, c, d⟩ x y = -1 from if_neg (by rw [hh]; exact fun z => Bool.false_ne_true z.2.2)]
        have HH := Lib.hid hh
        clear hr h1 hem hn hh
        go_enter Try.func36, Try.ntmps36
        go_wp2_with fail
        rw [← HW.out]
        go_wp2_with (first | (go_at_call 70; (with_reducible refine (Calls.since (by assumption) (right4_at HR.out HA.out HB.out _)).mono ?_); rintro e w1 ⟨rfl, hb1⟩) | (go_at_call 71; (with_reducible refine (Calls.since (by assumption) (wEmpty_at HE.out _)).mono ?_); rintro e w2 ⟨rfl, hb2⟩) | (go_at_call 72; (with_reducible refine (Calls.since (by assumption) (has_at HH.out _)).mono ?_); rintro e w3 ⟨rfl, hb3⟩))
        go_ret
        exact ⟨rfl, hs0.trans (by assumption)⟩
      · rw [show distR k ⟨a, b, c, d⟩ x y = offI k x a c + offI k y b d from if_pos ⟨hr, hn, hh⟩]
        have HH := Lib.hid hh
        have h2 := (neR_iff _).1 hn
        dsimp only at h2
        obtain ⟨g1, g2⟩ := has_in hh
        have l1 : 0 ≤ a ∧ 0 < c ∧ a + c ≤ side k := by omega
        have l2 : 0 ≤ b ∧ 0 < d ∧ b + d ≤ side k := by omega
        have b1 := offI_bd g1 l1
        have b2 := offI_bd g2 l2
        obtain ⟨U, hU⟩ : ∃ U, offI k x a c = U := ⟨_, rfl⟩
        obtain ⟨V, hV⟩ : ∃ V, offI k y b d = V := ⟨_, rfl⟩
        rw [hU, hV]
        rw [hU] at b1
        rw [hV] at b2
        have e1 : IntKind.i64.wrap (U + V) = U + V := IntWalk.i64_in _ (by omega)
        have HU := Lib.hid hU
        have HV := Lib.hid hV
        have G1 := Lib.hid g1
        have G2 := Lib.hid g2
        have L1 := Lib.hid l1
        have L2 := Lib.hid l2
        clear hr h1 h2 hem hn hh g1 g2 l1 l2 b1 b2 hU hV
        go_enter Try.func36, Try.ntmps36
        go_wp2_with fail
        rw [← HW.out]
        go_wp2_with (first | (go_at_call 70; (with_reducible refine (Calls.since (by assumption) (right4_at HR.out HA.out HB.out _)).mono ?_); rintro e w1 ⟨rfl, hb1⟩) | (go_at_call 71; (with_reducible refine (Calls.since (by assumption) (wEmpty_at HE.out _)).mono ?_); rintro e w2 ⟨rfl, hb2⟩) | ((go_at_call 72; (with_reducible refine (Calls.since (by assumption) (has_at HH.out _)).mono ?_); rintro e w3 ⟨rfl, hb3⟩); have hsd3 := Since.drew hb3))
        go_region_held3 (fun W => Since w0 W) (first | assumption | exact Since.drew (by assumption)) ((first | (go_at_call 73; (with_reducible refine (Calls.since (by assumption) (away_at _ (fun W hW => c0_0 W (Since.trans (by assumption) hW)) G1.out L1.out HU.out)).mono ?_); rintro e w4 ⟨rfl, hb4⟩) | (go_at_call 73; (with_reducible refine (Calls.since (by assumption) (away_at _ (fun W hW => c0_0 W (Since.trans (by assumption) hW)) G2.out L2.out HV.out)).mono ?_); rintro e w5 ⟨rfl, hb5⟩)))
        go_wp2
        all_goals
          go_ret
          exact ⟨by first | rfl | exact ret_int e1, hs0.trans (by assumption)⟩
end Go.Proofs.Ytbbnojfecmocgaa
