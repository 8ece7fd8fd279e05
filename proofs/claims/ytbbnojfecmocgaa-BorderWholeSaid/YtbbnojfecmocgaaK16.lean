/- The program's borders: touching, apartZones, spansOf. -/
import Derived.Test.YtbbnojfecmocgaaK15
namespace Go.Proofs.Ytbbnojfecmocgaa
open Go.RowKit
set_option linter.unusedVariables false
set_option linter.unusedSimpArgs false
theorem stp_01 (k m n : Int) : 0 ≤ stp k m n ∧ stp k m n ≤ 1 := by unfold stp; split <;> omega
theorem tou_02 (k a b c d : Int) : 0 ≤ tou k a b c d ∧ tou k a b c d ≤ 2 := by
  have := stp_01 k a c
  have := stp_01 k b c
  have := stp_01 k a d
  unfold tou; split <;> omega
set_option maxHeartbeats 1600000 in
theorem bTouch_any (k a b c d : Int) (w : World) : Calls Try.prog 66 #[.agg #[.int .i64 k], .agg #[.int .i64 a, .int .i64 b], .agg #[.int .i64 c, .int .i64 d]] w fun e w' => e = .returned (.int .i64 (tou k a b c d)) ∧ Below w.heap.size w w' := by
  obtain ⟨w0, hw0⟩ : ∃ w0, w0 = ((w.alloc (.cells #[.int .i64 k] 26)).alloc (.cells #[.int .i64 a, .int .i64 b] 127)).alloc (.cells #[.int .i64 c, .int .i64 d] 127) := ⟨_, rfl⟩
  have hs0 : Since w w0 := by rw [hw0]; exact (((Since.refl w).alloc _).alloc _).alloc _
  have wh0 : Whole w0 (w.heap.size) 26 #[.int .i64 k] := by rw [hw0]; exact ((Whole.new w _ _).alloc _).alloc _
  have wh1 : Whole w0 (w.heap.size + 1) 127 #[.int .i64 a, .int .i64 b] := by rw [hw0]; exact ((Whole.new (w.alloc _) _ _).alloc _).at_ (by simp)
  have wh2 : Whole w0 (w.heap.size + 1 + 1) 127 #[.int .i64 c, .int .i64 d] := by rw [hw0]; exact (Whole.new ((w.alloc _).alloc _) _ _).at_ (by simp)
  have HW := Lib.hid hw0
  have c0_0 := box_cell wh0 0 (.int .i64 k) rfl
  have c1_0 := box_cell wh1 0 (.int .i64 a) rfl
  have c1_1 := box_cell wh1 1 (.int .i64 b) rfl
  have c2_0 := box_cell wh2 0 (.int .i64 c) rfl
  have c2_1 := box_cell wh2 1 (.int .i64 d) rfl
  have hsr := Since.refl w0
  have hsd := hsr.drew
  clear hw0 wh0 wh1 wh2
  by_cases h : a = b ∧ c = d
  · rw [show tou k a b c d = stp k a c from if_pos h]
    have d1 : (a == b) = true := by simpa using h.1
    have d2 : (c == d) = true := by simpa using h.2
    obtain ⟨v, hv⟩ : ∃ v, stp k a c = v := ⟨_, rfl⟩
    rw [hv]
    have H := Lib.hid hv
    clear h hv
    go_enter Try.func66, Try.ntmps66
    go_wp2_with fail
    rw [← HW.out]
    go_wp2_with (go_at_call 104; (with_reducible refine (Calls.since (by assumption) (bStep_at H.out _)).mono ?_); rintro e w1 ⟨rfl, hb1⟩)
    go_ret
    exact ⟨rfl, hs0.trans hb1⟩
  · rw [show tou k a b c d = stp k b c + stp k a d from if_neg h]
    have l1 := stp_01 k b c
    have l2 := stp_01 k a d
    obtain ⟨u, hu⟩ : ∃ u, stp k b c = u := ⟨_, rfl⟩
    obtain ⟨v, hv⟩ : ∃ v, stp k a d = v := ⟨_, rfl⟩
    rw [hu] at l1
    rw [hv] at l2
    rw [hu, hv]
    have e1 : IntKind.i64.wrap (u + v) = u + v := IntWalk.i64_in _ (by omega)
    have H1 := Lib.hid hu
    have H2 := Lib.hid hv
    clear hu hv l1 l2
    by_cases h1 : a = b
    · have d1 : (a == b) = true := by simpa using h1
      have d2 : (c == d) = false := by simpa using fun z => h ⟨h1, z⟩
      clear h h1
      go_enter Try.func66, Try.ntmps66
      go_wp2_with fail
      rw [← HW.out]
      go_region_held3 (fun W => Since w0 W) (first | assumption | exact Since.drew (by assumption)) ((first | (go_at_call 104; (with_reducible refine (Calls.since (by assumption) (bStep_at H1.out _)).mono ?_); rintro e w1 ⟨rfl, hb1⟩) | (go_at_call 104; (with_reducible refine (Calls.since (by assumption) (bStep_at H2.out _)).mono ?_); rintro e w2 ⟨rfl, hb2⟩)))
      go_wp2
      all_goals
        go_ret
        exact ⟨by first | rfl | exact ret_int e1, hs0.trans (by assumption)⟩
    · have d1 : (a == b) = false := by simpa using h1
      clear h h1
      go_enter Try.func66, Try.ntmps66
      go_wp2_with fail
      rw [← HW.out]
      go_region_held3 (fun W => Since w0 W) (first | assumption | exact Since.drew (by assumption)) ((first | (go_at_call 104; (with_reducible refine (Calls.since (by assumption) (bStep_at H1.out _)).mono ?_); rintro e w1 ⟨rfl, hb1⟩) | (go_at_call 104; (with_reducible refine (Calls.since (by assumption) (bStep_at H2.out _)).mono ?_); rintro e w2 ⟨rfl, hb2⟩)))
      go_wp2
      all_goals
        go_ret
        exact ⟨by first | rfl | exact ret_int e1, hs0.trans (by assumption)⟩
theorem bTouch_at {k a b c d v : Int} (h : tou k a b c d = v) (w : World) : Calls Try.prog 66 #[.agg #[.int .i64 k], .agg #[.int .i64 a, .int .i64 b], .agg #[.int .i64 c, .int .i64 d]] w fun e w' => e = .returned (.int .i64 v) ∧ Below w.heap.size w w' := h ▸ bTouch_any k a b c d w
set_option maxHeartbeats 1600000 in
theorem bApz_any (k d b f c : Int) (w : World) : Calls Try.prog 64 #[.agg #[.int .i64 k], .agg #[.int .i64 d, .int .i64 b], .agg #[.int .i64 f, .int .i64 c]] w fun e w' => e = .returned (.bool (apz k d b f c)) ∧ Below w.heap.size w w' := by
  obtain ⟨w0, hw0⟩ : ∃ w0, w0 = ((w.alloc (.cells #[.int .i64 k] 26)).alloc (.cells #[.int .i64 d, .int .i64 b] 35)).alloc (.cells #[.int .i64 f, .int .i64 c] 35) := ⟨_, rfl⟩
  have hs0 : Since w w0 := by rw [hw0]; exact (((Since.refl w).alloc _).alloc _).alloc _
  have wh0 : Whole w0 (w.heap.size) 26 #[.int .i64 k] := by rw [hw0]; exact ((Whole.new w _ _).alloc _).alloc _
  have wh1 : Whole w0 (w.heap.size + 1) 35 #[.int .i64 d, .int .i64 b] := by rw [hw0]; exact ((Whole.new (w.alloc _) _ _).alloc _).at_ (by simp)
  have wh2 : Whole w0 (w.heap.size + 1 + 1) 35 #[.int .i64 f, .int .i64 c] := by rw [hw0]; exact (Whole.new ((w.alloc _).alloc _) _ _).at_ (by simp)
  have HW := Lib.hid hw0
  have c0_0 := box_cell wh0 0 (.int .i64 k) rfl
  have c1_0 := box_cell wh1 0 (.int .i64 d) rfl
  have c1_1 := box_cell wh1 1 (.int .i64 b) rfl
  have c2_0 := box_cell wh2 0 (.int .i64 f) rfl
  have c2_1 := box_cell wh2 1 (.int .i64 c) rfl
  have hsr := Since.refl w0
  have hsd := hsr.drew
  clear hw0 wh0 wh1 wh2
  unfold apz
  cases h1 : okP k d b
  · have H1 := Lib.hid h1
    clear h1
    go_enter Try.func64, Try.ntmps64
    go_wp2_with fail
    rw [← HW.out]
    go_wp2_with (go_at_call 42; (with_reducible refine (Calls.since (by assumption) (right_at H1.out _)).mono ?_); rintro e w1 ⟨rfl, hb1⟩)
    go_ret
    exact ⟨rfl, hs0.trans hb1⟩
  · cases h2 : okP k f c
    · have H1 := Lib.hid h1
      have H2 := Lib.hid h2
      clear h1 h2
      go_enter Try.func64, Try.ntmps64
      go_wp2_with fail
      rw [← HW.out]
      go_wp2_with (first | (go_at_call 42; (with_reducible refine (Calls.since (by assumption) (right_at H1.out _)).mono ?_); rintro e w1 ⟨rfl, hb1⟩) | (go_at_call 42; (with_reducible refine (Calls.since (by assumption) (right_at H2.out _)).mono ?_); rintro e w2 ⟨rfl, hb2⟩))
      go_ret
      exact ⟨rfl, hs0.trans hb2⟩
    · have H1 := Lib.hid h1
      have H2 := Lib.hid h2
      obtain ⟨m, hm⟩ : ∃ m, metB d b f c = m := ⟨_, rfl⟩
      rw [hm]
      have H3 := Lib.hid hm
      clear h1 h2 hm
      go_enter Try.func64, Try.ntmps64
      go_wp2_with fail
      rw [← HW.out]
      go_wp2_with (first | (go_at_call 42; (with_reducible refine (Calls.since (by assumption) (right_at H1.out _)).mono ?_); rintro e w1 ⟨rfl, hb1⟩) | (go_at_call 42; (with_reducible refine (Calls.since (by assumption) (right_at H2.out _)).mono ?_); rintro e w2 ⟨rfl, hb2⟩) | (go_at_call 103; (with_reducible refine (Calls.since (by assumption) (meet_at H3.out _)).mono ?_); rintro e w3 ⟨rfl, hb3⟩))
      go_ret
      exact ⟨by simp, hs0.trans hb3⟩
theorem bApz_at {k d b f c : Int} {v : Bool} (h : apz k d b f c = v) (w : World) : Calls Try.prog 64 #[.agg #[.int .i64 k], .agg #[.int .i64 d, .int .i64 b], .agg #[.int .i64 f, .int .i64 c]] w fun e w' => e = .returned (.bool v) ∧ Below w.heap.size w w' := h ▸ bApz_any k d b f c w
set_option maxHeartbeats 1600000 in
theorem bSpans_at {k d b p q r s : Int} (w : World) (h : okP k d b = true) (e : zoneR k d b = ⟨p, q, r, s⟩) : Calls Try.prog 65 #[.agg #[.int .i64 k], .agg #[.int .i64 d, .int .i64 b]] w fun e w' => e = .returned (.agg #[.int .i64 p, .int .i64 (p + r - 1), .int .i64 q, .int .i64 (q + s - 1)]) ∧ Below w.heap.size w w' := by
  have he : corF (side k) (ups d b (cnt d b)) = (p, q, r, s) := by
    unfold zoneR at e
    injection e with e1 e2 e3 e4
    rw [← e1, ← e2, ← e3, ← e4]
  have hb := zone_bd h
  have hsb := side_bd k
  rw [e] at hb
  dsimp only at hb
  have z1 : IntKind.i64.wrap (p + r) = p + r := IntWalk.i64_in _ (by omega)
  have z2 : wrap64 (p + r) = p + r := IntWalk.wrap64_in _ ⟨by omega, by omega⟩
  have z3 : IntKind.i64.wrap (p + r - 1) = p + r - 1 := IntWalk.i64_in _ (by omega)
  have z4 : wrap64 (p + r - 1) = p + r - 1 := IntWalk.wrap64_in _ ⟨by omega, by omega⟩
  have z5 : IntKind.i64.wrap (q + s) = q + s := IntWalk.i64_in _ (by omega)
  have z6 : wrap64 (q + s) = q + s := IntWalk.wrap64_in _ ⟨by omega, by omega⟩
  have z7 : IntKind.i64.wrap (q + s - 1) = q + s - 1 := IntWalk.i64_in _ (by omega)
  have z8 : wrap64 (q + s - 1) = q + s - 1 := IntWalk.wrap64_in _ ⟨by omega, by omega⟩
  obtain ⟨w0, hw0⟩ : ∃ w0, w0 = ((w.alloc (.cells #[.int .i64 k] 26)).alloc (.cells #[.int .i64 d, .int .i64 b] 35)).alloc (.cells #[.int .i64 0, .int .i64 0, .int .i64 0, .int .i64 0] 128) := ⟨_, rfl⟩
  have hs0 : Since w w0 := by rw [hw0]; exact (((Since.refl w).alloc _).alloc _).alloc _
  have wh0 : Whole w0 (w.heap.size) 26 #[.int .i64 k] := by rw [hw0]; exact ((Whole.new w _ _).alloc _).alloc _
  have wh1 : Whole w0 (w.heap.size + 1) 35 #[.int .i64 d, .int .i64 b] := by rw [hw0]; exact ((Whole.new (w.alloc _) _ _).alloc _).at_ (by simp)
  have wh2 : Whole w0 (w.heap.size + 1 + 1) 128 #[.int .i64 0, .int .i64 0, .int .i64 0, .int .i64 0] := by rw [hw0]; exact (Whole.new ((w.alloc _).alloc _) _ _).at_ (by simp)
  have HW := Lib.hid hw0
  have c0_0 := box_cell wh0 0 (.int .i64 k) rfl
  have c1_0 := box_cell wh1 0 (.int .i64 d) rfl
  have c1_1 := box_cell wh1 1 (.int .i64 b) rfl
  have c2_0 := box_cell wh2 0 (.int .i64 0) rfl
  have f2_0 := box_free wh2 0
  have c2_1 := box_cell wh2 1 (.int .i64 0) rfl
  have f2_1 := box_free wh2 1
  have c2_2 := box_cell wh2 2 (.int .i64 0) rfl
  have f2_2 := box_free wh2 2
  have c2_3 := box_cell wh2 3 (.int .i64 0) rfl
  have f2_3 := box_free wh2 3
  have hsr := Since.refl w0
  have hsd := hsr.drew
  clear hw0
  replace h := Lib.hid h
  replace he := Lib.hid he
  clear e hb hsb
  go_enter Try.func65, Try.ntmps65
  go_wp2_with fail
  rw [← HW.out]
  go_wp2_with ((go_at_call 30; (with_reducible refine (Calls.since (by assumption) (corner_yes _ h.out he.out)).mono ?_); rintro e w2 ⟨rfl, hb2⟩); (have x1 := Since.whole hb2 wh2); (have x2 := (x1.alloc (.cells #[.int .i64 p, .int .i64 q] 24)).frozen 0); (have x3 := (x1.alloc (.cells #[.int .i64 p, .int .i64 q] 24)).frozen 1); (have x4 := (x1.alloc (.cells #[.int .i64 p, .int .i64 q] 24)).frozen 2); (have x5 := (x1.alloc (.cells #[.int .i64 p, .int .i64 q] 24)).frozen 3); (have y1 := (x1.alloc (.cells #[.int .i64 p, .int .i64 q] 24)).cell 0); (have y2 := (x1.alloc (.cells #[.int .i64 p, .int .i64 q] 24)).cell 1); (have y3 := (x1.alloc (.cells #[.int .i64 p, .int .i64 q] 24)).cell 2); (have y4 := (x1.alloc (.cells #[.int .i64 p, .int .i64 q] 24)).cell 3))
  have g0 := (x1.alloc (.cells #[.int .i64 p, .int .i64 q] 24)).set4 (.int .i64 p) (.int .i64 (p + r - 1)) (.int .i64 q) (.int .i64 (q + s - 1))
  have g1 := g0.cell 0
  have g2 := g0.cell 1
  have g3 := g0.cell 2
  have g4 := g0.cell 3
  exact bodyPost_ret (v := .agg #[.int .i64 p, .int .i64 (p + r - 1), .int .i64 q, .int .i64 (q + s - 1)]) (by simp [results, Try.results65, go_sem, g1, g2, g3, g4]) rfl ⟨rfl, ((hs0.trans hb2).alloc _).set4 (by omega) _ _ _ _⟩
end Go.Proofs.Ytbbnojfecmocgaa
