/- window.Meet: what two rectangles have together. window.Of, Cut: what a zone has of a window. -/
import Derived.Test.YthfhpejpjiaikaaGreatK04
import Derived.Test.YthfhpejpjiaikaaGreatK05
import Derived.Test.YthfhpejpjiaikaaGreatK09
import Derived.Laws.OwnMore
namespace Go.Proofs.YthfhpejpjiaikaaGreat
open Go.RowKit
set_option maxRecDepth 100000 in
set_option maxHeartbeats 1600000 in
theorem wMeet_any (a b c d p q r s : Int) (w : World) : Calls Tryz.prog 87 #[.agg #[.int .i64 a, .int .i64 b, .int .i64 c, .int .i64 d], .agg #[.int .i64 p, .int .i64 q, .int .i64 r, .int .i64 s]] w fun e w' => e = .returned (.agg #[.int .i64 ((meetR ⟨a, b, c, d⟩ ⟨p, q, r, s⟩).x), .int .i64 ((meetR ⟨a, b, c, d⟩ ⟨p, q, r, s⟩).y), .int .i64 ((meetR ⟨a, b, c, d⟩ ⟨p, q, r, s⟩).w), .int .i64 ((meetR ⟨a, b, c, d⟩ ⟨p, q, r, s⟩).h)]) ∧ Below w.heap.size w w' := by
  obtain ⟨w0, hw0⟩ : ∃ w0, w0 = ((w.alloc (.cells #[.int .i64 a, .int .i64 b, .int .i64 c, .int .i64 d] 63)).alloc (.cells #[.int .i64 p, .int .i64 q, .int .i64 r, .int .i64 s] 63)).alloc (.cells #[.int .i64 0, .int .i64 0, .int .i64 0, .int .i64 0] 63) := ⟨_, rfl⟩
  have hs0 : Since w w0 := by rw [hw0]; exact (((Since.refl w).alloc _).alloc _).alloc _
  have wh0 : Whole w0 (w.heap.size) 63 #[.int .i64 a, .int .i64 b, .int .i64 c, .int .i64 d] := by rw [hw0]; exact ((Whole.new w _ _).alloc _).alloc _
  have wh1 : Whole w0 (w.heap.size + 1) 63 #[.int .i64 p, .int .i64 q, .int .i64 r, .int .i64 s] := by rw [hw0]; exact ((Whole.new (w.alloc _) _ _).alloc _).at_ (by simp)
  have wh2 : Whole w0 (w.heap.size + 1 + 1) 63 #[.int .i64 0, .int .i64 0, .int .i64 0, .int .i64 0] := by rw [hw0]; exact (Whole.new ((w.alloc _).alloc _) _ _).at_ (by simp)
  have HW := Lib.hid hw0
  have c0_0 := box_cell wh0 0 (.int .i64 a) rfl
  have c0_1 := box_cell wh0 1 (.int .i64 b) rfl
  have c0_2 := box_cell wh0 2 (.int .i64 c) rfl
  have c0_3 := box_cell wh0 3 (.int .i64 d) rfl
  have c1_0 := box_cell wh1 0 (.int .i64 p) rfl
  have c1_1 := box_cell wh1 1 (.int .i64 q) rfl
  have c1_2 := box_cell wh1 2 (.int .i64 r) rfl
  have c1_3 := box_cell wh1 3 (.int .i64 s) rfl
  have c2_0 := box_cell wh2 0 (.int .i64 0) rfl
  have f2_0 := box_free wh2 0
  have c2_1 := box_cell wh2 1 (.int .i64 0) rfl
  have f2_1 := box_free wh2 1
  have c2_2 := box_cell wh2 2 (.int .i64 0) rfl
  have f2_2 := box_free wh2 2
  have c2_3 := box_cell wh2 3 (.int .i64 0) rfl
  have f2_3 := box_free wh2 3
  have hsr := Since.refl w0
  have hsd := hsr.drew
  clear hw0
  by_cases hf : fineR ⟨a, b, c, d⟩ = true
  · by_cases hg : fineR ⟨p, q, r, s⟩ = true
    · have b1 := (fineR_iff _).1 hf
      have b2 := (fineR_iff _).1 hg
      dsimp only at b1 b2
      have HF := Lib.hid hf
      have HG := Lib.hid hg
      have hm : meetR ⟨a, b, c, d⟩ ⟨p, q, r, s⟩ = if 1 ≤ min (a + c) (p + r) - max a p ∧ 1 ≤ min (b + d) (q + s) - max b q then ⟨max a p, max b q, min (a + c) (p + r) - max a p, min (b + d) (q + s) - max b q⟩ else zeroR := by
        unfold meetR
        by_cases hh : 1 ≤ min (a + c) (p + r) - max a p ∧ 1 ≤ min (b + d) (q + s) - max b q
        · rw [if_pos hh, if_pos ⟨hf, hg, hh.1, hh.2⟩]
        · rw [if_neg hh, if_neg (fun q => hh ⟨q.2.2.1, q.2.2.2⟩)]
      have e1 : wrap64 (a + c) = a + c := IntWalk.wrap64_in _ ⟨by omega, by omega⟩
      have e2 : wrap64 (p + r) = p + r := IntWalk.wrap64_in _ ⟨by omega, by omega⟩
      have e3 : wrap64 (b + d) = b + d := IntWalk.wrap64_in _ ⟨by omega, by omega⟩
      have e4 : wrap64 (q + s) = q + s := IntWalk.wrap64_in _ ⟨by omega, by omega⟩
      have m1 := max_ite a p
      have m2 := max_ite b q
      have m3 := min_ite (a + c) (p + r)
      have m4 := min_ite (b + d) (q + s)
      have x1 : 0 ≤ max a p ∧ max a p ≤ 1073741824 := by omega
      have x2 : 0 ≤ max b q ∧ max b q ≤ 1073741824 := by omega
      have x3 : 0 ≤ min (a + c) (p + r) ∧ min (a + c) (p + r) ≤ 2147483648 := by omega
      have x4 : 0 ≤ min (b + d) (q + s) ∧ min (b + d) (q + s) ≤ 2147483648 := by omega
      obtain ⟨X, hX⟩ : ∃ X, max a p = X := ⟨_, rfl⟩
      obtain ⟨Y, hY⟩ : ∃ Y, max b q = Y := ⟨_, rfl⟩
      obtain ⟨A, hA⟩ : ∃ A, min (a + c) (p + r) = A := ⟨_, rfl⟩
      obtain ⟨B, hB⟩ : ∃ B, min (b + d) (q + s) = B := ⟨_, rfl⟩
      rw [hX] at m1 x1
      rw [hY] at m2 x2
      rw [hA] at m3 x3
      rw [hB] at m4 x4
      have e5 : wrap64 (A - X) = A - X := IntWalk.wrap64_in _ ⟨by omega, by omega⟩
      have e6 : wrap64 (B - Y) = B - Y := IntWalk.wrap64_in _ ⟨by omega, by omega⟩
      obtain ⟨C, hC⟩ : ∃ C, A - X = C := ⟨_, rfl⟩
      obtain ⟨D, hD⟩ : ∃ D, B - Y = D := ⟨_, rfl⟩
      rw [hX, hY, hA, hB, hC, hD] at hm
      rw [hC] at e5
      rw [hD] at e6
      rw [hm]
      clear hm hf hg b1 b2 hX hY hA hB x1 x2 x3 x4
      by_cases c1 : 1 ≤ C
      · by_cases c2 : 1 ≤ D
        · rw [if_pos ⟨c1, c2⟩]
          dsimp only
          have d1 : decide (C ≤ 0) = false := decide_eq_false (by omega)
          have d2 : decide (D ≤ 0) = false := decide_eq_false (by omega)
          go_enter Tryz.func87, Tryz.ntmps87
          go_wp2_with fail
          rw [← HW.out]
          go_wp2_with (go_at_call 99; (with_reducible refine (Calls.since (by assumption) (wMayCount_at (by first | exact HF.out | exact HG.out) _)).mono ?_); rintro e w1 ⟨rfl, hb⟩)
          go_quiet (fail)
          go_wp2_with fail
          go_quiet (fail)
          go_wp2_with fail
          have g0 := fun n => Whole.set4 (Since.whole (Since.drewN hb n) wh2) (.int .i64 X) (.int .i64 Y) (.int .i64 C) (.int .i64 D)
          have g1 := fun n => (g0 n).cell 0
          have g2 := fun n => (g0 n).cell 1
          have g3 := fun n => (g0 n).cell 2
          have g4 := fun n => (g0 n).cell 3
          exact bodyPost_ret (v := .agg #[.int .i64 X, .int .i64 Y, .int .i64 C, .int .i64 D]) (by simp [results, Tryz.results87, go_sem, g1, g2, g3, g4]) rfl ⟨rfl, (hs0.trans (Since.drewN hb _)).set4 (by omega) _ _ _ _⟩
        · rw [if_neg (fun z => c2 z.2)]
          unfold zeroR
          dsimp only
          have d1 : decide (C ≤ 0) = false := decide_eq_false (by omega)
          have d2 : decide (D ≤ 0) = true := decide_eq_true (by omega)
          go_enter Tryz.func87, Tryz.ntmps87
          go_wp2_with fail
          rw [← HW.out]
          go_wp2_with (go_at_call 99; (with_reducible refine (Calls.since (by assumption) (wMayCount_at (by first | exact HF.out | exact HG.out) _)).mono ?_); rintro e w1 ⟨rfl, hb⟩)
          go_quiet (fail)
          go_wp2_with fail
          go_quiet (fail)
          go_wp2_with fail
          have g0 := fun n => Whole.set4 (Since.whole (Since.drewN hb n) wh2) (.int .i64 0) (.int .i64 0) (.int .i64 0) (.int .i64 0)
          have g1 := fun n => (g0 n).cell 0
          have g2 := fun n => (g0 n).cell 1
          have g3 := fun n => (g0 n).cell 2
          have g4 := fun n => (g0 n).cell 3
          exact bodyPost_ret (v := .agg #[.int .i64 0, .int .i64 0, .int .i64 0, .int .i64 0]) (by simp [results, Tryz.results87, go_sem, g1, g2, g3, g4]) rfl ⟨rfl, (hs0.trans (Since.drewN hb _)).set4 (by omega) _ _ _ _⟩
      · rw [if_neg (fun z => c1 z.1)]
        unfold zeroR
        dsimp only
        have d1 : decide (C ≤ 0) = true := decide_eq_true (by omega)
        go_enter Tryz.func87, Tryz.ntmps87
        go_wp2_with fail
        rw [← HW.out]
        go_wp2_with (go_at_call 99; (with_reducible refine (Calls.since (by assumption) (wMayCount_at (by first | exact HF.out | exact HG.out) _)).mono ?_); rintro e w1 ⟨rfl, hb⟩)
        go_quiet (fail)
        go_wp2_with fail
        go_quiet (fail)
        go_wp2_with fail
        have g0 := fun n => Whole.set4 (Since.whole (Since.drewN hb n) wh2) (.int .i64 0) (.int .i64 0) (.int .i64 0) (.int .i64 0)
        have g1 := fun n => (g0 n).cell 0
        have g2 := fun n => (g0 n).cell 1
        have g3 := fun n => (g0 n).cell 2
        have g4 := fun n => (g0 n).cell 3
        exact bodyPost_ret (v := .agg #[.int .i64 0, .int .i64 0, .int .i64 0, .int .i64 0]) (by simp [results, Tryz.results87, go_sem, g1, g2, g3, g4]) rfl ⟨rfl, (hs0.trans (Since.drewN hb _)).set4 (by omega) _ _ _ _⟩
    · have hm : meetR ⟨a, b, c, d⟩ ⟨p, q, r, s⟩ = zeroR := if_neg (fun z => hg z.2.1)
      rw [hm]
      unfold zeroR
      dsimp only
      have HF := Lib.hid hf
      have HG := Lib.hid (Bool.eq_false_iff.2 hg)
      clear hm hf hg
      go_enter Tryz.func87, Tryz.ntmps87
      go_wp2_with fail
      rw [← HW.out]
      go_wp2_with (go_at_call 99; (with_reducible refine (Calls.since (by assumption) (wMayCount_at (by first | exact HF.out | exact HG.out) _)).mono ?_); rintro e w1 ⟨rfl, hb⟩)
      have g0 := (Since.whole hb wh2).set4 (.int .i64 0) (.int .i64 0) (.int .i64 0) (.int .i64 0)
      have g1 := g0.cell 0
      have g2 := g0.cell 1
      have g3 := g0.cell 2
      have g4 := g0.cell 3
      exact bodyPost_ret (v := .agg #[.int .i64 0, .int .i64 0, .int .i64 0, .int .i64 0]) (by simp [results, Tryz.results87, go_sem, g1, g2, g3, g4]) rfl ⟨rfl, (hs0.trans hb).set4 (by omega) _ _ _ _⟩
  · have hm : meetR ⟨a, b, c, d⟩ ⟨p, q, r, s⟩ = zeroR := if_neg (fun z => hf z.1)
    rw [hm]
    unfold zeroR
    dsimp only
    have HF := Lib.hid (Bool.eq_false_iff.2 hf)
    clear hm hf
    go_enter Tryz.func87, Tryz.ntmps87
    go_wp2_with fail
    rw [← HW.out]
    go_wp2_with (go_at_call 99; (with_reducible refine (Calls.since (by assumption) (wMayCount_at HF.out _)).mono ?_); rintro e w1 ⟨rfl, hb⟩)
    have g0 := (Since.whole hb wh2).set4 (.int .i64 0) (.int .i64 0) (.int .i64 0) (.int .i64 0)
    have g1 := g0.cell 0
    have g2 := g0.cell 1
    have g3 := g0.cell 2
    have g4 := g0.cell 3
    exact bodyPost_ret (v := .agg #[.int .i64 0, .int .i64 0, .int .i64 0, .int .i64 0]) (by simp [results, Tryz.results87, go_sem, g1, g2, g3, g4]) rfl ⟨rfl, (hs0.trans hb).set4 (by omega) _ _ _ _⟩
theorem wMeet_at {a b c d p q r s X Y C D : Int} (h : meetR ⟨a, b, c, d⟩ ⟨p, q, r, s⟩ = ⟨X, Y, C, D⟩) (w : World) : Calls Tryz.prog 87 #[.agg #[.int .i64 a, .int .i64 b, .int .i64 c, .int .i64 d], .agg #[.int .i64 p, .int .i64 q, .int .i64 r, .int .i64 s]] w fun e w' => e = .returned (.agg #[.int .i64 X, .int .i64 Y, .int .i64 C, .int .i64 D]) ∧ Below w.heap.size w w' := by
  have h1 := wMeet_any a b c d p q r s w
  rw [h] at h1
  exact h1
end Go.Proofs.YthfhpejpjiaikaaGreat
namespace Go.Proofs.YthfhpejpjiaikaaGreat
open Go.RowKit
theorem corner_yes {k d b p q r s : Int} (w : World) (h : okP k d b = true) (he : corF (side k) (ups d b (cnt d b)) = (p, q, r, s)) : Calls Tryz.prog 39 #[.agg #[.int .i64 k], .agg #[.int .i64 d, .int .i64 b]] w fun e w' => e = .returned (.tuple #[.agg #[.int .i64 p, .int .i64 q], .int .i64 r, .int .i64 s]) ∧ Below w.heap.size w w' := by
  have h1 := corner_raw k d b w h
  rw [he] at h1
  exact h1
set_option maxHeartbeats 800000 in
theorem wOf_no (k d b : Int) (w : World) (h : okP k d b = false) : Calls Tryz.prog 25 #[.agg #[.int .i64 k], .agg #[.int .i64 d, .int .i64 b]] w fun e w' => e = .returned (.tuple #[.agg #[.int .i64 0, .int .i64 0, .int .i64 0, .int .i64 0], .int .i64 1]) ∧ Below w.heap.size w w' := by
  obtain ⟨w0, hw0⟩ : ∃ w0, w0 = ((w.alloc (.cells #[.int .i64 k] 67)).alloc (.cells #[.int .i64 d, .int .i64 b] 23)).alloc (.cells #[.int .i64 0, .int .i64 0, .int .i64 0, .int .i64 0] 63) := ⟨_, rfl⟩
  have hs0 : Since w w0 := by rw [hw0]; exact (((Since.refl w).alloc _).alloc _).alloc _
  have wh0 : Whole w0 (w.heap.size) 67 #[.int .i64 k] := by rw [hw0]; exact ((Whole.new w _ _).alloc _).alloc _
  have wh1 : Whole w0 (w.heap.size + 1) 23 #[.int .i64 d, .int .i64 b] := by rw [hw0]; exact ((Whole.new (w.alloc _) _ _).alloc _).at_ (by simp)
  have wh2 : Whole w0 (w.heap.size + 1 + 1) 63 #[.int .i64 0, .int .i64 0, .int .i64 0, .int .i64 0] := by rw [hw0]; exact (Whole.new ((w.alloc _).alloc _) _ _).at_ (by simp)
  have HW := Lib.hid hw0
  have c0_0 := box_cell wh0 0 (.int .i64 k) rfl
  have c1_0 := box_cell wh1 0 (.int .i64 d) rfl
  have c1_1 := box_cell wh1 1 (.int .i64 b) rfl
  have c2_0 := box_cell wh2 0 (.int .i64 0) rfl
  have f2_0 := box_free wh2 0
  have c2_1 := box_cell wh2 1 (.int .i64 0) rfl
  have f2_1 := box_free wh2 1
  have c2_2 := box_cell wh2 2 (.int .i64 0) rfl
  have f2_2 := box_free wh2 2
  have c2_3 := box_cell wh2 3 (.int .i64 0) rfl
  have f2_3 := box_free wh2 3
  have hsr := Since.refl w0
  have hsd := hsr.drew
  clear hw0
  replace h := Lib.hid h
  go_enter Tryz.func25, Tryz.ntmps25
  go_wp2_with fail
  rw [← HW.out]
  go_wp2_with (go_at_call 54; (with_reducible refine (Calls.since (by assumption) (right_at h.out _)).mono ?_); rintro e w1 ⟨rfl, hb1⟩)
  have g0 := (Since.whole hb1 wh2).set4 (.int .i64 0) (.int .i64 0) (.int .i64 0) (.int .i64 0)
  have g1 := g0.cell 0
  have g2 := g0.cell 1
  have g3 := g0.cell 2
  have g4 := g0.cell 3
  exact bodyPost_ret (v := .tuple #[.agg #[.int .i64 0, .int .i64 0, .int .i64 0, .int .i64 0], .int .i64 1]) (by simp [results, Tryz.results25, go_sem, g1, g2, g3, g4]) rfl ⟨rfl, (hs0.trans hb1).set4 (by omega) _ _ _ _⟩
set_option maxHeartbeats 800000 in
theorem wOf_yes (k d b p q r s : Int) (w : World) (h : okP k d b = true) (e : zoneR k d b = ⟨p, q, r, s⟩) : Calls Tryz.prog 25 #[.agg #[.int .i64 k], .agg #[.int .i64 d, .int .i64 b]] w fun e w' => e = .returned (.tuple #[.agg #[.int .i64 p, .int .i64 q, .int .i64 r, .int .i64 s], .int .i64 0]) ∧ Below w.heap.size w w' := by
  have he : corF (side k) (ups d b (cnt d b)) = (p, q, r, s) := by
    unfold zoneR at e
    injection e with e1 e2 e3 e4
    rw [← e1, ← e2, ← e3, ← e4]
  obtain ⟨w0, hw0⟩ : ∃ w0, w0 = ((w.alloc (.cells #[.int .i64 k] 67)).alloc (.cells #[.int .i64 d, .int .i64 b] 23)).alloc (.cells #[.int .i64 0, .int .i64 0, .int .i64 0, .int .i64 0] 63) := ⟨_, rfl⟩
  have hs0 : Since w w0 := by rw [hw0]; exact (((Since.refl w).alloc _).alloc _).alloc _
  have wh0 : Whole w0 (w.heap.size) 67 #[.int .i64 k] := by rw [hw0]; exact ((Whole.new w _ _).alloc _).alloc _
  have wh1 : Whole w0 (w.heap.size + 1) 23 #[.int .i64 d, .int .i64 b] := by rw [hw0]; exact ((Whole.new (w.alloc _) _ _).alloc _).at_ (by simp)
  have wh2 : Whole w0 (w.heap.size + 1 + 1) 63 #[.int .i64 0, .int .i64 0, .int .i64 0, .int .i64 0] := by rw [hw0]; exact (Whole.new ((w.alloc _).alloc _) _ _).at_ (by simp)
  have HW := Lib.hid hw0
  have c0_0 := box_cell wh0 0 (.int .i64 k) rfl
  have c1_0 := box_cell wh1 0 (.int .i64 d) rfl
  have c1_1 := box_cell wh1 1 (.int .i64 b) rfl
  have c2_0 := box_cell wh2 0 (.int .i64 0) rfl
  have f2_0 := box_free wh2 0
  have c2_1 := box_cell wh2 1 (.int .i64 0) rfl
  have f2_1 := box_free wh2 1
  have c2_2 := box_cell wh2 2 (.int .i64 0) rfl
  have f2_2 := box_free wh2 2
  have c2_3 := box_cell wh2 3 (.int .i64 0) rfl
  have f2_3 := box_free wh2 3
  have hsr := Since.refl w0
  have hsd := hsr.drew
  clear hw0
  replace h := Lib.hid h
  replace he := Lib.hid he
  clear e
  go_enter Tryz.func25, Tryz.ntmps25
  go_wp2_with fail
  rw [← HW.out]
  go_wp2_with (first | (go_at_call 54; (with_reducible refine (Calls.since (by assumption) (right_at h.out _)).mono ?_); rintro e w1 ⟨rfl, hb1⟩) | ((go_at_call 39; (with_reducible refine (Calls.since (by assumption) (corner_yes _ h.out he.out)).mono ?_); rintro e w2 ⟨rfl, hb2⟩); (have x1 := Since.whole hb2 wh2); (have x2 := (x1.alloc (.cells #[.int .i64 p, .int .i64 q] 50)).frozen 0); (have x3 := (x1.alloc (.cells #[.int .i64 p, .int .i64 q] 50)).frozen 1); (have x4 := (x1.alloc (.cells #[.int .i64 p, .int .i64 q] 50)).frozen 2); (have x5 := (x1.alloc (.cells #[.int .i64 p, .int .i64 q] 50)).frozen 3); (have y1 := (x1.alloc (.cells #[.int .i64 p, .int .i64 q] 50)).cell 0); (have y2 := (x1.alloc (.cells #[.int .i64 p, .int .i64 q] 50)).cell 1); (have y3 := (x1.alloc (.cells #[.int .i64 p, .int .i64 q] 50)).cell 2); (have y4 := (x1.alloc (.cells #[.int .i64 p, .int .i64 q] 50)).cell 3)))
  have g0 := (x1.alloc (.cells #[.int .i64 p, .int .i64 q] 50)).set4 (.int .i64 p) (.int .i64 q) (.int .i64 r) (.int .i64 s)
  have g1 := g0.cell 0
  have g2 := g0.cell 1
  have g3 := g0.cell 2
  have g4 := g0.cell 3
  exact bodyPost_ret (v := .tuple #[.agg #[.int .i64 p, .int .i64 q, .int .i64 r, .int .i64 s], .int .i64 0]) (by simp [results, Tryz.results25, go_sem, g1, g2, g3, g4]) rfl ⟨rfl, ((hs0.trans hb2).alloc _).set4 (by omega) _ _ _ _⟩
/-- A list of rectangles, one of them changed where it lies. -/
theorem flat_set : ∀ (l : List Rc) (i : Nat) (r : Rc), i < l.length → ((((l.flatMap encR).set (i * 4) (.int .i64 r.x)).set (i * 4 + 1) (.int .i64 r.y)).set (i * 4 + 2) (.int .i64 r.w)).set (i * 4 + 3) (.int .i64 r.h) = (l.set i r).flatMap encR
  | [], _, _, h => absurd h (Nat.not_lt_zero _)
  | _ :: _, 0, _, _ => rfl
  | x :: l, i + 1, r, h => by
    have ih := flat_set l i r (by simpa using h)
    have e : ∀ (xs : List Value) (j : Nat) (v : Value), (encR x ++ xs).set ((i + 1) * 4 + j) v = encR x ++ xs.set (i * 4 + j) v := by
      intro xs j v
      rw [List.set_append_right _ _ (by rw [encR_len]; omega), encR_len, show (i + 1) * 4 + j - 4 = i * 4 + j by omega]
    have e0 : ∀ (xs : List Value) (v : Value), (encR x ++ xs).set ((i + 1) * 4) v = encR x ++ xs.set (i * 4) v := fun xs v => e xs 0 v
    rw [List.set_cons_succ, List.flatMap_cons, List.flatMap_cons, ← ih, e0, e, e, e]
theorem RowR.set4 {W : World} {base : Nat} {T : TypeId} {g len cap : Nat} {l : List Rc} (h : RowR W base T (.slice (some ⟨g, 0, none⟩) len cap) l) (hl : l.length = len) (i : Nat) (hi : i < len) (r : Rc) :
    RowR ((((W.setCell ⟨g, i * 4, none⟩ (.int .i64 r.x)).setCell ⟨g, i * 4 + 1, none⟩ (.int .i64 r.y)).setCell ⟨g, i * 4 + 2, none⟩ (.int .i64 r.w)).setCell ⟨g, i * 4 + 3, none⟩ (.int .i64 r.h)) base T (.slice (some ⟨g, 0, none⟩) len cap) (l.set i r) := by
  subst hl
  have h1 := (World.ownsRow.stored (World.ownsRow.stored (World.ownsRow.stored (World.ownsRow.stored h (i * 4) (.int .i64 r.x)).1 (i * 4 + 1) (.int .i64 r.y)).1 (i * 4 + 2) (.int .i64 r.w)).1 (i * 4 + 3) (.int .i64 r.h)).1
  rw [flat_set l i r hi] at h1
  unfold RowR RowE
  rw [List.length_set]
  exact h1
theorem RowE.frozenAt {α : Type} {enc : α → List Value} {n : Nat} {W : World} {base : Nat} {T : TypeId} {g len cap : Nat} {l : List α} (h : RowE enc n W base T (.slice (some ⟨g, 0, none⟩) len cap) l) (hl : l.length = len) (j : Nat) : W.frozen? ⟨g, j, none⟩ = false := by
  subst hl
  exact World.ownsRow.frozenAt h j
theorem RowE.block {α : Type} {enc : α → List Value} {n : Nat} {W : World} {base : Nat} {T : TypeId} {g len cap : Nat} {l : List α} (h : RowE enc n W base T (.slice (some ⟨g, 0, none⟩) len cap) l) : base ≤ g ∧ g < W.heap.size := World.ownsRow.lt h g rfl
end Go.Proofs.YthfhpejpjiaikaaGreat
