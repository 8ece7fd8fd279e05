/- gleberef04: what two rectangles have together, a zone's rectangle. -/
import Derived.Test.YtbfjnnjblnjdkaaWRef
import Derived.Test.YtbfjnnjblnjdkaaPRef
namespace Go.Proofs.Ytbfjnnjblnjdkaa
open Go.RowKit
/-- A number that the least and the greatest of two are, as the machine takes them. -/
theorem max_ite (a p : Int) : (if a < p then p else a) = max a p := by split <;> omega
theorem min_ite (a p : Int) : (if p < a then p else a) = min a p := by split <;> omega
/-- Four cells behind each other, stored. -/
theorem Since.set4 {w0 W : World} (h : Since w0 W) {g : Nat} (hg : w0.heap.size ≤ g) (a b c d : Value) : Since w0 ((((W.setCell ⟨g, 0, none⟩ a).setCell ⟨g, 1, none⟩ b).setCell ⟨g, 2, none⟩ c).setCell ⟨g, 3, none⟩ d) :=
  (((h.setCell (p := ⟨g, 0, none⟩) hg _).setCell (p := ⟨g, 1, none⟩) hg _).setCell (p := ⟨g, 2, none⟩) hg _).setCell (p := ⟨g, 3, none⟩) hg _
theorem But.set4 {g : Nat} {w0 W : World} (h : Since w0 W) (a b c d : Value) : But g w0 ((((W.setCell ⟨g, 0, none⟩ a).setCell ⟨g, 1, none⟩ b).setCell ⟨g, 2, none⟩ c).setCell ⟨g, 3, none⟩ d) :=
  ((But.set2 h 0 1 a b).set_ (p := ⟨g, 2, none⟩) rfl c).set_ (p := ⟨g, 3, none⟩) rfl d
theorem Whole.set4 {W : World} {g : Nat} {t : TypeId} {x y z u : Value} (h : Whole W g t #[x, y, z, u]) (a b c d : Value) : Whole ((((W.setCell ⟨g, 0, none⟩ a).setCell ⟨g, 1, none⟩ b).setCell ⟨g, 2, none⟩ c).setCell ⟨g, 3, none⟩ d) g t #[a, b, c, d] :=
  (((h.set_ 0 a).set_ 1 b).set_ 2 c).set_ 3 d
set_option maxRecDepth 100000 in
set_option maxHeartbeats 1600000 in
theorem wrMeet_any (a b c d p q r s : Int) (w : World) : Calls Try.prog 38 #[.agg #[.int .i64 a, .int .i64 b, .int .i64 c, .int .i64 d], .agg #[.int .i64 p, .int .i64 q, .int .i64 r, .int .i64 s]] w fun e w' => e = .returned (.agg #[.int .i64 ((meetR ⟨a, b, c, d⟩ ⟨p, q, r, s⟩).x), .int .i64 ((meetR ⟨a, b, c, d⟩ ⟨p, q, r, s⟩).y), .int .i64 ((meetR ⟨a, b, c, d⟩ ⟨p, q, r, s⟩).w), .int .i64 ((meetR ⟨a, b, c, d⟩ ⟨p, q, r, s⟩).h)]) ∧ Below w.heap.size w w' := by
  obtain ⟨w0, hw0⟩ : ∃ w0, w0 = ((w.alloc (.cells #[.int .i64 a, .int .i64 b, .int .i64 c, .int .i64 d] 23)).alloc (.cells #[.int .i64 p, .int .i64 q, .int .i64 r, .int .i64 s] 23)).alloc (.cells #[.int .i64 0, .int .i64 0, .int .i64 0, .int .i64 0] 23) := ⟨_, rfl⟩
  have hs0 : Since w w0 := by rw [hw0]; exact (((Since.refl w).alloc _).alloc _).alloc _
  have wh0 : Whole w0 (w.heap.size) 23 #[.int .i64 a, .int .i64 b, .int .i64 c, .int .i64 d] := by rw [hw0]; exact ((Whole.new w _ _).alloc _).alloc _
  have wh1 : Whole w0 (w.heap.size + 1) 23 #[.int .i64 p, .int .i64 q, .int .i64 r, .int .i64 s] := by rw [hw0]; exact ((Whole.new (w.alloc _) _ _).alloc _).at_ (by simp)
  have wh2 : Whole w0 (w.heap.size + 1 + 1) 23 #[.int .i64 0, .int .i64 0, .int .i64 0, .int .i64 0] := by rw [hw0]; exact (Whole.new ((w.alloc _).alloc _) _ _).at_ (by simp)
  have HW := Lib.hid hw0
  have c0_0 := box_cell wh0 0 (.int .i64 a) rfl
  have c0_1 := box_cell wh0 1 (.int .i64 b) rfl
  have c0_2 := box_cell wh0 2 (.int .i64 c) rfl
  have c0_3 := box_cell wh0 3 (.int .i64 d) rfl
  have c1_0 := box_cell wh1 0 (.int .i64 p) rfl
  have c1_1 := box_cell wh1 1 (.int .i64 q) rfl
  have c1_2 := box_cell wh1 2 (.int .i64 r) rfl
  have c1_3 := box_cell wh1 3 (.int .i64 s) rfl
  have c2_0 := box_cell wh2 0 (.int .i64 0) rfl
  have f2_0 := box_free wh2 0
  have c2_1 := box_cell wh2 1 (.int .i64 0) rfl
  have f2_1 := box_free wh2 1
  have c2_2 := box_cell wh2 2 (.int .i64 0) rfl
  have f2_2 := box_free wh2 2
  have c2_3 := box_cell wh2 3 (.int .i64 0) rfl
  have f2_3 := box_free wh2 3
  have hsr := Since.refl w0
  have hsd := hsr.drew
  clear hw0
  by_cases hf : fineR ⟨a, b, c, d⟩ = true
  · by_cases hg : fineR ⟨p, q, r, s⟩ = true
    · have b1 := (fineR_iff _).1 hf
      have b2 := (fineR_iff _).1 hg
      dsimp only at b1 b2
      have HF := Lib.hid hf
      have HG := Lib.hid hg
      have hm : meetR ⟨a, b, c, d⟩ ⟨p, q, r, s⟩ = if 1 ≤ min (a + c) (p + r) - max a p ∧ 1 ≤ min (b + d) (q + s) - max b q then ⟨max a p, max b q, min (a + c) (p + r) - max a p, min (b + d) (q + s) - max b q⟩ else zeroR := by
        unfold meetR
        by_cases hh : 1 ≤ min (a + c) (p + r) - max a p ∧ 1 ≤ min (b + d) (q + s) - max b q
        · rw [if_pos hh, if_pos ⟨hf, hg, hh.1, hh.2⟩]
        · rw [if_neg hh, if_neg (fun q => hh ⟨q.2.2.1, q.2.2.2⟩)]
      have e1 : wrap64 (a + c) = a + c := IntWalk.wrap64_in _ ⟨by omega, by omega⟩
      have e2 : wrap64 (p + r) = p + r := IntWalk.wrap64_in _ ⟨by omega, by omega⟩
      have e3 : wrap64 (b + d) = b + d := IntWalk.wrap64_in _ ⟨by omega, by omega⟩
      have e4 : wrap64 (q + s) = q + s := IntWalk.wrap64_in _ ⟨by omega, by omega⟩
      have m1 := max_ite a p
      have m2 := max_ite b q
      have m3 := min_ite (a + c) (p + r)
      have m4 := min_ite (b + d) (q + s)
      have x1 : 0 ≤ max a p ∧ max a p ≤ 1073741824 := by omega
      have x2 : 0 ≤ max b q ∧ max b q ≤ 1073741824 := by omega
      have x3 : 0 ≤ min (a + c) (p + r) ∧ min (a + c) (p + r) ≤ 2147483648 := by omega
      have x4 : 0 ≤ min (b + d) (q + s) ∧ min (b + d) (q + s) ≤ 2147483648 := by omega
      obtain ⟨X, hX⟩ : ∃ X, max a p = X := ⟨_, rfl⟩
      obtain ⟨Y, hY⟩ : ∃ Y, max b q = Y := ⟨_, rfl⟩
      obtain ⟨A, hA⟩ : ∃ A, min (a + c) (p + r) = A := ⟨_, rfl⟩
      obtain ⟨B, hB⟩ : ∃ B, min (b + d) (q + s) = B := ⟨_, rfl⟩
      rw [hX] at m1 x1
      rw [hY] at m2 x2
      rw [hA] at m3 x3
      rw [hB] at m4 x4
      have e5 : wrap64 (A - X) = A - X := IntWalk.wrap64_in _ ⟨by omega, by omega⟩
      have e6 : wrap64 (B - Y) = B - Y := IntWalk.wrap64_in _ ⟨by omega, by omega⟩
      obtain ⟨C, hC⟩ : ∃ C, A - X = C := ⟨_, rfl⟩
      obtain ⟨D, hD⟩ : ∃ D, B - Y = D := ⟨_, rfl⟩
      rw [hX, hY, hA, hB, hC, hD] at hm
      rw [hC] at e5
      rw [hD] at e6
      rw [hm]
      clear hm hf hg b1 b2 hX hY hA hB x1 x2 x3 x4
      by_cases c1 : 1 ≤ C
      · by_cases c2 : 1 ≤ D
        · rw [if_pos ⟨c1, c2⟩]
          dsimp only
          have d1 : decide (C < 1) = false := decide_eq_false (by omega)
          have d2 : decide (D < 1) = false := decide_eq_false (by omega)
          go_enter Try.func38, Try.ntmps38
          go_wp2_with fail
          rw [← HW.out]
          go_wp2_with (go_at_call 59; (with_reducible refine (Calls.since (by assumption) (wrFine_at (by first | exact HF.out | exact HG.out) _)).mono ?_); rintro e w1 ⟨rfl, hb⟩)
          have g0 := (Since.whole hb wh2).set4 (.int .i64 X) (.int .i64 Y) (.int .i64 C) (.int .i64 D)
          have g1 := g0.cell 0
          have g2 := g0.cell 1
          have g3 := g0.cell 2
          have g4 := g0.cell 3
          exact bodyPost_ret (v := .agg #[.int .i64 X, .int .i64 Y, .int .i64 C, .int .i64 D]) (by simp [results, Try.results38, go_sem, g1, g2, g3, g4]) rfl ⟨rfl, (hs0.trans hb).set4 (by omega) _ _ _ _⟩
        · rw [if_neg (fun z => c2 z.2)]
          unfold zeroR
          dsimp only
          have d1 : decide (C < 1) = false := decide_eq_false (by omega)
          have d2 : decide (D < 1) = true := decide_eq_true (by omega)
          go_enter Try.func38, Try.ntmps38
          go_wp2_with fail
          rw [← HW.out]
          go_wp2_with (go_at_call 59; (with_reducible refine (Calls.since (by assumption) (wrFine_at (by first | exact HF.out | exact HG.out) _)).mono ?_); rintro e w1 ⟨rfl, hb⟩)
          have g0 := (Since.whole hb wh2).set4 (.int .i64 0) (.int .i64 0) (.int .i64 0) (.int .i64 0)
          have g1 := g0.cell 0
          have g2 := g0.cell 1
          have g3 := g0.cell 2
          have g4 := g0.cell 3
          exact bodyPost_ret (v := .agg #[.int .i64 0, .int .i64 0, .int .i64 0, .int .i64 0]) (by simp [results, Try.results38, go_sem, g1, g2, g3, g4]) rfl ⟨rfl, (hs0.trans hb).set4 (by omega) _ _ _ _⟩
      · rw [if_neg (fun z => c1 z.1)]
        unfold zeroR
        dsimp only
        have d1 : decide (C < 1) = true := decide_eq_true (by omega)
        go_enter Try.func38, Try.ntmps38
        go_wp2_with fail
        rw [← HW.out]
        go_wp2_with (go_at_call 59; (with_reducible refine (Calls.since (by assumption) (wrFine_at (by first | exact HF.out | exact HG.out) _)).mono ?_); rintro e w1 ⟨rfl, hb⟩)
        have g0 := (Since.whole hb wh2).set4 (.int .i64 0) (.int .i64 0) (.int .i64 0) (.int .i64 0)
        have g1 := g0.cell 0
        have g2 := g0.cell 1
        have g3 := g0.cell 2
        have g4 := g0.cell 3
        exact bodyPost_ret (v := .agg #[.int .i64 0, .int .i64 0, .int .i64 0, .int .i64 0]) (by simp [results, Try.results38, go_sem, g1, g2, g3, g4]) rfl ⟨rfl, (hs0.trans hb).set4 (by omega) _ _ _ _⟩
    · have hm : meetR ⟨a, b, c, d⟩ ⟨p, q, r, s⟩ = zeroR := if_neg (fun z => hg z.2.1)
      rw [hm]
      unfold zeroR
      dsimp only
      have HF := Lib.hid hf
      have HG := Lib.hid (Bool.eq_false_iff.2 hg)
      clear hm hf hg
      go_enter Try.func38, Try.ntmps38
      go_wp2_with fail
      rw [← HW.out]
      go_wp2_with (go_at_call 59; (with_reducible refine (Calls.since (by assumption) (wrFine_at (by first | exact HF.out | exact HG.out) _)).mono ?_); rintro e w1 ⟨rfl, hb⟩)
      have g0 := (Since.whole hb wh2).set4 (.int .i64 0) (.int .i64 0) (.int .i64 0) (.int .i64 0)
      have g1 := g0.cell 0
      have g2 := g0.cell 1
      have g3 := g0.cell 2
      have g4 := g0.cell 3
      exact bodyPost_ret (v := .agg #[.int .i64 0, .int .i64 0, .int .i64 0, .int .i64 0]) (by simp [results, Try.results38, go_sem, g1, g2, g3, g4]) rfl ⟨rfl, (hs0.trans hb).set4 (by omega) _ _ _ _⟩
  · have hm : meetR ⟨a, b, c, d⟩ ⟨p, q, r, s⟩ = zeroR := if_neg (fun z => hf z.1)
    rw [hm]
    unfold zeroR
    dsimp only
    have HF := Lib.hid (Bool.eq_false_iff.2 hf)
    clear hm hf
    go_enter Try.func38, Try.ntmps38
    go_wp2_with fail
    rw [← HW.out]
    go_wp2_with (go_at_call 59; (with_reducible refine (Calls.since (by assumption) (wrFine_at HF.out _)).mono ?_); rintro e w1 ⟨rfl, hb⟩)
    have g0 := (Since.whole hb wh2).set4 (.int .i64 0) (.int .i64 0) (.int .i64 0) (.int .i64 0)
    have g1 := g0.cell 0
    have g2 := g0.cell 1
    have g3 := g0.cell 2
    have g4 := g0.cell 3
    exact bodyPost_ret (v := .agg #[.int .i64 0, .int .i64 0, .int .i64 0, .int .i64 0]) (by simp [results, Try.results38, go_sem, g1, g2, g3, g4]) rfl ⟨rfl, (hs0.trans hb).set4 (by omega) _ _ _ _⟩
theorem wrMeet_at {a b c d p q r s X Y C D : Int} (h : meetR ⟨a, b, c, d⟩ ⟨p, q, r, s⟩ = ⟨X, Y, C, D⟩) (w : World) : Calls Try.prog 38 #[.agg #[.int .i64 a, .int .i64 b, .int .i64 c, .int .i64 d], .agg #[.int .i64 p, .int .i64 q, .int .i64 r, .int .i64 s]] w fun e w' => e = .returned (.agg #[.int .i64 X, .int .i64 Y, .int .i64 C, .int .i64 D]) ∧ Below w.heap.size w w' := by
  have h1 := wrMeet_any a b c d p q r s w
  rw [h] at h1
  exact h1
end Go.Proofs.Ytbfjnnjblnjdkaa
