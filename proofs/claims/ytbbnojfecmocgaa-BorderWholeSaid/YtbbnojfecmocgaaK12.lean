/- window.Of, Cut: what a zone has of a window. -/
import Derived.Test.YtbbnojfecmocgaaK06
import Derived.Test.YtbbnojfecmocgaaK11
import Derived.Laws.OwnMore
namespace Go.Proofs.Ytbbnojfecmocgaa
open Go.RowKit
theorem corner_yes {k d b p q r s : Int} (w : World) (h : okP k d b = true) (he : corF (side k) (ups d b (cnt d b)) = (p, q, r, s)) : Calls Try.prog 30 #[.agg #[.int .i64 k], .agg #[.int .i64 d, .int .i64 b]] w fun e w' => e = .returned (.tuple #[.agg #[.int .i64 p, .int .i64 q], .int .i64 r, .int .i64 s]) ∧ Below w.heap.size w w' := by
  have h1 := corner_raw k d b w h
  rw [he] at h1
  exact h1
set_option maxHeartbeats 800000 in
theorem wOf_no (k d b : Int) (w : World) (h : okP k d b = false) : Calls Try.prog 35 #[.agg #[.int .i64 k], .agg #[.int .i64 d, .int .i64 b]] w fun e w' => e = .returned (.tuple #[.agg #[.int .i64 0, .int .i64 0, .int .i64 0, .int .i64 0], .int .i64 1]) ∧ Below w.heap.size w w' := by
  obtain ⟨w0, hw0⟩ : ∃ w0, w0 = ((w.alloc (.cells #[.int .i64 k] 26)).alloc (.cells #[.int .i64 d, .int .i64 b] 35)).alloc (.cells #[.int .i64 0, .int .i64 0, .int .i64 0, .int .i64 0] 81) := ⟨_, rfl⟩
  have hs0 : Since w w0 := by rw [hw0]; exact (((Since.refl w).alloc _).alloc _).alloc _
  have wh0 : Whole w0 (w.heap.size) 26 #[.int .i64 k] := by rw [hw0]; exact ((Whole.new w _ _).alloc _).alloc _
  have wh1 : Whole w0 (w.heap.size + 1) 35 #[.int .i64 d, .int .i64 b] := by rw [hw0]; exact ((Whole.new (w.alloc _) _ _).alloc _).at_ (by simp)
  have wh2 : Whole w0 (w.heap.size + 1 + 1) 81 #[.int .i64 0, .int .i64 0, .int .i64 0, .int .i64 0] := by rw [hw0]; exact (Whole.new ((w.alloc _).alloc _) _ _).at_ (by simp)
  have HW := Lib.hid hw0
  have c0_0 := box_cell wh0 0 (.int .i64 k) rfl
  have c1_0 := box_cell wh1 0 (.int .i64 d) rfl
  have c1_1 := box_cell wh1 1 (.int .i64 b) rfl
  have c2_0 := box_cell wh2 0 (.int .i64 0) rfl
  have f2_0 := box_free wh2 0
  have c2_1 := box_cell wh2 1 (.int .i64 0) rfl
  have f2_1 := box_free wh2 1
  have c2_2 := box_cell wh2 2 (.int .i64 0) rfl
  have f2_2 := box_free wh2 2
  have c2_3 := box_cell wh2 3 (.int .i64 0) rfl
  have f2_3 := box_free wh2 3
  have hsr := Since.refl w0
  have hsd := hsr.drew
  clear hw0
  replace h := Lib.hid h
  go_enter Try.func35, Try.ntmps35
  go_wp2_with fail
  rw [← HW.out]
  go_wp2_with (go_at_call 42; (with_reducible refine (Calls.since (by assumption) (right_at h.out _)).mono ?_); rintro e w1 ⟨rfl, hb1⟩)
  have g0 := (Since.whole hb1 wh2).set4 (.int .i64 0) (.int .i64 0) (.int .i64 0) (.int .i64 0)
  have g1 := g0.cell 0
  have g2 := g0.cell 1
  have g3 := g0.cell 2
  have g4 := g0.cell 3
  exact bodyPost_ret (v := .tuple #[.agg #[.int .i64 0, .int .i64 0, .int .i64 0, .int .i64 0], .int .i64 1]) (by simp [results, Try.results35, go_sem, g1, g2, g3, g4]) rfl ⟨rfl, (hs0.trans hb1).set4 (by omega) _ _ _ _⟩
set_option maxHeartbeats 800000 in
theorem wOf_yes (k d b p q r s : Int) (w : World) (h : okP k d b = true) (e : zoneR k d b = ⟨p, q, r, s⟩) : Calls Try.prog 35 #[.agg #[.int .i64 k], .agg #[.int .i64 d, .int .i64 b]] w fun e w' => e = .returned (.tuple #[.agg #[.int .i64 p, .int .i64 q, .int .i64 r, .int .i64 s], .int .i64 0]) ∧ Below w.heap.size w w' := by
  have he : corF (side k) (ups d b (cnt d b)) = (p, q, r, s) := by
    unfold zoneR at e
    injection e with e1 e2 e3 e4
    rw [← e1, ← e2, ← e3, ← e4]
  obtain ⟨w0, hw0⟩ : ∃ w0, w0 = ((w.alloc (.cells #[.int .i64 k] 26)).alloc (.cells #[.int .i64 d, .int .i64 b] 35)).alloc (.cells #[.int .i64 0, .int .i64 0, .int .i64 0, .int .i64 0] 81) := ⟨_, rfl⟩
  have hs0 : Since w w0 := by rw [hw0]; exact (((Since.refl w).alloc _).alloc _).alloc _
  have wh0 : Whole w0 (w.heap.size) 26 #[.int .i64 k] := by rw [hw0]; exact ((Whole.new w _ _).alloc _).alloc _
  have wh1 : Whole w0 (w.heap.size + 1) 35 #[.int .i64 d, .int .i64 b] := by rw [hw0]; exact ((Whole.new (w.alloc _) _ _).alloc _).at_ (by simp)
  have wh2 : Whole w0 (w.heap.size + 1 + 1) 81 #[.int .i64 0, .int .i64 0, .int .i64 0, .int .i64 0] := by rw [hw0]; exact (Whole.new ((w.alloc _).alloc _) _ _).at_ (by simp)
  have HW := Lib.hid hw0
  have c0_0 := box_cell wh0 0 (.int .i64 k) rfl
  have c1_0 := box_cell wh1 0 (.int .i64 d) rfl
  have c1_1 := box_cell wh1 1 (.int .i64 b) rfl
  have c2_0 := box_cell wh2 0 (.int .i64 0) rfl
  have f2_0 := box_free wh2 0
  have c2_1 := box_cell wh2 1 (.int .i64 0) rfl
  have f2_1 := box_free wh2 1
  have c2_2 := box_cell wh2 2 (.int .i64 0) rfl
  have f2_2 := box_free wh2 2
  have c2_3 := box_cell wh2 3 (.int .i64 0) rfl
  have f2_3 := box_free wh2 3
  have hsr := Since.refl w0
  have hsd := hsr.drew
  clear hw0
  replace h := Lib.hid h
  replace he := Lib.hid he
  clear e
  go_enter Try.func35, Try.ntmps35
  go_wp2_with fail
  rw [← HW.out]
  go_wp2_with (first | (go_at_call 42; (with_reducible refine (Calls.since (by assumption) (right_at h.out _)).mono ?_); rintro e w1 ⟨rfl, hb1⟩) | ((go_at_call 30; (with_reducible refine (Calls.since (by assumption) (corner_yes _ h.out he.out)).mono ?_); rintro e w2 ⟨rfl, hb2⟩); (have x1 := Since.whole hb2 wh2); (have x2 := (x1.alloc (.cells #[.int .i64 p, .int .i64 q] 24)).frozen 0); (have x3 := (x1.alloc (.cells #[.int .i64 p, .int .i64 q] 24)).frozen 1); (have x4 := (x1.alloc (.cells #[.int .i64 p, .int .i64 q] 24)).frozen 2); (have x5 := (x1.alloc (.cells #[.int .i64 p, .int .i64 q] 24)).frozen 3); (have y1 := (x1.alloc (.cells #[.int .i64 p, .int .i64 q] 24)).cell 0); (have y2 := (x1.alloc (.cells #[.int .i64 p, .int .i64 q] 24)).cell 1); (have y3 := (x1.alloc (.cells #[.int .i64 p, .int .i64 q] 24)).cell 2); (have y4 := (x1.alloc (.cells #[.int .i64 p, .int .i64 q] 24)).cell 3)))
  have g0 := (x1.alloc (.cells #[.int .i64 p, .int .i64 q] 24)).set4 (.int .i64 p) (.int .i64 q) (.int .i64 r) (.int .i64 s)
  have g1 := g0.cell 0
  have g2 := g0.cell 1
  have g3 := g0.cell 2
  have g4 := g0.cell 3
  exact bodyPost_ret (v := .tuple #[.agg #[.int .i64 p, .int .i64 q, .int .i64 r, .int .i64 s], .int .i64 0]) (by simp [results, Try.results35, go_sem, g1, g2, g3, g4]) rfl ⟨rfl, ((hs0.trans hb2).alloc _).set4 (by omega) _ _ _ _⟩
theorem wOf_at {k d b p q r s E : Int} (w : World) (h : OfZ k d b p q r s E) : Calls Try.prog 35 #[.agg #[.int .i64 k], .agg #[.int .i64 d, .int .i64 b]] w fun e w' => e = .returned (.tuple #[.agg #[.int .i64 p, .int .i64 q, .int .i64 r, .int .i64 s], .int .i64 E]) ∧ Below w.heap.size w w' := by
  rcases h with ⟨h, hz, rfl⟩ | ⟨h, rfl, rfl, rfl, rfl, rfl⟩
  · exact wOf_yes k d b p q r s w h hz
  · exact wOf_no k d b w h
/-- A list of rectangles, one of them changed where it lies. -/
theorem flat_set : ∀ (l : List Rc) (i : Nat) (r : Rc), i < l.length → ((((l.flatMap encR).set (i * 4) (.int .i64 r.x)).set (i * 4 + 1) (.int .i64 r.y)).set (i * 4 + 2) (.int .i64 r.w)).set (i * 4 + 3) (.int .i64 r.h) = (l.set i r).flatMap encR
  | [], _, _, h => absurd h (Nat.not_lt_zero _)
  | _ :: _, 0, _, _ => rfl
  | x :: l, i + 1, r, h => by
    have ih := flat_set l i r (by simpa using h)
    have e : ∀ (xs : List Value) (j : Nat) (v : Value), (encR x ++ xs).set ((i + 1) * 4 + j) v = encR x ++ xs.set (i * 4 + j) v := by
      intro xs j v
      rw [List.set_append_right _ _ (by rw [encR_len]; omega), encR_len, show (i + 1) * 4 + j - 4 = i * 4 + j by omega]
    have e0 : ∀ (xs : List Value) (v : Value), (encR x ++ xs).set ((i + 1) * 4) v = encR x ++ xs.set (i * 4) v := fun xs v => e xs 0 v
    rw [List.set_cons_succ, List.flatMap_cons, List.flatMap_cons, ← ih, e0, e, e, e]
theorem RowR.set4 {W : World} {base : Nat} {T : TypeId} {g len cap : Nat} {l : List Rc} (h : RowR W base T (.slice (some ⟨g, 0, none⟩) len cap) l) (hl : l.length = len) (i : Nat) (hi : i < len) (r : Rc) :
    RowR ((((W.setCell ⟨g, i * 4, none⟩ (.int .i64 r.x)).setCell ⟨g, i * 4 + 1, none⟩ (.int .i64 r.y)).setCell ⟨g, i * 4 + 2, none⟩ (.int .i64 r.w)).setCell ⟨g, i * 4 + 3, none⟩ (.int .i64 r.h)) base T (.slice (some ⟨g, 0, none⟩) len cap) (l.set i r) := by
  subst hl
  have h1 := (World.ownsRow.stored (World.ownsRow.stored (World.ownsRow.stored (World.ownsRow.stored h (i * 4) (.int .i64 r.x)).1 (i * 4 + 1) (.int .i64 r.y)).1 (i * 4 + 2) (.int .i64 r.w)).1 (i * 4 + 3) (.int .i64 r.h)).1
  rw [flat_set l i r hi] at h1
  unfold RowR RowE
  rw [List.length_set]
  exact h1
theorem RowE.block {α : Type} {enc : α → List Value} {n : Nat} {W : World} {base : Nat} {T : TypeId} {g len cap : Nat} {l : List α} (h : RowE enc n W base T (.slice (some ⟨g, 0, none⟩) len cap) l) : base ≤ g ∧ g < W.heap.size := World.ownsRow.lt h g rfl
end Go.Proofs.Ytbbnojfecmocgaa
