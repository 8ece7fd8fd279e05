/- gleberef04.Of, Cut: what a zone has of a window. -/
import Derived.Test.YtgnhamhkpbadbaaWPlainR
namespace Go.Proofs.Ytgnhamhkpbadbaa
open Go.RowKit
set_option maxHeartbeats 800000 in
theorem wrOf_no (k d b : Int) (w : World) (h : okP k d b = false) : Calls Try.prog 76 #[.int .i64 k, .agg #[.int .i64 d, .int .i64 b]] w fun e w' => e = .returned (.tuple #[.agg #[.int .i64 0, .int .i64 0, .int .i64 0, .int .i64 0], .int .i64 1]) ∧ Below w.heap.size w w' := by
  obtain ⟨w0, hw0⟩ : ∃ w0, w0 = (w.alloc (.cells #[.int .i64 d, .int .i64 b] 27)).alloc (.cells #[.int .i64 0, .int .i64 0, .int .i64 0, .int .i64 0] 121) := ⟨_, rfl⟩
  have hs0 : Since w w0 := by rw [hw0]; exact ((Since.refl w).alloc _).alloc _
  have wh0 : Whole w0 (w.heap.size) 27 #[.int .i64 d, .int .i64 b] := by rw [hw0]; exact (Whole.new w _ _).alloc _
  have wh1 : Whole w0 (w.heap.size + 1) 121 #[.int .i64 0, .int .i64 0, .int .i64 0, .int .i64 0] := by rw [hw0]; exact (Whole.new (w.alloc _) _ _).at_ (by simp)
  have HW := Lib.hid hw0
  have c0_0 := box_cell wh0 0 (.int .i64 d) rfl
  have c0_1 := box_cell wh0 1 (.int .i64 b) rfl
  have c1_0 := box_cell wh1 0 (.int .i64 0) rfl
  have f1_0 := box_free wh1 0
  have c1_1 := box_cell wh1 1 (.int .i64 0) rfl
  have f1_1 := box_free wh1 1
  have c1_2 := box_cell wh1 2 (.int .i64 0) rfl
  have f1_2 := box_free wh1 2
  have c1_3 := box_cell wh1 3 (.int .i64 0) rfl
  have f1_3 := box_free wh1 3
  have hsr := Since.refl w0
  have hsd := hsr.drew
  clear hw0
  replace h := Lib.hid h
  go_enter Try.func76, Try.ntmps76
  go_wp2_with fail
  rw [← HW.out]
  go_wp2_with (go_at_call 96; (with_reducible refine (Calls.since (by assumption) (refRightP_at h.out _)).mono ?_); rintro e w1 ⟨rfl, hb1⟩)
  have g0 := (Since.whole hb1 wh1).set4 (.int .i64 0) (.int .i64 0) (.int .i64 0) (.int .i64 0)
  have g1 := g0.cell 0
  have g2 := g0.cell 1
  have g3 := g0.cell 2
  have g4 := g0.cell 3
  exact bodyPost_ret (v := .tuple #[.agg #[.int .i64 0, .int .i64 0, .int .i64 0, .int .i64 0], .int .i64 1]) (by simp [results, Try.results76, go_sem, g1, g2, g3, g4]) rfl ⟨rfl, (hs0.trans hb1).set4 (by simp) _ _ _ _⟩
set_option maxHeartbeats 800000 in
theorem wrOf_yes (k d b p q r s : Int) (w : World) (h : okP k d b = true) (e : zoneR k d b = ⟨p, q, r, s⟩) : Calls Try.prog 76 #[.int .i64 k, .agg #[.int .i64 d, .int .i64 b]] w fun e w' => e = .returned (.tuple #[.agg #[.int .i64 p, .int .i64 q, .int .i64 r, .int .i64 s], .int .i64 0]) ∧ Below w.heap.size w w' := by
  have he : corF (side k) (ups d b (cnt d b)) = (p, q, r, s) := by
    unfold zoneR at e
    injection e with e1 e2 e3 e4
    rw [← e1, ← e2, ← e3, ← e4]
  obtain ⟨w0, hw0⟩ : ∃ w0, w0 = (w.alloc (.cells #[.int .i64 d, .int .i64 b] 27)).alloc (.cells #[.int .i64 0, .int .i64 0, .int .i64 0, .int .i64 0] 121) := ⟨_, rfl⟩
  have hs0 : Since w w0 := by rw [hw0]; exact ((Since.refl w).alloc _).alloc _
  have wh0 : Whole w0 (w.heap.size) 27 #[.int .i64 d, .int .i64 b] := by rw [hw0]; exact (Whole.new w _ _).alloc _
  have wh1 : Whole w0 (w.heap.size + 1) 121 #[.int .i64 0, .int .i64 0, .int .i64 0, .int .i64 0] := by rw [hw0]; exact (Whole.new (w.alloc _) _ _).at_ (by simp)
  have HW := Lib.hid hw0
  have c0_0 := box_cell wh0 0 (.int .i64 d) rfl
  have c0_1 := box_cell wh0 1 (.int .i64 b) rfl
  have c1_0 := box_cell wh1 0 (.int .i64 0) rfl
  have f1_0 := box_free wh1 0
  have c1_1 := box_cell wh1 1 (.int .i64 0) rfl
  have f1_1 := box_free wh1 1
  have c1_2 := box_cell wh1 2 (.int .i64 0) rfl
  have f1_2 := box_free wh1 2
  have c1_3 := box_cell wh1 3 (.int .i64 0) rfl
  have f1_3 := box_free wh1 3
  have hsr := Since.refl w0
  have hsd := hsr.drew
  clear hw0
  replace h := Lib.hid h
  replace he := Lib.hid he
  clear e
  go_enter Try.func76, Try.ntmps76
  go_wp2_with fail
  rw [← HW.out]
  go_wp2_with (first | (go_at_call 96; (with_reducible refine (Calls.since (by assumption) (refRightP_at h.out _)).mono ?_); rintro e w1 ⟨rfl, hb1⟩) | ((go_at_call 116; (with_reducible refine (Calls.since (by assumption) (refCorner_yes k d b p q r s _ h.out he.out)).mono ?_); rintro e w2 ⟨rfl, hb2⟩); (have x1 := Since.whole hb2 wh1); (have x2 := (x1.alloc (.cells #[.int .i64 p, .int .i64 q] 25)).frozen 0); (have x3 := (x1.alloc (.cells #[.int .i64 p, .int .i64 q] 25)).frozen 1); (have x4 := (x1.alloc (.cells #[.int .i64 p, .int .i64 q] 25)).frozen 2); (have x5 := (x1.alloc (.cells #[.int .i64 p, .int .i64 q] 25)).frozen 3); (have y1 := (x1.alloc (.cells #[.int .i64 p, .int .i64 q] 25)).cell 0); (have y2 := (x1.alloc (.cells #[.int .i64 p, .int .i64 q] 25)).cell 1); (have y3 := (x1.alloc (.cells #[.int .i64 p, .int .i64 q] 25)).cell 2); (have y4 := (x1.alloc (.cells #[.int .i64 p, .int .i64 q] 25)).cell 3)))
  have g0 := (x1.alloc (.cells #[.int .i64 p, .int .i64 q] 25)).set4 (.int .i64 p) (.int .i64 q) (.int .i64 r) (.int .i64 s)
  have g1 := g0.cell 0
  have g2 := g0.cell 1
  have g3 := g0.cell 2
  have g4 := g0.cell 3
  exact bodyPost_ret (v := .tuple #[.agg #[.int .i64 p, .int .i64 q, .int .i64 r, .int .i64 s], .int .i64 0]) (by simp [results, Try.results76, go_sem, g1, g2, g3, g4]) rfl ⟨rfl, ((hs0.trans hb2).alloc _).set4 (by simp) _ _ _ _⟩
theorem take_map_filter (l : List Rc) (g : Rc → Rc) (p : Rc → Bool) (m : Nat) (h : m < l.length) : ((l.take (m + 1)).map g).filter p = ((l.take m).map g).filter p ++ (if p (g l[m]) = true then [g l[m]] else []) := by
  rw [List.take_succ_eq_append_getElem h, List.map_append, List.filter_append]
  congr 1
  show List.filter p [g l[m]] = _
  cases e : p (g l[m]) with
  | true => rw [List.filter_cons_of_pos e]; simp
  | false => rw [List.filter_cons_of_neg (by rw [e]; exact Bool.false_ne_true)]; simp
end Go.Proofs.Ytgnhamhkpbadbaa
