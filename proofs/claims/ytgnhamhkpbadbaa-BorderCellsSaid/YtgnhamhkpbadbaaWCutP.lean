/- window.Of, Cut: what a zone has of a window. -/
import Derived.Test.YtgnhamhkpbadbaaWGather
import Derived.Test.YtgnhamhkpbadbaaWKnows
import Derived.Test.YtgnhamhkpbadbaaWFns
import Derived.Test.YtgnhamhkpbadbaaPCorner
import Derived.Laws.OwnMore
namespace Go.Proofs.Ytgnhamhkpbadbaa
open Go.RowKit
theorem corner_yes {k d b p q r s : Int} (w : World) (h : okP k d b = true) (he : corF (side k) (ups d b (cnt d b)) = (p, q, r, s)) : Calls Try.prog 86 #[.agg #[.int .i64 k], .agg #[.int .i64 d, .int .i64 b]] w fun e w' => e = .returned (.tuple #[.agg #[.int .i64 p, .int .i64 q], .int .i64 r, .int .i64 s]) ∧ Below w.heap.size w w' := by
  have h1 := corner_raw k d b w h
  rw [he] at h1
  exact h1
set_option maxHeartbeats 800000 in
theorem wOf_no (k d b : Int) (w : World) (h : okP k d b = false) : Calls Try.prog 82 #[.agg #[.int .i64 k], .agg #[.int .i64 d, .int .i64 b]] w fun e w' => e = .returned (.tuple #[.agg #[.int .i64 0, .int .i64 0, .int .i64 0, .int .i64 0], .int .i64 1]) ∧ Below w.heap.size w w' := by
  obtain ⟨w0, hw0⟩ : ∃ w0, w0 = ((w.alloc (.cells #[.int .i64 k] 65)).alloc (.cells #[.int .i64 d, .int .i64 b] 27)).alloc (.cells #[.int .i64 0, .int .i64 0, .int .i64 0, .int .i64 0] 127) := ⟨_, rfl⟩
  have hs0 : Since w w0 := by rw [hw0]; exact (((Since.refl w).alloc _).alloc _).alloc _
  have wh0 : Whole w0 (w.heap.size) 65 #[.int .i64 k] := by rw [hw0]; exact ((Whole.new w _ _).alloc _).alloc _
  have wh1 : Whole w0 (w.heap.size + 1) 27 #[.int .i64 d, .int .i64 b] := by rw [hw0]; exact ((Whole.new (w.alloc _) _ _).alloc _).at_ (by simp)
  have wh2 : Whole w0 (w.heap.size + 1 + 1) 127 #[.int .i64 0, .int .i64 0, .int .i64 0, .int .i64 0] := by rw [hw0]; exact (Whole.new ((w.alloc _).alloc _) _ _).at_ (by simp)
  have HW := Lib.hid hw0
  have c0_0 := box_cell wh0 0 (.int .i64 k) rfl
  have c1_0 := box_cell wh1 0 (.int .i64 d) rfl
  have c1_1 := box_cell wh1 1 (.int .i64 b) rfl
  have c2_0 := box_cell wh2 0 (.int .i64 0) rfl
  have f2_0 := box_free wh2 0
  have c2_1 := box_cell wh2 1 (.int .i64 0) rfl
  have f2_1 := box_free wh2 1
  have c2_2 := box_cell wh2 2 (.int .i64 0) rfl
  have f2_2 := box_free wh2 2
  have c2_3 := box_cell wh2 3 (.int .i64 0) rfl
  have f2_3 := box_free wh2 3
  have hsr := Since.refl w0
  have hsd := hsr.drew
  clear hw0
  replace h := Lib.hid h
  go_enter Try.func82, Try.ntmps82
  go_wp2_with fail
  rw [← HW.out]
  go_wp2_with (go_at_call 91; (with_reducible refine (Calls.since (by assumption) (right_at h.out _)).mono ?_); rintro e w1 ⟨rfl, hb1⟩)
  have g0 := (Since.whole hb1 wh2).set4 (.int .i64 0) (.int .i64 0) (.int .i64 0) (.int .i64 0)
  have g1 := g0.cell 0
  have g2 := g0.cell 1
  have g3 := g0.cell 2
  have g4 := g0.cell 3
  exact bodyPost_ret (v := .tuple #[.agg #[.int .i64 0, .int .i64 0, .int .i64 0, .int .i64 0], .int .i64 1]) (by simp [results, Try.results82, go_sem, g1, g2, g3, g4]) rfl ⟨rfl, (hs0.trans hb1).set4 (by omega) _ _ _ _⟩
set_option maxHeartbeats 800000 in
theorem wOf_yes (k d b p q r s : Int) (w : World) (h : okP k d b = true) (e : zoneR k d b = ⟨p, q, r, s⟩) : Calls Try.prog 82 #[.agg #[.int .i64 k], .agg #[.int .i64 d, .int .i64 b]] w fun e w' => e = .returned (.tuple #[.agg #[.int .i64 p, .int .i64 q, .int .i64 r, .int .i64 s], .int .i64 0]) ∧ Below w.heap.size w w' := by
  have he : corF (side k) (ups d b (cnt d b)) = (p, q, r, s) := by
    unfold zoneR at e
    injection e with e1 e2 e3 e4
    rw [← e1, ← e2, ← e3, ← e4]
  obtain ⟨w0, hw0⟩ : ∃ w0, w0 = ((w.alloc (.cells #[.int .i64 k] 65)).alloc (.cells #[.int .i64 d, .int .i64 b] 27)).alloc (.cells #[.int .i64 0, .int .i64 0, .int .i64 0, .int .i64 0] 127) := ⟨_, rfl⟩
  have hs0 : Since w w0 := by rw [hw0]; exact (((Since.refl w).alloc _).alloc _).alloc _
  have wh0 : Whole w0 (w.heap.size) 65 #[.int .i64 k] := by rw [hw0]; exact ((Whole.new w _ _).alloc _).alloc _
  have wh1 : Whole w0 (w.heap.size + 1) 27 #[.int .i64 d, .int .i64 b] := by rw [hw0]; exact ((Whole.new (w.alloc _) _ _).alloc _).at_ (by simp)
  have wh2 : Whole w0 (w.heap.size + 1 + 1) 127 #[.int .i64 0, .int .i64 0, .int .i64 0, .int .i64 0] := by rw [hw0]; exact (Whole.new ((w.alloc _).alloc _) _ _).at_ (by simp)
  have HW := Lib.hid hw0
  have c0_0 := box_cell wh0 0 (.int .i64 k) rfl
  have c1_0 := box_cell wh1 0 (.int .i64 d) rfl
  have c1_1 := box_cell wh1 1 (.int .i64 b) rfl
  have c2_0 := box_cell wh2 0 (.int .i64 0) rfl
  have f2_0 := box_free wh2 0
  have c2_1 := box_cell wh2 1 (.int .i64 0) rfl
  have f2_1 := box_free wh2 1
  have c2_2 := box_cell wh2 2 (.int .i64 0) rfl
  have f2_2 := box_free wh2 2
  have c2_3 := box_cell wh2 3 (.int .i64 0) rfl
  have f2_3 := box_free wh2 3
  have hsr := Since.refl w0
  have hsd := hsr.drew
  clear hw0
  replace h := Lib.hid h
  replace he := Lib.hid he
  clear e
  go_enter Try.func82, Try.ntmps82
  go_wp2_with fail
  rw [← HW.out]
  go_wp2_with (first | (go_at_call 91; (with_reducible refine (Calls.since (by assumption) (right_at h.out _)).mono ?_); rintro e w1 ⟨rfl, hb1⟩) | ((go_at_call 86; (with_reducible refine (Calls.since (by assumption) (corner_yes _ h.out he.out)).mono ?_); rintro e w2 ⟨rfl, hb2⟩); (have x1 := Since.whole hb2 wh2); (have x2 := (x1.alloc (.cells #[.int .i64 p, .int .i64 q] 25)).frozen 0); (have x3 := (x1.alloc (.cells #[.int .i64 p, .int .i64 q] 25)).frozen 1); (have x4 := (x1.alloc (.cells #[.int .i64 p, .int .i64 q] 25)).frozen 2); (have x5 := (x1.alloc (.cells #[.int .i64 p, .int .i64 q] 25)).frozen 3); (have y1 := (x1.alloc (.cells #[.int .i64 p, .int .i64 q] 25)).cell 0); (have y2 := (x1.alloc (.cells #[.int .i64 p, .int .i64 q] 25)).cell 1); (have y3 := (x1.alloc (.cells #[.int .i64 p, .int .i64 q] 25)).cell 2); (have y4 := (x1.alloc (.cells #[.int .i64 p, .int .i64 q] 25)).cell 3)))
  have g0 := (x1.alloc (.cells #[.int .i64 p, .int .i64 q] 25)).set4 (.int .i64 p) (.int .i64 q) (.int .i64 r) (.int .i64 s)
  have g1 := g0.cell 0
  have g2 := g0.cell 1
  have g3 := g0.cell 2
  have g4 := g0.cell 3
  exact bodyPost_ret (v := .tuple #[.agg #[.int .i64 p, .int .i64 q, .int .i64 r, .int .i64 s], .int .i64 0]) (by simp [results, Try.results82, go_sem, g1, g2, g3, g4]) rfl ⟨rfl, ((hs0.trans hb2).alloc _).set4 (by omega) _ _ _ _⟩
theorem wOf_at {k d b p q r s E : Int} (w : World) (h : OfZ k d b p q r s E) : Calls Try.prog 82 #[.agg #[.int .i64 k], .agg #[.int .i64 d, .int .i64 b]] w fun e w' => e = .returned (.tuple #[.agg #[.int .i64 p, .int .i64 q, .int .i64 r, .int .i64 s], .int .i64 E]) ∧ Below w.heap.size w w' := by
  rcases h with ⟨h, hz, rfl⟩ | ⟨h, rfl, rfl, rfl, rfl, rfl⟩
  · exact wOf_yes k d b p q r s w h hz
  · exact wOf_no k d b w h
/-- What two have together is of numbers that count. -/
theorem fine_meet (a b : Rc) : fineR (meetR a b) = true := by
  unfold meetR
  split
  · next h =>
    have h1 := (fineR_iff a).1 h.1
    have h2 := (fineR_iff b).1 h.2.1
    rw [fineR_iff]
    dsimp only
    omega
  · decide
theorem ne_area {m : Rc} (h : fineR m = true) : neR m = decide (0 < areaR m) := by
  have h1 := (fineR_iff m).1 h
  rw [Bool.eq_iff_iff, neR_iff, decide_eq_true_iff, show areaR m = m.w * m.h from if_pos h]
  constructor
  · rintro ⟨a, b⟩; exact Int.mul_pos a b
  · intro a
    refine ⟨?_, ?_⟩
    · rcases Int.lt_or_le 0 m.w with c | c
      · exact c
      · rw [show m.w = 0 by omega, Int.zero_mul] at a; omega
    · rcases Int.lt_or_le 0 m.h with c | c
      · exact c
      · rw [show m.h = 0 by omega, Int.mul_zero] at a; omega
theorem filter_meet (L : List Rc) (z : Rc) : (L.map (fun r => meetR r z)).filter (fun r => decide (0 < areaR r)) = (L.map (fun r => meetR r z)).filter neR := by
  apply List.filter_congr
  intro r hr
  obtain ⟨x, _, rfl⟩ := List.mem_map.1 hr
  exact (ne_area (fine_meet x z)).symm
/-- A list of rectangles, one of them changed where it lies. -/
theorem flat_set : ∀ (l : List Rc) (i : Nat) (r : Rc), i < l.length → ((((l.flatMap encR).set (i * 4) (.int .i64 r.x)).set (i * 4 + 1) (.int .i64 r.y)).set (i * 4 + 2) (.int .i64 r.w)).set (i * 4 + 3) (.int .i64 r.h) = (l.set i r).flatMap encR
  | [], _, _, h => absurd h (Nat.not_lt_zero _)
  | _ :: _, 0, _, _ => rfl
  | x :: l, i + 1, r, h => by
    have ih := flat_set l i r (by simpa using h)
    have e : ∀ (xs : List Value) (j : Nat) (v : Value), (encR x ++ xs).set ((i + 1) * 4 + j) v = encR x ++ xs.set (i * 4 + j) v := by
      intro xs j v
      rw [List.set_append_right _ _ (by rw [encR_len]; omega), encR_len, show (i + 1) * 4 + j - 4 = i * 4 + j by omega]
    have e0 : ∀ (xs : List Value) (v : Value), (encR x ++ xs).set ((i + 1) * 4) v = encR x ++ xs.set (i * 4) v := fun xs v => e xs 0 v
    rw [List.set_cons_succ, List.flatMap_cons, List.flatMap_cons, ← ih, e0, e, e, e]
theorem RowR.set4 {W : World} {base : Nat} {T : TypeId} {g len cap : Nat} {l : List Rc} (h : RowR W base T (.slice (some ⟨g, 0, none⟩) len cap) l) (hl : l.length = len) (i : Nat) (hi : i < len) (r : Rc) :
    RowR ((((W.setCell ⟨g, i * 4, none⟩ (.int .i64 r.x)).setCell ⟨g, i * 4 + 1, none⟩ (.int .i64 r.y)).setCell ⟨g, i * 4 + 2, none⟩ (.int .i64 r.w)).setCell ⟨g, i * 4 + 3, none⟩ (.int .i64 r.h)) base T (.slice (some ⟨g, 0, none⟩) len cap) (l.set i r) := by
  subst hl
  have h1 := (World.ownsRow.stored (World.ownsRow.stored (World.ownsRow.stored (World.ownsRow.stored h (i * 4) (.int .i64 r.x)).1 (i * 4 + 1) (.int .i64 r.y)).1 (i * 4 + 2) (.int .i64 r.w)).1 (i * 4 + 3) (.int .i64 r.h)).1
  rw [flat_set l i r hi] at h1
  unfold RowR RowE
  rw [List.length_set]
  exact h1
theorem RowE.frozenAt {α : Type} {enc : α → List Value} {n : Nat} {W : World} {base : Nat} {T : TypeId} {g len cap : Nat} {l : List α} (h : RowE enc n W base T (.slice (some ⟨g, 0, none⟩) len cap) l) (hl : l.length = len) (j : Nat) : W.frozen? ⟨g, j, none⟩ = false := by
  subst hl
  exact World.ownsRow.frozenAt h j
theorem RowE.block {α : Type} {enc : α → List Value} {n : Nat} {W : World} {base : Nat} {T : TypeId} {g len cap : Nat} {l : List α} (h : RowE enc n W base T (.slice (some ⟨g, 0, none⟩) len cap) l) : base ≤ g ∧ g < W.heap.size := World.ownsRow.lt h g rfl
/-- The first m are met, the others not yet. -/
def metR (L : List Rc) (z : Rc) (m : Nat) : List Rc := (L.take m).map (fun r => meetR r z) ++ L.drop m
theorem metR_len (L : List Rc) (z : Rc) (m : Nat) (h : m ≤ L.length) : (metR L z m).length = L.length := by
  unfold metR
  rw [List.length_append, List.length_map, List.length_take, List.length_drop]
  omega
theorem metR_get (L : List Rc) (z : Rc) (m : Nat) (h : m < L.length) : (metR L z m)[m]'(by rw [metR_len L z m (by omega)]; exact h) = L[m] := by
  unfold metR
  rw [List.getElem_append_right (by rw [List.length_map, List.length_take]; omega)]
  simp only [List.length_map, List.length_take, List.getElem_drop]
  congr 1
  omega
theorem metR_set (L : List Rc) (z : Rc) (m : Nat) (h : m < L.length) : (metR L z m).set m (meetR L[m] z) = metR L z (m + 1) := by
  unfold metR
  have hl : ((L.take m).map (fun r => meetR r z)).length = m := by rw [List.length_map, List.length_take]; omega
  rw [List.set_append_right _ _ (by rw [hl]; exact Nat.le_refl _), hl, Nat.sub_self, List.drop_eq_getElem_cons h, List.set_cons_zero, List.take_succ_eq_append_getElem h, List.map_append, List.append_assoc]
  rfl
theorem metR_all (L : List Rc) (z : Rc) : metR L z L.length = L.map (fun r => meetR r z) := by
  unfold metR
  rw [List.take_length, List.drop_length, List.append_nil]
theorem metR_zero (L : List Rc) (z : Rc) : metR L z 0 = L := rfl
end Go.Proofs.Ytgnhamhkpbadbaa
