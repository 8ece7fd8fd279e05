/- tiling: at, tile. -/
import Derived.Test.YtbbnojfecmocgaaK06
import Derived.Test.YtbbnojfecmocgaaK25
namespace Go.Proofs.Ytbbnojfecmocgaa
open Go.RowKit
set_option linter.unusedVariables false
/-- What is there at a path. -/
def atP (k : Int) (p : PT) (pd pb : Int) : PT := if okP k pd pb = true ∧ (p.tow pd pb 0 0).2.1 = pd then (p.tow pd pb 0 0).1 else .gap
set_option maxRecDepth 100000 in
set_option maxHeartbeats 1600000 in
theorem at_atP {g : Nat} {p : PT} {k : Int} {w : World} (h : TilO g p k w) (pd pb : Int) : Calls Try.prog 101 #[.pointer (some ⟨g, 0, none⟩), .agg #[.int .i64 pd, .int .i64 pb]] w fun e w' => e = .returned ((atP k p pd pb).v) ∧ Below w.heap.size w w' := by
  have hz0 := h.box.lt
  obtain ⟨V0, hV0⟩ : ∃ V, p.v = V := ⟨_, rfl⟩
  have hbox := h.box
  rw [hV0] at hbox
  obtain ⟨w0, hw0⟩ : ∃ w0, w0 = w.alloc (.cells #[.int .i64 pd, .int .i64 pb] 35) := ⟨_, rfl⟩
  have hs0 : Since w w0 := by rw [hw0]; exact (Since.refl w).alloc _
  have wh0 : Whole w0 (w.heap.size) 35 #[.int .i64 pd, .int .i64 pb] := by rw [hw0]; exact Whole.new w _ _
  have HW := Lib.hid hw0
  have c0_0 := box_cell wh0 0 (.int .i64 pd) rfl
  have c0_1 := box_cell wh0 1 (.int .i64 pb) rfl
  have hsr := Since.refl w0
  have hsd := hsr.drew
  clear hw0
  have ck := box_cell (Since.whole hs0 hbox) 0 _ rfl
  have hO := h.since hs0
  cases hok : okP k pd pb with
  | false =>
    have e1 : atP k p pd pb = .gap := if_neg (by rw [hok]; simp)
    rw [e1]
    simp only [PT.v]
    have HOK := Lib.hid hok
    clear e1 hok
    go_enter Try.func101, Try.ntmps101
    go_wp2_with fail
    rw [← HW.out]
    go_region_held3 (fun W => Since w0 W) (first | assumption | exact Since.drew (by assumption)) ((first | (go_at_call 42; (with_reducible refine (Calls.since (by assumption) (right_at HOK.out _)).mono ?_); rintro e w1 ⟨rfl, hb1⟩)))
    go_wp2_with fail
    go_ret
    exact ⟨rfl, hs0.trans hb1⟩
  | true =>
    obtain ⟨s, ed, eb, htow, ha, _⟩ := PT.tow_spec pd pb p 0 0 (abv_root (okP_fine hok)) (by have := h.high; have := h.kb; omega)
    have e1 : atP k p pd pb = if ed = pd then s else .gap := by unfold atP; rw [hok, htow]; simp
    rw [e1]
    have hfin := okP_fine hok
    have HOK := Lib.hid hok
    have eeb := abv_eq ha
    clear e1 hok
    obtain ⟨V, hV⟩ : ∃ V, s.v = V := ⟨_, rfl⟩
    have ht : ∀ W, Since w0 W → Calls Try.prog 41 #[.pointer (some ⟨g, 0, none⟩), .agg #[.int .i64 pd, .int .i64 pb]] W fun e w' => e = .returned (.tuple #[V, .agg #[.int .i64 ed, .int .i64 eb]]) ∧ Below W.heap.size W w' := fun W hW => hV ▸ toward_tow (hO.since hW) pd pb hfin htow
    have HT := Lib.hid ht
    clear ht
    by_cases hd : ed = pd
    · obtain rfl := eeb hd
      subst hd
      rw [if_pos rfl, hV]
      go_enter Try.func101, Try.ntmps101
      go_wp2_with fail
      rw [← HW.out]
      go_region_held3 (fun W => Since w0 W) (first | assumption | exact Since.drew (by assumption)) ((first | (go_at_call 42; (with_reducible refine (Calls.since (by assumption) (right_at HOK.out _)).mono ?_); rintro e w1 ⟨rfl, hb1⟩)))
      go_wp2_with (go_at_call 41; (with_reducible refine (Calls.since (by assumption) (HT.out _ (by assumption))).mono ?_); rintro e w2 ⟨rfl, hb2⟩; have hb3 : Since w0 (w2.alloc (.cells #[.int .i64 ed, .int .i64 eb] 35)) := Since.alloc hb2 _)
      go_ret
      exact ⟨rfl, hs0.trans hb3⟩
    · have hd' : (ed == pd) = false := by simp; exact hd
      rw [if_neg hd]
      simp only [PT.v]
      go_enter Try.func101, Try.ntmps101
      go_wp2_with fail
      rw [← HW.out]
      go_region_held3 (fun W => Since w0 W) (first | assumption | exact Since.drew (by assumption)) ((first | (go_at_call 42; (with_reducible refine (Calls.since (by assumption) (right_at HOK.out _)).mono ?_); rintro e w1 ⟨rfl, hb1⟩)))
      go_wp2_with (go_at_call 41; (with_reducible refine (Calls.since (by assumption) (HT.out _ (by assumption))).mono ?_); rintro e w2 ⟨rfl, hb2⟩; have hb3 : Since w0 (w2.alloc (.cells #[.int .i64 ed, .int .i64 eb] 35)) := Since.alloc hb2 _)
      go_ret
      exact ⟨rfl, hs0.trans hb3⟩
theorem atP_sub (k : Int) (p : PT) (pd pb : Int) : atP k p pd pb = .gap ∨ ∃ e c, p.tow pd pb 0 0 = (atP k p pd pb, e, c) := by
  unfold atP
  split
  · exact .inr ⟨_, _, rfl⟩
  · exact .inl rfl
theorem atP_norm {k : Int} {p : PT} (h : p.tr.norm) (pd pb : Int) : (atP k p pd pb).tr.norm := by
  rcases atP_sub k p pd pb with e | ⟨_, _, e⟩
  · rw [e]; trivial
  · have := PT.tow_norm pd pb p 0 0 h
    rw [e] at this
    exact this
theorem PT.tow_at (pd pb : Int) {W : World} : ∀ (p : PT) (d b : Int), p.At W → (p.tow pd pb d b).1.At W
  | .gap, _, _, h => h
  | .leaf _ _, _, _, h => h
  | .node g z l r, d, b, h => by
    unfold PT.tow
    split
    · exact h
    · split
      · exact PT.tow_at pd pb l _ _ h.2.1
      · exact PT.tow_at pd pb r _ _ h.2.2
theorem atP_at {k : Int} {p : PT} {W : World} (h : p.At W) (pd pb : Int) : (atP k p pd pb).At W := by
  rcases atP_sub k p pd pb with e | ⟨_, _, e⟩
  · rw [e]; trivial
  · have := PT.tow_at pd pb p 0 0 h
    rw [e] at this
    exact this
theorem tat_at {g : Nat} {p q : PT} {k pd pb : Int} {w : World} (h : TilO g p k w) (e : atP k p pd pb = q) : Calls Try.prog 101 #[.pointer (some ⟨g, 0, none⟩), .agg #[.int .i64 pd, .int .i64 pb]] w fun e w' => e = .returned (q.v) ∧ Below w.heap.size w w' := e ▸ at_atP h pd pb
set_option maxRecDepth 100000 in
set_option maxHeartbeats 1600000 in
/-- tile: the tile of a path. -/
theorem tile_yes {g g2 : Nat} {p : PT} {k who pd pb : Int} {w : World} (h : TilO g p k w) (e : atP k p pd pb = .leaf g2 who) : Calls Try.prog 62 #[.pointer (some ⟨g, 0, none⟩), .agg #[.int .i64 pd, .int .i64 pb]] w fun e w' => e = .returned (.tuple #[.pointer (some ⟨g2, 0, none⟩), .int .i64 0]) ∧ Below w.heap.size w w' := by
  obtain ⟨w0, hw0⟩ : ∃ w0, w0 = w.alloc (.cells #[.int .i64 pd, .int .i64 pb] 35) := ⟨_, rfl⟩
  have hs0 : Since w w0 := by rw [hw0]; exact (Since.refl w).alloc _
  have wh0 : Whole w0 (w.heap.size) 35 #[.int .i64 pd, .int .i64 pb] := by rw [hw0]; exact Whole.new w _ _
  have HW := Lib.hid hw0
  have c0_0 := box_cell wh0 0 (.int .i64 pd) rfl
  have c0_1 := box_cell wh0 1 (.int .i64 pb) rfl
  have hsr := Since.refl w0
  have hsd := hsr.drew
  clear hw0
  have hO := h.since hs0
  have hm : ∀ W, Since w0 W → Calls Try.prog 39 #[.pointer (some ⟨g, 0, none⟩)] W fun e w' => e = .returned (.bool true) ∧ Below W.heap.size W w' := fun W hW => made_yes (hO.since hW)
  have ha : ∀ W, Since w0 W → Calls Try.prog 101 #[.pointer (some ⟨g, 0, none⟩), .agg #[.int .i64 pd, .int .i64 pb]] W fun e w' => e = .returned (.pointer (some ⟨g2, 0, none⟩)) ∧ Below W.heap.size W w' := fun W hW => tat_at (hO.since hW) e
  have hi : ∀ W, Since w0 W → Calls Try.prog 69 #[.pointer (some ⟨g2, 0, none⟩)] W fun e w' => e = .returned (.bool true) ∧ Below W.heap.size W w' := fun W hW => by
    have h1 := atP_at (k := k) (hO.since hW).at_ pd pb
    have h2 := atP_norm (k := k) hO.norm pd pb
    rw [e] at h1 h2
    exact isTile_any h1 h2
  have HM := Lib.hid hm
  have HA := Lib.hid ha
  have HI := Lib.hid hi
  clear hm ha hi hO e h
  go_enter Try.func62, Try.ntmps62
  go_wp2_with fail
  rw [← HW.out]
  go_wp2_with (first | (go_at_call 39; (with_reducible refine (Calls.since (by assumption) (HM.out _ (by assumption))).mono ?_); rintro e w1 ⟨rfl, hb1⟩) | (go_at_call 101; (with_reducible refine (Calls.since (by assumption) (HA.out _ (by assumption))).mono ?_); rintro e w2 ⟨rfl, hb2⟩) | (go_at_call 69; (with_reducible refine (Calls.since (by assumption) (HI.out _ (by assumption))).mono ?_); rintro e w3 ⟨rfl, hb3⟩))
  go_ret2
  exact ⟨rfl, hs0.trans hb3⟩
set_option maxRecDepth 100000 in
set_option maxHeartbeats 1600000 in
theorem tile_no {g : Nat} {p : PT} {k pd pb : Int} {w : World} (h : TilO g p k w) (e : (atP k p pd pb).isLeaf = false) : Calls Try.prog 62 #[.pointer (some ⟨g, 0, none⟩), .agg #[.int .i64 pd, .int .i64 pb]] w fun e w' => e = .returned (.tuple #[.pointer none, .int .i64 3]) ∧ Below w.heap.size w w' := by
  obtain ⟨w0, hw0⟩ : ∃ w0, w0 = w.alloc (.cells #[.int .i64 pd, .int .i64 pb] 35) := ⟨_, rfl⟩
  have hs0 : Since w w0 := by rw [hw0]; exact (Since.refl w).alloc _
  have wh0 : Whole w0 (w.heap.size) 35 #[.int .i64 pd, .int .i64 pb] := by rw [hw0]; exact Whole.new w _ _
  have HW := Lib.hid hw0
  have c0_0 := box_cell wh0 0 (.int .i64 pd) rfl
  have c0_1 := box_cell wh0 1 (.int .i64 pb) rfl
  have hsr := Since.refl w0
  have hsd := hsr.drew
  clear hw0
  have hO := h.since hs0
  obtain ⟨V, hV⟩ : ∃ V, (atP k p pd pb).v = V := ⟨_, rfl⟩
  have hm : ∀ W, Since w0 W → Calls Try.prog 39 #[.pointer (some ⟨g, 0, none⟩)] W fun e w' => e = .returned (.bool true) ∧ Below W.heap.size W w' := fun W hW => made_yes (hO.since hW)
  have ha : ∀ W, Since w0 W → Calls Try.prog 101 #[.pointer (some ⟨g, 0, none⟩), .agg #[.int .i64 pd, .int .i64 pb]] W fun e w' => e = .returned (V) ∧ Below W.heap.size W w' := fun W hW => hV ▸ at_atP (hO.since hW) pd pb
  have hi : ∀ W, Since w0 W → Calls Try.prog 69 #[V] W fun e w' => e = .returned (.bool false) ∧ Below W.heap.size W w' := fun W hW => hV ▸ isTile_at (atP_at (k := k) (hO.since hW).at_ pd pb) (atP_norm (k := k) hO.norm pd pb) e
  have HM := Lib.hid hm
  have HA := Lib.hid ha
  have HI := Lib.hid hi
  clear hm ha hi hO e h hV
  go_enter Try.func62, Try.ntmps62
  go_wp2_with fail
  rw [← HW.out]
  go_wp2_with (first | (go_at_call 39; (with_reducible refine (Calls.since (by assumption) (HM.out _ (by assumption))).mono ?_); rintro e w1 ⟨rfl, hb1⟩) | (go_at_call 101; (with_reducible refine (Calls.since (by assumption) (HA.out _ (by assumption))).mono ?_); rintro e w2 ⟨rfl, hb2⟩) | (go_at_call 69; (with_reducible refine (Calls.since (by assumption) (HI.out _ (by assumption))).mono ?_); rintro e w3 ⟨rfl, hb3⟩))
  go_ret2
  exact ⟨rfl, hs0.trans hb3⟩
end Go.Proofs.Ytbbnojfecmocgaa
