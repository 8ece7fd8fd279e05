/- tiling: no tiling, and one that nobody made; the law TilingNil. -/
import Derived.Test.YtdbacinaffdkaaaGTilP
import Derived.Test.YtdbacinaffdkaaaGKnows
namespace Go.Proofs.Ytdbacinaffdkaaa
open Go.RowKit
set_option linter.unusedVariables false
/-- No tiling, or one that nobody made. -/
def Unm (W : World) (v : Value) : Prop := v = .pointer none ∨ ∃ g, v = .pointer (some ⟨g, 0, none⟩) ∧ Whole W g 69 #[.int .i64 0, .pointer none, .int .i64 0]
theorem Unm.since {W W' : World} {v : Value} (h : Unm W v) (hs : Since W W') : Unm W' v := h.imp id (fun ⟨g, e, hw⟩ => ⟨g, e, Since.whole hs hw⟩)
set_option maxRecDepth 100000 in
theorem unm_made {W : World} {v : Value} (h : Unm W v) : Calls Try.prog 43 #[v] W fun e w' => e = .returned (.bool false) ∧ Below W.heap.size W w' := by
  rcases h with rfl | ⟨g, rfl, hw⟩
  · exact made_nil W
  · have h0 := hw.cell 0
    go_enter Try.func43, Try.ntmps43
    go_wp2
    go_ret
    exact ⟨rfl, Below.refl _ _⟩
set_option maxRecDepth 100000 in
theorem unm_tile {w : World} {v : Value} (h : Unm w v) (d b : Int) : Calls Try.prog 44 #[v, .agg #[.int .i64 d, .int .i64 b]] w fun e w' => e = .returned (.tuple #[.pointer none, .int .i64 1]) ∧ Below w.heap.size w w' := by
  obtain ⟨w0, hw0⟩ : ∃ w0, w0 = w.alloc (.cells #[.int .i64 d, .int .i64 b] 27) := ⟨_, rfl⟩
  have hs0 : Since w w0 := by rw [hw0]; exact (Since.refl w).alloc _
  have wh0 : Whole w0 (w.heap.size) 27 #[.int .i64 d, .int .i64 b] := by rw [hw0]; exact Whole.new w _ _
  have HW := Lib.hid hw0
  have c0_0 := box_cell wh0 0 (.int .i64 d) rfl
  have c0_1 := box_cell wh0 1 (.int .i64 b) rfl
  have hsr := Since.refl w0
  have hsd := hsr.drew
  clear hw0 wh0
  have HM := Lib.hid (fun W (hW : Since w0 W) => unm_made (h.since (hs0.trans hW)))
  go_enter Try.func44, Try.ntmps44
  go_wp2_with fail
  rw [← HW.out]
  go_wp2_with (go_at_call 43; (with_reducible refine (Calls.since (by assumption) (HM.out _ (by assumption))).mono ?_); rintro e w1 ⟨rfl, hb1⟩)
  go_ret2
  exact ⟨rfl, hs0.trans (by assumption)⟩
set_option maxRecDepth 100000 in
theorem unm_drop {w : World} {v : Value} (h : Unm w v) (d b : Int) : Calls Try.prog 15 #[v, .agg #[.int .i64 d, .int .i64 b]] w fun e w' => e = .returned (.int .i64 1) ∧ Below w.heap.size w w' := by
  obtain ⟨w0, hw0⟩ : ∃ w0, w0 = w.alloc (.cells #[.int .i64 d, .int .i64 b] 27) := ⟨_, rfl⟩
  have hs0 : Since w w0 := by rw [hw0]; exact (Since.refl w).alloc _
  have wh0 : Whole w0 (w.heap.size) 27 #[.int .i64 d, .int .i64 b] := by rw [hw0]; exact Whole.new w _ _
  have HW := Lib.hid hw0
  have c0_0 := box_cell wh0 0 (.int .i64 d) rfl
  have c0_1 := box_cell wh0 1 (.int .i64 b) rfl
  have hsr := Since.refl w0
  have hsd := hsr.drew
  clear hw0 wh0
  have HM := Lib.hid (fun W (hW : Since w0 W) => unm_tile (h.since (hs0.trans hW)) d b)
  go_enter Try.func15, Try.ntmps15
  go_wp2_with fail
  rw [← HW.out]
  go_wp2_with (go_at_call 44; (with_reducible refine (Calls.since (by assumption) (HM.out _ (by assumption))).mono ?_); rintro e w1 ⟨rfl, hb1⟩)
  go_ret
  exact ⟨rfl, hs0.trans (by assumption)⟩
set_option maxRecDepth 100000 in
theorem unm_split {w : World} {v : Value} (h : Unm w v) (d b who : Int) : Calls Try.prog 14 #[v, .agg #[.int .i64 d, .int .i64 b], .int .i64 who] w fun e w' => e = .returned (.int .i64 1) ∧ Below w.heap.size w w' := by
  obtain ⟨w0, hw0⟩ : ∃ w0, w0 = w.alloc (.cells #[.int .i64 d, .int .i64 b] 27) := ⟨_, rfl⟩
  have hs0 : Since w w0 := by rw [hw0]; exact (Since.refl w).alloc _
  have wh0 : Whole w0 (w.heap.size) 27 #[.int .i64 d, .int .i64 b] := by rw [hw0]; exact Whole.new w _ _
  have HW := Lib.hid hw0
  have c0_0 := box_cell wh0 0 (.int .i64 d) rfl
  have c0_1 := box_cell wh0 1 (.int .i64 b) rfl
  have hsr := Since.refl w0
  have hsd := hsr.drew
  clear hw0 wh0
  have HM := Lib.hid (fun W (hW : Since w0 W) => unm_tile (h.since (hs0.trans hW)) d b)
  go_enter Try.func14, Try.ntmps14
  go_wp2_with fail
  rw [← HW.out]
  go_wp2_with (go_at_call 44; (with_reducible refine (Calls.since (by assumption) (HM.out _ (by assumption))).mono ?_); rintro e w1 ⟨rfl, hb1⟩)
  go_ret
  exact ⟨rfl, hs0.trans (by assumption)⟩
set_option maxRecDepth 100000 in
theorem unm_give {w : World} {v : Value} (h : Unm w v) (d b who : Int) : Calls Try.prog 31 #[v, .agg #[.int .i64 d, .int .i64 b], .int .i64 who] w fun e w' => e = .returned (.int .i64 1) ∧ Below w.heap.size w w' := by
  obtain ⟨w0, hw0⟩ : ∃ w0, w0 = w.alloc (.cells #[.int .i64 d, .int .i64 b] 27) := ⟨_, rfl⟩
  have hs0 : Since w w0 := by rw [hw0]; exact (Since.refl w).alloc _
  have wh0 : Whole w0 (w.heap.size) 27 #[.int .i64 d, .int .i64 b] := by rw [hw0]; exact Whole.new w _ _
  have HW := Lib.hid hw0
  have c0_0 := box_cell wh0 0 (.int .i64 d) rfl
  have c0_1 := box_cell wh0 1 (.int .i64 b) rfl
  have hsr := Since.refl w0
  have hsd := hsr.drew
  clear hw0 wh0
  have HM := Lib.hid (fun W (hW : Since w0 W) => unm_tile (h.since (hs0.trans hW)) d b)
  go_enter Try.func31, Try.ntmps31
  go_wp2_with fail
  rw [← HW.out]
  go_wp2_with (go_at_call 44; (with_reducible refine (Calls.since (by assumption) (HM.out _ (by assumption))).mono ?_); rintro e w1 ⟨rfl, hb1⟩)
  go_ret
  exact ⟨rfl, hs0.trans (by assumption)⟩
set_option maxRecDepth 100000 in
theorem unm_merge {w : World} {v : Value} (h : Unm w v) (d b : Int) : Calls Try.prog 30 #[v, .agg #[.int .i64 d, .int .i64 b]] w fun e w' => e = .returned (.int .i64 1) ∧ Below w.heap.size w w' := by
  obtain ⟨w0, hw0⟩ : ∃ w0, w0 = w.alloc (.cells #[.int .i64 d, .int .i64 b] 27) := ⟨_, rfl⟩
  have hs0 : Since w w0 := by rw [hw0]; exact (Since.refl w).alloc _
  have wh0 : Whole w0 (w.heap.size) 27 #[.int .i64 d, .int .i64 b] := by rw [hw0]; exact Whole.new w _ _
  have HW := Lib.hid hw0
  have c0_0 := box_cell wh0 0 (.int .i64 d) rfl
  have c0_1 := box_cell wh0 1 (.int .i64 b) rfl
  have hsr := Since.refl w0
  have hsd := hsr.drew
  clear hw0 wh0
  have HM := Lib.hid (fun W (hW : Since w0 W) => unm_made (h.since (hs0.trans hW)))
  go_enter Try.func30, Try.ntmps30
  go_wp2_with fail
  rw [← HW.out]
  go_wp2_with (go_at_call 43; (with_reducible refine (Calls.since (by assumption) (HM.out _ (by assumption))).mono ?_); rintro e w1 ⟨rfl, hb1⟩)
  go_ret
  exact ⟨rfl, hs0.trans (by assumption)⟩
set_option maxRecDepth 100000 in
set_option maxHeartbeats 1600000 in
theorem unm_add {w : World} {v : Value} (h : Unm w v) (d b who : Int) : Calls Try.prog 29 #[v, .agg #[.int .i64 d, .int .i64 b, .int .i64 who]] w fun e w' => e = .returned (.int .i64 1) ∧ Below w.heap.size w w' := by
  obtain ⟨w0, hw0⟩ : ∃ w0, w0 = w.alloc (.cells #[.int .i64 d, .int .i64 b, .int .i64 who] 50) := ⟨_, rfl⟩
  have hs0 : Since w w0 := by rw [hw0]; exact (Since.refl w).alloc _
  have wh0 : Whole w0 (w.heap.size) 50 #[.int .i64 d, .int .i64 b, .int .i64 who] := by rw [hw0]; exact Whole.new w _ _
  have HW := Lib.hid hw0
  have c0_0 := box_cell wh0 0 (.int .i64 d) rfl
  have c0_1 := box_cell wh0 1 (.int .i64 b) rfl
  have c0_2 := box_cell wh0 2 (.int .i64 who) rfl
  have hsr := Since.refl w0
  have hsd := hsr.drew
  clear hw0 wh0
  have HM := Lib.hid (fun W (hW : Since w0 W) => unm_made (h.since (hs0.trans hW)))
  go_enter Try.func29, Try.ntmps29
  go_wp2_with fail
  rw [← HW.out]
  refine wp_region_held_drew (S := fun W => Since w0 W) (by kernel_rfl) hsd (fun hHeld => ?_)
  refine wpAnyH_take (i := 0) (v := ?_) rfl (by kernel_rfl) (by kernel_rfl) (by kernel_rfl) (fun _ _ _ h => h) (Or.inl ⟨by rfl, ?_⟩) (by assumption) ?_
  rotate_left 1
  · (intro W hW; clear hW; go_simp; try with_reducible rfl)
  simp only [Act.put, List.getElem_toArray, List.getElem_cons_zero, List.setIfInBounds_toArray, List.set_cons_zero, List.set_cons_succ]
  refine wpAnyH_ready (rs := [1]) (by kernel_rfl) (by simp) ?_
  refine AllReadyH.cons rfl (fun K hK => ?_) AllReadyH.nil
  go_simp
  refine (Calls.since hHeld (HM.out _ hHeld)).mono ?_
  rintro e w1 ⟨rfl, hb1⟩
  go_wp2_with fail
  refine hK.out _ _ (hb1) (fun hHeld => ?_)
  clear hK K
  try simp only [Act.put, List.getElem_toArray, List.getElem_cons_succ, List.getElem_cons_zero, List.setIfInBounds_toArray, List.set_cons_zero, List.set_cons_succ]
  refine wpAnyH_take (i := 2) (v := ?_) rfl (by kernel_rfl) (by kernel_rfl) (by kernel_rfl) (fun _ _ _ h => h) (Or.inl ⟨by rfl, ?_⟩) (by assumption) ?_
  rotate_left 1
  · (intro W hW; clear hW; go_simp; try with_reducible rfl)
  simp only [Act.put, List.getElem_toArray, List.getElem_cons_succ, List.getElem_cons_zero, List.setIfInBounds_toArray, List.set_cons_zero, List.set_cons_succ]
  refine wpAnyH_take (i := 3) (v := ?_) rfl (by kernel_rfl) (by kernel_rfl) (by kernel_rfl) (fun _ _ _ h => h) (Or.inl ⟨by rfl, ?_⟩) (by assumption) ?_
  rotate_left 1
  · (intro W hW; clear hW; go_simp; try with_reducible rfl)
  simp only [Act.put, List.getElem_toArray, List.getElem_cons_succ, List.getElem_cons_zero, List.setIfInBounds_toArray, List.set_cons_zero, List.set_cons_succ]
  refine wpAnyH_take (i := 4) (v := undef) rfl (by kernel_rfl) (by kernel_rfl) (by kernel_rfl) (fun _ _ _ h => h) (Or.inr ⟨by rfl, rfl⟩) (by assumption) ?_
  simp only [Act.put, List.getElem_toArray, List.getElem_cons_succ, List.getElem_cons_zero, List.setIfInBounds_toArray, List.set_cons_zero, List.set_cons_succ]
  refine wpAnyH_take (i := 5) (v := undef) rfl (by kernel_rfl) (by kernel_rfl) (by kernel_rfl) (fun _ _ _ h => h) (Or.inr ⟨by rfl, rfl⟩) (by assumption) ?_
  simp only [Act.put, List.getElem_toArray, List.getElem_cons_succ, List.getElem_cons_zero, List.setIfInBounds_toArray, List.set_cons_zero, List.set_cons_succ]
  refine wpAnyH_take (i := 6) (v := undef) rfl (by kernel_rfl) (by kernel_rfl) (by kernel_rfl) (fun _ _ _ h => h) (Or.inr ⟨by rfl, rfl⟩) (by assumption) ?_
  simp only [Act.put, List.getElem_toArray, List.getElem_cons_succ, List.getElem_cons_zero, List.setIfInBounds_toArray, List.set_cons_zero, List.set_cons_succ]
  refine wpAnyH_take (i := 7) (v := undef) rfl (by kernel_rfl) (by kernel_rfl) (by kernel_rfl) (fun _ _ _ h => h) (Or.inr ⟨by rfl, rfl⟩) (by assumption) ?_
  simp only [Act.put, List.getElem_toArray, List.getElem_cons_succ, List.getElem_cons_zero, List.setIfInBounds_toArray, List.set_cons_zero, List.set_cons_succ]
  refine wpAnyH_take (i := 8) (v := undef) rfl (by kernel_rfl) (by kernel_rfl) (by kernel_rfl) (fun _ _ _ h => h) (Or.inr ⟨by rfl, rfl⟩) (by assumption) ?_
  simp only [Act.put, List.getElem_toArray, List.getElem_cons_succ, List.getElem_cons_zero, List.setIfInBounds_toArray, List.set_cons_zero, List.set_cons_succ]
  refine wpAnyH_take (i := 9) (v := undef) rfl (by kernel_rfl) (by kernel_rfl) (by kernel_rfl) (fun _ _ _ h => h) (Or.inr ⟨by rfl, rfl⟩) (by assumption) ?_
  simp only [Act.put, List.getElem_toArray, List.getElem_cons_succ, List.getElem_cons_zero, List.setIfInBounds_toArray, List.set_cons_zero, List.set_cons_succ]
  refine wpAnyH_take (i := 10) (v := undef) rfl (by kernel_rfl) (by kernel_rfl) (by kernel_rfl) (fun _ _ _ h => h) (Or.inr ⟨by rfl, rfl⟩) (by assumption) ?_
  simp only [Act.put, List.getElem_toArray, List.getElem_cons_succ, List.getElem_cons_zero, List.setIfInBounds_toArray, List.set_cons_zero, List.set_cons_succ]
  refine wpAnyH_take (i := 11) (v := undef) rfl (by kernel_rfl) (by kernel_rfl) (by kernel_rfl) (fun _ _ _ h => h) (Or.inr ⟨by rfl, rfl⟩) (by assumption) ?_
  simp only [Act.put, List.getElem_toArray, List.getElem_cons_succ, List.getElem_cons_zero, List.setIfInBounds_toArray, List.set_cons_zero, List.set_cons_succ]
  refine wpAnyH_take (i := 12) (v := undef) rfl (by kernel_rfl) (by kernel_rfl) (by kernel_rfl) (fun _ _ _ h => h) (Or.inr ⟨by rfl, rfl⟩) (by assumption) ?_
  simp only [Act.put, List.getElem_toArray, List.getElem_cons_succ, List.getElem_cons_zero, List.setIfInBounds_toArray, List.set_cons_zero, List.set_cons_succ]
  refine wpAnyH_take (i := 13) (v := ?_) rfl (by kernel_rfl) (by kernel_rfl) (by kernel_rfl) (fun _ _ _ h => h) (Or.inl ⟨by rfl, ?_⟩) (by assumption) ?_
  rotate_left 1
  · (intro W hW; clear hW; go_simp; try with_reducible rfl)
  simp only [Act.put, List.getElem_toArray, List.getElem_cons_succ, List.getElem_cons_zero, List.setIfInBounds_toArray, List.set_cons_zero, List.set_cons_succ]
  refine wpAnyH_done (by kernel_rfl) ?_ _
  go_wp2_with fail
  go_ret
  exact ⟨rfl, hs0.trans hb1⟩
set_option maxRecDepth 100000 in
theorem unm_under {w : World} {v : Value} (h : Unm w v) (d b : Int) : Calls Try.prog 23 #[v, .agg #[.int .i64 d, .int .i64 b]] w fun e w' => e = .returned (.slice none 0 0) ∧ Below w.heap.size w w' := by
  obtain ⟨w0, hw0⟩ : ∃ w0, w0 = w.alloc (.cells #[.int .i64 d, .int .i64 b] 27) := ⟨_, rfl⟩
  have hs0 : Since w w0 := by rw [hw0]; exact (Since.refl w).alloc _
  have wh0 : Whole w0 (w.heap.size) 27 #[.int .i64 d, .int .i64 b] := by rw [hw0]; exact Whole.new w _ _
  have HW := Lib.hid hw0
  have c0_0 := box_cell wh0 0 (.int .i64 d) rfl
  have c0_1 := box_cell wh0 1 (.int .i64 b) rfl
  have hsr := Since.refl w0
  have hsd := hsr.drew
  clear hw0 wh0
  have HM := Lib.hid (fun W (hW : Since w0 W) => unm_made (h.since (hs0.trans hW)))
  go_enter Try.func23, Try.ntmps23
  go_wp2_with fail
  rw [← HW.out]
  go_wp2_with (go_at_call 43; (with_reducible refine (Calls.since (by assumption) (HM.out _ (by assumption))).mono ?_); rintro e w1 ⟨rfl, hb1⟩)
  go_ret
  exact ⟨rfl, hs0.trans (by assumption)⟩
set_option maxRecDepth 100000 in
theorem unm_list {w : World} {v : Value} (h : Unm w v) : Calls Try.prog 18 #[v] w fun e w' => e = .returned (.slice none 0 0) ∧ Below w.heap.size w w' := by
  have HM := Lib.hid (unm_under h 0 0)
  go_enter Try.func18, Try.ntmps18
  go_wp2_with (go_at_call 23; (with_reducible refine HM.out.mono ?_); rintro e w1 ⟨rfl, hb1⟩)
  go_ret
  exact ⟨rfl, hb1⟩
set_option maxRecDepth 100000 in
theorem unm_gaps {w : World} {v : Value} (h : Unm w v) : Calls Try.prog 26 #[v] w fun e w' => e = .returned (.slice none 0 0) ∧ Below w.heap.size w w' := by
  have HM := Lib.hid (unm_made h)
  go_enter Try.func26, Try.ntmps26
  go_wp2_with (go_at_call 43; (with_reducible refine HM.out.mono ?_); rintro e w1 ⟨rfl, hb1⟩)
  go_ret
  exact ⟨rfl, hb1⟩
set_option maxRecDepth 100000 in
theorem unm_clone {w : World} {v : Value} (h : Unm w v) : Calls Try.prog 13 #[v] w fun e w' => e = .returned (.pointer none) ∧ Below w.heap.size w w' := by
  have HM := Lib.hid (unm_made h)
  go_enter Try.func13, Try.ntmps13
  go_wp2_with (go_at_call 43; (with_reducible refine HM.out.mono ?_); rintro e w1 ⟨rfl, hb1⟩)
  go_ret
  exact ⟨rfl, hb1⟩
set_option maxRecDepth 100000 in
set_option maxHeartbeats 1600000 in
theorem unm_find {w : World} {v : Value} (h : Unm w v) (x y : Int) : Calls Try.prog 19 #[v, .agg #[.int .i64 x, .int .i64 y]] w fun e w' => e = .returned (.tuple #[.agg #[.int .i64 0, .int .i64 0, .int .i64 0], .bool false]) ∧ Below w.heap.size w w' := by
  obtain ⟨w0, hw0⟩ : ∃ w0, w0 = (w.alloc (.cells #[.int .i64 x, .int .i64 y] 25)).alloc (.cells #[.int .i64 0, .int .i64 0, .int .i64 0] 50) := ⟨_, rfl⟩
  have hs0 : Since w w0 := by rw [hw0]; exact ((Since.refl w).alloc _).alloc _
  have wh0 : Whole w0 (w.heap.size) 25 #[.int .i64 x, .int .i64 y] := by rw [hw0]; exact (Whole.new w _ _).alloc _
  have wh1 : Whole w0 (w.heap.size + 1) 50 #[.int .i64 0, .int .i64 0, .int .i64 0] := by rw [hw0]; exact (Whole.new (w.alloc _) _ _).at_ (by simp)
  have HW := Lib.hid hw0
  have c0_0 := box_cell wh0 0 (.int .i64 x) rfl
  have c0_1 := box_cell wh0 1 (.int .i64 y) rfl
  have c1_0 := box_cell wh1 0 (.int .i64 0) rfl
  have f1_0 := box_free wh1 0
  have c1_1 := box_cell wh1 1 (.int .i64 0) rfl
  have f1_1 := box_free wh1 1
  have c1_2 := box_cell wh1 2 (.int .i64 0) rfl
  have f1_2 := box_free wh1 2
  have hsr := Since.refl w0
  have hsd := hsr.drew
  clear hw0
  have HM := Lib.hid (fun W (hW : Since w0 W) => unm_made (h.since (hs0.trans hW)))
  go_enter Try.func19, Try.ntmps19
  go_wp2_with fail
  rw [← HW.out]
  go_wp2_with (go_at_call 43; (with_reducible refine (Calls.since (by assumption) (HM.out _ (by assumption))).mono ?_); rintro e w1 ⟨rfl, hb1⟩)
  have u := (((Since.whole hb1 wh1).set_ 0 (.int .i64 0)).set_ 1 (.int .i64 0)).set_ 2 (.int .i64 0)
  have u0 := u.cell 0
  have u1 := u.cell 1
  have u2 := u.cell 2
  exact bodyPost_ret (v := .tuple #[.agg #[.int .i64 0, .int .i64 0, .int .i64 0], .bool false]) (by simp [results, Try.results19, go_sem, u0, u1, u2]) rfl ⟨rfl, Below.setCell (Below.setCell (Below.setCell (hs0.trans hb1) (by simp) _) (by simp) _) (by simp) _⟩
set_option maxRecDepth 100000 in
set_option maxHeartbeats 1600000 in
theorem unm_deep {w : World} {v : Value} (h : Unm w v) : Calls Try.prog 21 #[v] w fun e w' => e = .returned (.tuple #[.agg #[.int .i64 0, .int .i64 0], .bool false]) ∧ Below w.heap.size w w' := by
  obtain ⟨w0, hw0⟩ : ∃ w0, w0 = w.alloc (.cells #[.int .i64 0, .int .i64 0] 27) := ⟨_, rfl⟩
  have hs0 : Since w w0 := by rw [hw0]; exact (Since.refl w).alloc _
  have wh0 : Whole w0 (w.heap.size) 27 #[.int .i64 0, .int .i64 0] := by rw [hw0]; exact Whole.new w _ _
  have HW := Lib.hid hw0
  have c0_0 := box_cell wh0 0 (.int .i64 0) rfl
  have f0_0 := box_free wh0 0
  have c0_1 := box_cell wh0 1 (.int .i64 0) rfl
  have f0_1 := box_free wh0 1
  have hsr := Since.refl w0
  have hsd := hsr.drew
  clear hw0
  have HM := Lib.hid (fun W (hW : Since w0 W) => unm_made (h.since (hs0.trans hW)))
  go_enter Try.func21, Try.ntmps21
  go_wp2_with fail
  rw [← HW.out]
  go_wp2_with (go_at_call 43; (with_reducible refine (Calls.since (by assumption) (HM.out _ (by assumption))).mono ?_); rintro e w1 ⟨rfl, hb1⟩)
  have u := ((Since.whole hb1 wh0).set_ 0 (.int .i64 0)).set_ 1 (.int .i64 0)
  have u0 := u.cell 0
  have u1 := u.cell 1
  exact bodyPost_ret (v := .tuple #[.agg #[.int .i64 0, .int .i64 0], .bool false]) (by simp [results, Try.results21, go_sem, u0, u1]) rfl ⟨rfl, Below.setCell (Below.setCell (hs0.trans hb1) (by simp) _) (by simp) _⟩
set_option maxRecDepth 100000 in
set_option maxHeartbeats 1600000 in
theorem unm_whole {w : World} {v : Value} (h : Unm w v) : Calls Try.prog 28 #[v] w fun e w' => e = .returned (.bool false) ∧ Below w.heap.size w w' := by
  obtain ⟨w0, hw0⟩ : ∃ w0, w0 = w.alloc (.cells #[.bool false] 4) := ⟨_, rfl⟩
  have hs0 : Since w w0 := by rw [hw0]; exact (Since.refl w).alloc _
  have wh0 : Whole w0 (w.heap.size) 4 #[.bool false] := by rw [hw0]; exact Whole.new w _ _
  have HW := Lib.hid hw0
  have c0_0 := box_cell wh0 0 (.bool false) rfl
  have f0_0 := box_free wh0 0
  have hsr := Since.refl w0
  have hsd := hsr.drew
  clear hw0
  have HM := Lib.hid (fun W (hW : Since w0 W) => unm_made (h.since (hs0.trans hW)))
  go_enter Try.func28, Try.ntmps28
  go_wp2_with fail
  rw [← HW.out]
  go_wp2_with (go_at_call 43; (with_reducible refine (Calls.since (by assumption) (HM.out _ (by assumption))).mono ?_); rintro e w1 ⟨rfl, hb1⟩)
  have u := (Since.whole hb1 wh0).set_ 0 (.bool false)
  have u0 := u.cell 0
  exact bodyPost_ret (v := .bool false) (by simp [results, Try.results28, go_sem, u0]) rfl ⟨rfl, Below.setCell (hs0.trans hb1) (by simp) _⟩
set_option maxRecDepth 100000 in
set_option maxHeartbeats 6400000 in
theorem tnil_walk (kind d b who x y : Int) (w : World) : Calls Try.prog 4 #[.agg #[.int .i64 kind, .int .i64 d, .int .i64 b, .int .i64 who], .agg #[.int .i64 x, .int .i64 y]] w fun e w' => e = .returned (.bool true) ∧ Below w.heap.size w w' := by
  obtain ⟨w0, hw0⟩ : ∃ w0, w0 = (w.alloc (.cells #[.int .i64 kind, .int .i64 d, .int .i64 b, .int .i64 who] 40)).alloc (.cells #[.int .i64 x, .int .i64 y] 25) := ⟨_, rfl⟩
  have hs0 : Since w w0 := by rw [hw0]; exact ((Since.refl w).alloc _).alloc _
  have wh0 : Whole w0 (w.heap.size) 40 #[.int .i64 kind, .int .i64 d, .int .i64 b, .int .i64 who] := by rw [hw0]; exact (Whole.new w _ _).alloc _
  have wh1 : Whole w0 (w.heap.size + 1) 25 #[.int .i64 x, .int .i64 y] := by rw [hw0]; exact (Whole.new (w.alloc _) _ _).at_ (by simp)
  have HW := Lib.hid hw0
  have c0_0 := box_cell wh0 0 (.int .i64 kind) rfl
  have c0_1 := box_cell wh0 1 (.int .i64 d) rfl
  have c0_2 := box_cell wh0 2 (.int .i64 b) rfl
  have c0_3 := box_cell wh0 3 (.int .i64 who) rfl
  have c1_0 := box_cell wh1 0 (.int .i64 x) rfl
  have c1_1 := box_cell wh1 1 (.int .i64 y) rfl
  have hsr := Since.refl w0
  have hsd := hsr.drew
  clear hw0 wh0 wh1
  have hz : IntKind.i64.wrap 0 = 0 := by decide
  have hz2 : wrap64 0 = 0 := IntWalk.wrap64_in _ ⟨by omega, by omega⟩
  have hz3 : wrap64 (0 + 0) = 0 := IntWalk.wrap64_in _ ⟨by omega, by omega⟩
  go_enter Try.func4, Try.ntmps4
  go_wp2_with fail
  rw [← HW.out]
  go_loopw [5, 6] (fun v i wr => ∃ j : Nat, i = .int .i64 (j : Int) ∧ j ≤ 2 ∧ Unm wr v ∧ Since w0 wr) (fun _ i _ => 2 - (intOf i).toNat)
  case atStart => exact ⟨0, rfl, by omega, .inl rfl, Since.refl _⟩
  case round =>
    obtain ⟨j, rfl, hj, hu, hb⟩ := hrel
    by_cases hlt : j < 2
    rotate_left
    · obtain rfl : j = 2 := by omega
      have hkn := Lib.hid (knows5 tilP)
      go_wp2_with (go_at_call 8; (with_reducible refine (hkn.out _).mono ?_); rintro e w1 ⟨rfl, hb1⟩)
      go_ret
      exact ⟨rfl, (hs0.trans hb).trans hb1⟩
    · have d1 : decide ((j : Int) < 2) = true := decide_eq_true (by omega)
      have hrb : Since wr wr := Since.refl wr
      have HB := Lib.hid hb
      have b0 : ∀ W, Since wr W → W.cell? ⟨w.heap.size, 1, none⟩ = some (.int .i64 d) := fun W h => c0_1 W (HB.out.trans h)
      have b1 : ∀ W, Since wr W → W.cell? ⟨w.heap.size, 2, none⟩ = some (.int .i64 b) := fun W h => c0_2 W (HB.out.trans h)
      have b2 : ∀ W, Since wr W → W.cell? ⟨w.heap.size + 1, 0, none⟩ = some (.int .i64 x) := fun W h => c1_0 W (HB.out.trans h)
      have b3 : ∀ W, Since wr W → W.cell? ⟨w.heap.size + 1, 1, none⟩ = some (.int .i64 y) := fun W h => c1_1 W (HB.out.trans h)
      have HU0 := Lib.hid (fun W (hW : Since wr W) => unm_find (hu.since hW) x y)
      have HUD := Lib.hid (fun W (hW : Since wr W) => unm_deep (hu.since hW))
      have HU1 := Lib.hid (fun W (hW : Since wr W) => unm_add (hu.since hW) d b 0)
      have HU2 := Lib.hid (fun W (hW : Since wr W) => unm_drop (hu.since hW) d b)
      have HU3 := Lib.hid (fun W (hW : Since wr W) => unm_split (hu.since hW) d b 1)
      have HU4 := Lib.hid (fun W (hW : Since wr W) => unm_merge (hu.since hW) d b)
      have HU5 := Lib.hid (fun W (hW : Since wr W) => unm_give (hu.since hW) d b 1)
      have HU6 := Lib.hid (fun W (hW : Since wr W) => unm_under (hu.since hW) d b)
      have HU7 := Lib.hid (fun W (hW : Since wr W) => unm_list (hu.since hW))
      have HU8 := Lib.hid (fun W (hW : Since wr W) => unm_gaps (hu.since hW))
      have HU9 := Lib.hid (fun W (hW : Since wr W) => unm_whole (hu.since hW))
      have HUA := Lib.hid (fun W (hW : Since wr W) => unm_clone (hu.since hW))
      have HS0 := Lib.hid hs0
      clear hb hu c0_0 c0_1 c0_2 c0_3 c1_0 c1_1 hs0 hsr hsd
      go_wp2_with (first
        | (go_at_call 19; (with_reducible refine (Calls.since (by assumption) (HU0.out _ (by assumption))).mono ?_); rintro e y1 ⟨rfl, hy1⟩; have hy1' : Since wr (y1.alloc (.cells #[.int .i64 0, .int .i64 0, .int .i64 0] 50)) := Since.alloc hy1 _)
        | (go_at_call 21; (with_reducible refine (Calls.since (by assumption) (HUD.out _ (by assumption))).mono ?_); rintro e y2 ⟨rfl, hy2⟩; have hy2' : Since wr (y2.alloc (.cells #[.int .i64 0, .int .i64 0] 27)) := Since.alloc hy2 _)
        | (first | (go_at_call 29; (with_reducible refine (Calls.since (by assumption) (HU1.out _ (by assumption))).mono ?_); rintro e z1 ⟨rfl, hz1⟩) | (go_at_call 15; (with_reducible refine (Calls.since (by assumption) (HU2.out _ (by assumption))).mono ?_); rintro e z2 ⟨rfl, hz2⟩) | (go_at_call 14; (with_reducible refine (Calls.since (by assumption) (HU3.out _ (by assumption))).mono ?_); rintro e z3 ⟨rfl, hz3⟩) | (go_at_call 30; (with_reducible refine (Calls.since (by assumption) (HU4.out _ (by assumption))).mono ?_); rintro e z4 ⟨rfl, hz4⟩) | (go_at_call 31; (with_reducible refine (Calls.since (by assumption) (HU5.out _ (by assumption))).mono ?_); rintro e z5 ⟨rfl, hz5⟩) | (go_at_call 23; (with_reducible refine (Calls.since (by assumption) (HU6.out _ (by assumption))).mono ?_); rintro e z6 ⟨rfl, hz6⟩) | (go_at_call 18; (with_reducible refine (Calls.since (by assumption) (HU7.out _ (by assumption))).mono ?_); rintro e z7 ⟨rfl, hz7⟩) | (go_at_call 26; (with_reducible refine (Calls.since (by assumption) (HU8.out _ (by assumption))).mono ?_); rintro e z8 ⟨rfl, hz8⟩) | (go_at_call 28; (with_reducible refine (Calls.since (by assumption) (HU9.out _ (by assumption))).mono ?_); rintro e z9 ⟨rfl, hz9⟩) | (go_at_call 13; (with_reducible refine (Calls.since (by assumption) (HUA.out _ (by assumption))).mono ?_); rintro e zA ⟨rfl, hzA⟩) | (go_at_call 12; (with_reducible refine (law5_num _ _).mono ?_); rintro e wn ⟨rfl, rfl⟩)))
      have hA : Since wr zA := hzA
      refine ⟨⟨j + 1, by simp, by omega, .inr ⟨_, rfl, Whole.new zA _ _⟩, HB.out.trans (Since.alloc hA _)⟩, by simp [intOf]; omega⟩
end Go.Proofs.Ytdbacinaffdkaaa
