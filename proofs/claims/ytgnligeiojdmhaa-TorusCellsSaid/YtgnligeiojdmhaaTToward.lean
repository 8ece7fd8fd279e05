/- torus.Toward: the next cell on the way. -/
import Derived.Test.YtgnligeiojdmhaaTDist
namespace Go.Proofs.Ytgnligeiojdmhaa
open Go.RowKit
theorem near_bd (k a b : Int) : -1 ≤ near k a b ∧ near k a b ≤ 1 := by unfold near; split <;> omega
set_option maxHeartbeats 400000 in
theorem toward_no1 (k px py qx qy : Int) (w : World) (ha : hasB k px py = false) : Calls Try.prog 27 #[.agg #[.int .i64 k], .agg #[.int .i64 px, .int .i64 py], .agg #[.int .i64 qx, .int .i64 qy]] w fun e w' => e = .returned (.tuple #[.agg #[.int .i64 0, .int .i64 0], .bool false]) ∧ Below w.heap.size w w' := by
  obtain ⟨w0, hw0⟩ : ∃ w0, w0 = (((w.alloc (.cells #[.int .i64 k] 25)).alloc (.cells #[.int .i64 px, .int .i64 py] 23)).alloc (.cells #[.int .i64 qx, .int .i64 qy] 23)).alloc (.cells #[.int .i64 0, .int .i64 0] 23) := ⟨_, rfl⟩
  have hs0 : Since w w0 := by rw [hw0]; exact ((((Since.refl w).alloc _).alloc _).alloc _).alloc _
  have wh0 : Whole w0 (w.heap.size) 25 #[.int .i64 k] := by rw [hw0]; exact (((Whole.new w _ _).alloc _).alloc _).alloc _
  have wh1 : Whole w0 (w.heap.size + 1) 23 #[.int .i64 px, .int .i64 py] := by rw [hw0]; exact (((Whole.new (w.alloc _) _ _).alloc _).alloc _).at_ (by simp)
  have wh2 : Whole w0 (w.heap.size + 1 + 1) 23 #[.int .i64 qx, .int .i64 qy] := by rw [hw0]; exact ((Whole.new ((w.alloc _).alloc _) _ _).alloc _).at_ (by simp)
  have wh3 : Whole w0 (w.heap.size + 1 + 1 + 1) 23 #[.int .i64 0, .int .i64 0] := by rw [hw0]; exact (Whole.new (((w.alloc _).alloc _).alloc _) _ _).at_ (by simp)
  have HW := Lib.hid hw0
  have c0_0 := box_cell wh0 0 (.int .i64 k) rfl
  have c1_0 := box_cell wh1 0 (.int .i64 px) rfl
  have c1_1 := box_cell wh1 1 (.int .i64 py) rfl
  have c2_0 := box_cell wh2 0 (.int .i64 qx) rfl
  have c2_1 := box_cell wh2 1 (.int .i64 qy) rfl
  have c3_0 := box_cell wh3 0 (.int .i64 0) rfl
  have f3_0 := box_free wh3 0
  have c3_1 := box_cell wh3 1 (.int .i64 0) rfl
  have f3_1 := box_free wh3 1
  have hsr := Since.refl w0
  have hsd := hsr.drew
  clear hw0 wh0 wh1 wh2 wh3
  replace ha := Lib.hid ha
  go_enter Try.func27, Try.ntmps27
  go_wp2_with fail
  rw [← HW.out]
  go_wp2_with (go_at_call 19; (with_reducible refine (Calls.since (by assumption) (has_at (by exact ha.out) _)).mono ?_); rintro e w1 ⟨rfl, hb1⟩)
  have g1 := c3_0 w1 hb1
  have g2 := c3_1 w1 hb1
  exact bodyPost_ret (v := .tuple #[.agg #[.int .i64 0, .int .i64 0], .bool false]) (by simp [results, Try.results27, go_sem, g1, g2]) rfl ⟨rfl, Below.setCell (Below.setCell (hs0.trans hb1) (by simp; omega) _) (by simp; omega) _⟩
set_option maxHeartbeats 400000 in
theorem toward_no2 (k px py qx qy : Int) (w : World) (ha : hasB k px py = true) (hb : hasB k qx qy = false) : Calls Try.prog 27 #[.agg #[.int .i64 k], .agg #[.int .i64 px, .int .i64 py], .agg #[.int .i64 qx, .int .i64 qy]] w fun e w' => e = .returned (.tuple #[.agg #[.int .i64 0, .int .i64 0], .bool false]) ∧ Below w.heap.size w w' := by
  obtain ⟨w0, hw0⟩ : ∃ w0, w0 = (((w.alloc (.cells #[.int .i64 k] 25)).alloc (.cells #[.int .i64 px, .int .i64 py] 23)).alloc (.cells #[.int .i64 qx, .int .i64 qy] 23)).alloc (.cells #[.int .i64 0, .int .i64 0] 23) := ⟨_, rfl⟩
  have hs0 : Since w w0 := by rw [hw0]; exact ((((Since.refl w).alloc _).alloc _).alloc _).alloc _
  have wh0 : Whole w0 (w.heap.size) 25 #[.int .i64 k] := by rw [hw0]; exact (((Whole.new w _ _).alloc _).alloc _).alloc _
  have wh1 : Whole w0 (w.heap.size + 1) 23 #[.int .i64 px, .int .i64 py] := by rw [hw0]; exact (((Whole.new (w.alloc _) _ _).alloc _).alloc _).at_ (by simp)
  have wh2 : Whole w0 (w.heap.size + 1 + 1) 23 #[.int .i64 qx, .int .i64 qy] := by rw [hw0]; exact ((Whole.new ((w.alloc _).alloc _) _ _).alloc _).at_ (by simp)
  have wh3 : Whole w0 (w.heap.size + 1 + 1 + 1) 23 #[.int .i64 0, .int .i64 0] := by rw [hw0]; exact (Whole.new (((w.alloc _).alloc _).alloc _) _ _).at_ (by simp)
  have HW := Lib.hid hw0
  have c0_0 := box_cell wh0 0 (.int .i64 k) rfl
  have c1_0 := box_cell wh1 0 (.int .i64 px) rfl
  have c1_1 := box_cell wh1 1 (.int .i64 py) rfl
  have c2_0 := box_cell wh2 0 (.int .i64 qx) rfl
  have c2_1 := box_cell wh2 1 (.int .i64 qy) rfl
  have c3_0 := box_cell wh3 0 (.int .i64 0) rfl
  have f3_0 := box_free wh3 0
  have c3_1 := box_cell wh3 1 (.int .i64 0) rfl
  have f3_1 := box_free wh3 1
  have hsr := Since.refl w0
  have hsd := hsr.drew
  clear hw0 wh0 wh1 wh2 wh3
  replace ha := Lib.hid ha
  replace hb := Lib.hid hb
  go_enter Try.func27, Try.ntmps27
  go_wp2_with fail
  rw [← HW.out]
  go_wp2_with (go_at_call 19; (with_reducible refine (Calls.since (by assumption) (has_at (by first | exact ha.out | exact hb.out) _)).mono ?_); rintro e w1 ⟨rfl, hb1⟩)
  have g1 := c3_0 w1 hb1
  have g2 := c3_1 w1 hb1
  exact bodyPost_ret (v := .tuple #[.agg #[.int .i64 0, .int .i64 0], .bool false]) (by simp [results, Try.results27, go_sem, g1, g2]) rfl ⟨rfl, Below.setCell (Below.setCell (hs0.trans hb1) (by simp; omega) _) (by simp; omega) _⟩
set_option maxHeartbeats 400000 in
theorem toward_x (k px py qx qy : Int) (w : World) (ha : hasB k px py = true) (hb : hasB k qx qy = true) (hne : px ≠ qx) : Calls Try.prog 27 #[.agg #[.int .i64 k], .agg #[.int .i64 px, .int .i64 py], .agg #[.int .i64 qx, .int .i64 qy]] w fun e w' => e = .returned (.tuple #[.agg #[.int .i64 ((px + near k px qx) % sd k), .int .i64 (py % sd k)], .bool true]) ∧ Below w.heap.size w w' := by
  have n1 : (px == qx) = false := beq_eq_false_iff_ne.2 hne
  have n2 : (px != qx) = true := bne_iff_ne.2 hne
  have e1 : IntKind.i64.wrap (px + near k px qx) = px + near k px qx := by
    have h := near_bd k px qx
    have h2 := (hasB_iff k px py).1 ha
    have h3 := side_bd k
    exact IntWalk.i64_in _ (by omega)
  clear hne
  obtain ⟨w0, hw0⟩ : ∃ w0, w0 = (((w.alloc (.cells #[.int .i64 k] 25)).alloc (.cells #[.int .i64 px, .int .i64 py] 23)).alloc (.cells #[.int .i64 qx, .int .i64 qy] 23)).alloc (.cells #[.int .i64 0, .int .i64 0] 23) := ⟨_, rfl⟩
  have hs0 : Since w w0 := by rw [hw0]; exact ((((Since.refl w).alloc _).alloc _).alloc _).alloc _
  have wh0 : Whole w0 (w.heap.size) 25 #[.int .i64 k] := by rw [hw0]; exact (((Whole.new w _ _).alloc _).alloc _).alloc _
  have wh1 : Whole w0 (w.heap.size + 1) 23 #[.int .i64 px, .int .i64 py] := by rw [hw0]; exact (((Whole.new (w.alloc _) _ _).alloc _).alloc _).at_ (by simp)
  have wh2 : Whole w0 (w.heap.size + 1 + 1) 23 #[.int .i64 qx, .int .i64 qy] := by rw [hw0]; exact ((Whole.new ((w.alloc _).alloc _) _ _).alloc _).at_ (by simp)
  have wh3 : Whole w0 (w.heap.size + 1 + 1 + 1) 23 #[.int .i64 0, .int .i64 0] := by rw [hw0]; exact (Whole.new (((w.alloc _).alloc _).alloc _) _ _).at_ (by simp)
  have HW := Lib.hid hw0
  have c0_0 := but_cell wh0 (g := w.heap.size + 1 + 1 + 1) (by omega) 0 (.int .i64 k) rfl
  have c1_0 := but_cell wh1 (g := w.heap.size + 1 + 1 + 1) (by omega) 0 (.int .i64 px) rfl
  have c1_1 := but_cell wh1 (g := w.heap.size + 1 + 1 + 1) (by omega) 1 (.int .i64 py) rfl
  have c2_0 := but_cell wh2 (g := w.heap.size + 1 + 1 + 1) (by omega) 0 (.int .i64 qx) rfl
  have c2_1 := but_cell wh2 (g := w.heap.size + 1 + 1 + 1) (by omega) 1 (.int .i64 qy) rfl
  have c3_0 := box_cell wh3 0 (.int .i64 0) rfl
  have f3_0 := box_free wh3 0
  have c3_1 := box_cell wh3 1 (.int .i64 0) rfl
  have f3_1 := box_free wh3 1
  have hsr := Since.refl w0
  have hsd := hsr.drew
  clear hw0 wh0 wh1 wh2 wh3
  replace ha := Lib.hid ha
  replace hb := Lib.hid hb
  have hsb := hsr.but (w.heap.size + 1 + 1 + 1)
  go_enter Try.func27, Try.ntmps27
  go_wp2_with fail
  rw [← HW.out]
  go_wp2_with (go_at_call 19; (with_reducible refine (Calls.since (by assumption) (has_at (by first | exact ha.out | exact hb.out) _)).mono ?_); rintro e w1 ⟨rfl, hb1⟩; have hbb1 := Since.but hb1 (w.heap.size + 1 + 1 + 1))
  have hb1d := hb1.drew
  go_region_held3 (fun W => But (w.heap.size + 1 + 1 + 1) w0 W) (first | assumption | exact Since.but (Since.drew (by assumption)) _ | exact Since.but (by assumption) _ | exact But.set2 (by assumption) _ _ _ _)
    ((first
      | (go_at_call 34; (with_reducible refine (Calls.since (by assumption) (near_any _ _ _ _)).mono ?_); rintro e w3 ⟨rfl, hb3⟩)
      | (go_at_call 21; (with_reducible refine (Calls.since (by assumption) (wrap_any _ _ _ _)).mono ?_); rintro e w1 ⟨rfl, hb1⟩)))
  go_wp2
  have g1 := c3_0 w1 hb1
  have g2 := c3_1 w1 hb1
  exact bodyPost_ret (v := .tuple #[.agg #[.int .i64 ((px + near k px qx) % sd k), .int .i64 (py % sd k)], .bool true]) (by simp [results, Try.results27, go_sem, g1, g2]) rfl ⟨rfl, Below.setCell (Below.setCell (hs0.trans hb1) (by simp; omega) _) (by simp; omega) _⟩
set_option maxHeartbeats 400000 in
theorem toward_y (k px py qy : Int) (w : World) (ha : hasB k px py = true) (hb : hasB k px qy = true) (hne : py ≠ qy) : Calls Try.prog 27 #[.agg #[.int .i64 k], .agg #[.int .i64 px, .int .i64 py], .agg #[.int .i64 px, .int .i64 qy]] w fun e w' => e = .returned (.tuple #[.agg #[.int .i64 (px % sd k), .int .i64 ((py + near k py qy) % sd k)], .bool true]) ∧ Below w.heap.size w w' := by
  have n1 : (py == qy) = false := beq_eq_false_iff_ne.2 hne
  have n2 : (py != qy) = true := bne_iff_ne.2 hne
  have e1 : IntKind.i64.wrap (py + near k py qy) = py + near k py qy := by
    have h := near_bd k py qy
    have h2 := (hasB_iff k px py).1 ha
    have h3 := side_bd k
    exact IntWalk.i64_in _ (by omega)
  clear hne
  obtain ⟨w0, hw0⟩ : ∃ w0, w0 = (((w.alloc (.cells #[.int .i64 k] 25)).alloc (.cells #[.int .i64 px, .int .i64 py] 23)).alloc (.cells #[.int .i64 px, .int .i64 qy] 23)).alloc (.cells #[.int .i64 0, .int .i64 0] 23) := ⟨_, rfl⟩
  have hs0 : Since w w0 := by rw [hw0]; exact ((((Since.refl w).alloc _).alloc _).alloc _).alloc _
  have wh0 : Whole w0 (w.heap.size) 25 #[.int .i64 k] := by rw [hw0]; exact (((Whole.new w _ _).alloc _).alloc _).alloc _
  have wh1 : Whole w0 (w.heap.size + 1) 23 #[.int .i64 px, .int .i64 py] := by rw [hw0]; exact (((Whole.new (w.alloc _) _ _).alloc _).alloc _).at_ (by simp)
  have wh2 : Whole w0 (w.heap.size + 1 + 1) 23 #[.int .i64 px, .int .i64 qy] := by rw [hw0]; exact ((Whole.new ((w.alloc _).alloc _) _ _).alloc _).at_ (by simp)
  have wh3 : Whole w0 (w.heap.size + 1 + 1 + 1) 23 #[.int .i64 0, .int .i64 0] := by rw [hw0]; exact (Whole.new (((w.alloc _).alloc _).alloc _) _ _).at_ (by simp)
  have HW := Lib.hid hw0
  have c0_0 := but_cell wh0 (g := w.heap.size + 1 + 1 + 1) (by omega) 0 (.int .i64 k) rfl
  have c1_0 := but_cell wh1 (g := w.heap.size + 1 + 1 + 1) (by omega) 0 (.int .i64 px) rfl
  have c1_1 := but_cell wh1 (g := w.heap.size + 1 + 1 + 1) (by omega) 1 (.int .i64 py) rfl
  have c2_0 := but_cell wh2 (g := w.heap.size + 1 + 1 + 1) (by omega) 0 (.int .i64 px) rfl
  have c2_1 := but_cell wh2 (g := w.heap.size + 1 + 1 + 1) (by omega) 1 (.int .i64 qy) rfl
  have c3_0 := box_cell wh3 0 (.int .i64 0) rfl
  have f3_0 := box_free wh3 0
  have c3_1 := box_cell wh3 1 (.int .i64 0) rfl
  have f3_1 := box_free wh3 1
  have hsr := Since.refl w0
  have hsd := hsr.drew
  clear hw0 wh0 wh1 wh2 wh3
  replace ha := Lib.hid ha
  replace hb := Lib.hid hb
  have hsb := hsr.but (w.heap.size + 1 + 1 + 1)
  go_enter Try.func27, Try.ntmps27
  go_wp2_with fail
  rw [← HW.out]
  go_wp2_with (go_at_call 19; (with_reducible refine (Calls.since (by assumption) (has_at (by first | exact ha.out | exact hb.out) _)).mono ?_); rintro e w1 ⟨rfl, hb1⟩; have hbb1 := Since.but hb1 (w.heap.size + 1 + 1 + 1))
  have hb1d := hb1.drew
  go_region_held3 (fun W => But (w.heap.size + 1 + 1 + 1) w0 W) (first | assumption | exact Since.but (Since.drew (by assumption)) _ | exact Since.but (by assumption) _ | exact But.set2 (by assumption) _ _ _ _)
    ((first
      | (go_at_call 34; (with_reducible refine (Calls.since (by assumption) (near_any _ _ _ _)).mono ?_); rintro e w3 ⟨rfl, hb3⟩)
      | (go_at_call 21; (with_reducible refine (Calls.since (by assumption) (wrap_any _ _ _ _)).mono ?_); rintro e w1 ⟨rfl, hb1⟩)))
  go_wp2
  have g1 := c3_0 w1 hb1
  have g2 := c3_1 w1 hb1
  exact bodyPost_ret (v := .tuple #[.agg #[.int .i64 (px % sd k), .int .i64 ((py + near k py qy) % sd k)], .bool true]) (by simp [results, Try.results27, go_sem, g1, g2]) rfl ⟨rfl, Below.setCell (Below.setCell (hs0.trans hb1) (by simp; omega) _) (by simp; omega) _⟩
set_option maxHeartbeats 400000 in
theorem toward_same (k px qy : Int) (w : World) (ha : hasB k px qy = true) : Calls Try.prog 27 #[.agg #[.int .i64 k], .agg #[.int .i64 px, .int .i64 qy], .agg #[.int .i64 px, .int .i64 qy]] w fun e w' => e = .returned (.tuple #[.agg #[.int .i64 px, .int .i64 qy], .bool false]) ∧ Below w.heap.size w w' := by
  obtain ⟨w0, hw0⟩ : ∃ w0, w0 = (((w.alloc (.cells #[.int .i64 k] 25)).alloc (.cells #[.int .i64 px, .int .i64 qy] 23)).alloc (.cells #[.int .i64 px, .int .i64 qy] 23)).alloc (.cells #[.int .i64 0, .int .i64 0] 23) := ⟨_, rfl⟩
  have hs0 : Since w w0 := by rw [hw0]; exact ((((Since.refl w).alloc _).alloc _).alloc _).alloc _
  have wh0 : Whole w0 (w.heap.size) 25 #[.int .i64 k] := by rw [hw0]; exact (((Whole.new w _ _).alloc _).alloc _).alloc _
  have wh1 : Whole w0 (w.heap.size + 1) 23 #[.int .i64 px, .int .i64 qy] := by rw [hw0]; exact (((Whole.new (w.alloc _) _ _).alloc _).alloc _).at_ (by simp)
  have wh2 : Whole w0 (w.heap.size + 1 + 1) 23 #[.int .i64 px, .int .i64 qy] := by rw [hw0]; exact ((Whole.new ((w.alloc _).alloc _) _ _).alloc _).at_ (by simp)
  have wh3 : Whole w0 (w.heap.size + 1 + 1 + 1) 23 #[.int .i64 0, .int .i64 0] := by rw [hw0]; exact (Whole.new (((w.alloc _).alloc _).alloc _) _ _).at_ (by simp)
  have HW := Lib.hid hw0
  have c0_0 := box_cell wh0 0 (.int .i64 k) rfl
  have c1_0 := box_cell wh1 0 (.int .i64 px) rfl
  have c1_1 := box_cell wh1 1 (.int .i64 qy) rfl
  have c2_0 := box_cell wh2 0 (.int .i64 px) rfl
  have c2_1 := box_cell wh2 1 (.int .i64 qy) rfl
  have c3_0 := box_cell wh3 0 (.int .i64 0) rfl
  have f3_0 := box_free wh3 0
  have c3_1 := box_cell wh3 1 (.int .i64 0) rfl
  have f3_1 := box_free wh3 1
  have hsr := Since.refl w0
  have hsd := hsr.drew
  clear hw0 wh0 wh1 wh2 wh3
  replace ha := Lib.hid ha
  go_enter Try.func27, Try.ntmps27
  go_wp2_with fail
  rw [← HW.out]
  go_wp2_with (go_at_call 19; (with_reducible refine (Calls.since (by assumption) (has_at (by exact ha.out) _)).mono ?_); rintro e w1 ⟨rfl, hb1⟩)
  have g1 := c3_0 w1 hb1
  have g2 := c3_1 w1 hb1
  exact bodyPost_ret (v := .tuple #[.agg #[.int .i64 px, .int .i64 qy], .bool false]) (by simp [results, Try.results27, go_sem, g1, g2]) rfl ⟨rfl, Below.setCell (Below.setCell (hs0.trans hb1) (by simp; omega) _) (by simp; omega) _⟩
end Go.Proofs.Ytgnligeiojdmhaa
