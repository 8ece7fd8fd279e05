/- torus.Area, Number, Cell: cells by number. -/
import Derived.Test.YtgnligeiojdmhaaTMove
namespace Go.Proofs.Ytgnligeiojdmhaa
open Go.RowKit
theorem area_bd (k : Int) : 0 ≤ side k * side k ∧ side k * side k ≤ 4294967296 := by
  obtain ⟨h1, h2⟩ := side_bd k
  exact ⟨Int.mul_nonneg h1 h1, Int.le_trans (Int.mul_le_mul h2 h2 h1 (by omega)) (by omega)⟩
set_option maxHeartbeats 400000 in
theorem area_any (k : Int) (w : World) : Calls Try.prog 18 #[.agg #[.int .i64 k]] w fun e w' => e = .returned (.int .i64 (side k * side k)) ∧ Below w.heap.size w w' := by
  have hm := area_bd k
  have hw : IntKind.i64.wrap (side k * side k) = side k * side k := IntWalk.i64_in _ (by omega)
  obtain ⟨w0, hw0⟩ : ∃ w0, w0 = w.alloc (.cells #[.int .i64 k] 25) := ⟨_, rfl⟩
  have hs0 : Since w w0 := by rw [hw0]; exact (Since.refl w).alloc _
  have wh0 : Whole w0 (w.heap.size) 25 #[.int .i64 k] := by rw [hw0]; exact Whole.new w _ _
  have HW := Lib.hid hw0
  have c0_0 := box_cell wh0 0 (.int .i64 k) rfl
  have hsr := Since.refl w0
  have hsd := hsr.drew
  clear hw0 wh0
  go_enter Try.func18, Try.ntmps18
  go_wp2
  rw [← HW.out]
  go_region_held3 (fun W => Since w0 W) (first | assumption | exact Since.drew (by assumption))
    (((go_at_call 16; (with_reducible refine (Calls.since (by assumption) (side_any _ _)).mono ?_); rintro e w1 ⟨rfl, hb1⟩)))
  go_wp2
  go_ret
  exact ⟨rfl, hs0.trans (by assumption)⟩
set_option maxHeartbeats 400000 in
theorem number_yes (k x y : Int) (w : World) (h : hasB k x y = true) : Calls Try.prog 12 #[.agg #[.int .i64 k], .agg #[.int .i64 x, .int .i64 y]] w fun e w' => e = .returned (.tuple #[.int .i64 (y * side k + x), .int .i64 0]) ∧ Below w.heap.size w w' := by
  have hb := (hasB_iff k x y).1 h
  have hs := side_bd k
  have hm : 0 ≤ y * side k ∧ y * side k ≤ 4294967296 := ⟨Int.mul_nonneg hb.2.2.1 hs.1, Int.le_trans (Int.mul_le_mul (show y ≤ 65536 by omega) hs.2 hs.1 (by omega)) (by omega)⟩
  have e1 : IntKind.i64.wrap (y * side k) = y * side k := IntWalk.i64_in _ (by omega)
  have e2 : IntKind.i64.wrap (y * side k + x) = y * side k + x := IntWalk.i64_in _ (by omega)
  obtain ⟨w0, hw0⟩ : ∃ w0, w0 = (w.alloc (.cells #[.int .i64 k] 25)).alloc (.cells #[.int .i64 x, .int .i64 y] 23) := ⟨_, rfl⟩
  have hs0 : Since w w0 := by rw [hw0]; exact ((Since.refl w).alloc _).alloc _
  have wh0 : Whole w0 (w.heap.size) 25 #[.int .i64 k] := by rw [hw0]; exact (Whole.new w _ _).alloc _
  have wh1 : Whole w0 (w.heap.size + 1) 23 #[.int .i64 x, .int .i64 y] := by rw [hw0]; exact (Whole.new (w.alloc _) _ _).at_ (by simp)
  have HW := Lib.hid hw0
  have c0_0 := box_cell wh0 0 (.int .i64 k) rfl
  have c1_0 := box_cell wh1 0 (.int .i64 x) rfl
  have c1_1 := box_cell wh1 1 (.int .i64 y) rfl
  have hsr := Since.refl w0
  have hsd := hsr.drew
  clear hw0 wh0 wh1
  replace h := Lib.hid h
  clear hm hb hs
  go_enter Try.func12, Try.ntmps12
  go_wp2_with fail
  rw [← HW.out]
  go_wp2_with (first
    | (go_at_call 19; (with_reducible refine (Calls.since (by assumption) (has_at h.out _)).mono ?_); rintro e w2 ⟨rfl, hb2⟩))
  go_region_held3 (fun W => Since w0 W) (first | assumption | exact Since.drew (by assumption))
    (((go_at_call 16; (with_reducible refine (Calls.since (by assumption) (side_any _ _)).mono ?_); rintro e w1 ⟨rfl, hb1⟩)))
  go_wp2
  go_ret2
  exact ⟨rfl, hs0.trans (by assumption)⟩
theorem number_no (k x y : Int) (w : World) (h : hasB k x y = false) : Calls Try.prog 12 #[.agg #[.int .i64 k], .agg #[.int .i64 x, .int .i64 y]] w fun e w' => e = .returned (.tuple #[.int .i64 0, .int .i64 1]) ∧ Below w.heap.size w w' := by
  obtain ⟨w0, hw0⟩ : ∃ w0, w0 = (w.alloc (.cells #[.int .i64 k] 25)).alloc (.cells #[.int .i64 x, .int .i64 y] 23) := ⟨_, rfl⟩
  have hs0 : Since w w0 := by rw [hw0]; exact ((Since.refl w).alloc _).alloc _
  have wh0 : Whole w0 (w.heap.size) 25 #[.int .i64 k] := by rw [hw0]; exact (Whole.new w _ _).alloc _
  have wh1 : Whole w0 (w.heap.size + 1) 23 #[.int .i64 x, .int .i64 y] := by rw [hw0]; exact (Whole.new (w.alloc _) _ _).at_ (by simp)
  have HW := Lib.hid hw0
  have c0_0 := box_cell wh0 0 (.int .i64 k) rfl
  have c1_0 := box_cell wh1 0 (.int .i64 x) rfl
  have c1_1 := box_cell wh1 1 (.int .i64 y) rfl
  have hsr := Since.refl w0
  have hsd := hsr.drew
  clear hw0 wh0 wh1
  replace h := Lib.hid h
  go_enter Try.func12, Try.ntmps12
  go_wp2_with fail
  rw [← HW.out]
  go_wp2_with (first
    | (go_at_call 19; (with_reducible refine (Calls.since (by assumption) (has_at h.out _)).mono ?_); rintro e w2 ⟨rfl, hb2⟩))
  go_ret2
  exact ⟨rfl, hs0.trans hb2⟩
theorem area_no {k n : Int} (h : 0 ≤ n ∧ n < side k * side k) : rgt k = true := by
  cases e : rgt k with
  | true => rfl
  | false =>
    have e2 := side_no e
    rw [e2] at h
    omega
theorem cell_yes (k n : Int) (w : World) (h : 0 ≤ n ∧ n < side k * side k) : Calls Try.prog 14 #[.agg #[.int .i64 k], .int .i64 n] w fun e w' => e = .returned (.tuple #[.agg #[.int .i64 (n % sd k), .int .i64 (n / sd k)], .int .i64 0]) ∧ Below w.heap.size w w' := by
  have hr := area_no h
  have hm := area_bd k
  have he : n / 2 ^ k.toNat = n / sd k := by rw [sd_yes hr, side_yes hr]
  have hk := (rgt_iff k).1 hr
  have hx := mask_mod k n
  obtain ⟨w0, hw0⟩ : ∃ w0, w0 = (w.alloc (.cells #[.int .i64 k] 25)).alloc (.cells #[.int .i64 0, .int .i64 0] 23) := ⟨_, rfl⟩
  have hs0 : Since w w0 := by rw [hw0]; exact ((Since.refl w).alloc _).alloc _
  have wh0 : Whole w0 (w.heap.size) 25 #[.int .i64 k] := by rw [hw0]; exact (Whole.new w _ _).alloc _
  have wh1 : Whole w0 (w.heap.size + 1) 23 #[.int .i64 0, .int .i64 0] := by rw [hw0]; exact (Whole.new (w.alloc _) _ _).at_ (by simp)
  have HW := Lib.hid hw0
  have c0_0 := but_cell wh0 (g := w.heap.size + 1) (by omega) 0 (.int .i64 k) rfl
  have c1_0 := box_cell wh1 0 (.int .i64 0) rfl
  have f1_0 := box_free wh1 0
  have c1_1 := box_cell wh1 1 (.int .i64 0) rfl
  have f1_1 := box_free wh1 1
  have hsr := Since.refl w0
  have hsd := hsr.drew
  clear hw0 wh0 wh1
  clear hr
  go_enter Try.func14, Try.ntmps14
  go_wp2_with fail
  rw [← HW.out]
  have hsb := hsr.but (w.heap.size + 1)
  go_wp2_with (first
    | (go_at_call 18; (with_reducible refine (Calls.since (by assumption) (area_any _ _)).mono ?_); rintro e w2 ⟨rfl, hb2⟩))
  have hb2d := hb2.drew
  go_region_held3 (fun W => But (w.heap.size + 1) w0 W) (first | assumption | exact Since.but (Since.drew (by assumption)) _ | exact Since.but (by assumption) _ | exact But.set2 (by assumption) _ _ _ _)
    (((go_at_call 31; (with_reducible refine (Calls.since (by assumption) (mask_any _ _)).mono ?_); rintro e w3 ⟨rfl, hb3⟩)))
  go_wp2
  have g1 := c1_0 w3 hb3
  have g2 := c1_1 w3 hb3
  exact bodyPost_ret (v := .tuple #[.agg #[.int .i64 (n % sd k), .int .i64 (n / sd k)], .int .i64 0]) (by simp [results, Try.results14, go_sem, g1, g2]) rfl ⟨rfl, Below.setCell (Below.setCell (hs0.trans hb3) (by simp) _) (by simp) _⟩
theorem cell_no (k n : Int) (w : World) (h : ¬ (0 ≤ n ∧ n < side k * side k)) : Calls Try.prog 14 #[.agg #[.int .i64 k], .int .i64 n] w fun e w' => e = .returned (.tuple #[.agg #[.int .i64 0, .int .i64 0], .int .i64 1]) ∧ Below w.heap.size w w' := by
  by_cases h0 : n < 0
  · have HW : Below w.heap.size w ((w.alloc (.cells #[.int .i64 k] 25)).alloc (.cells #[.int .i64 0, .int .i64 0] 23)) := ((Since.refl w).alloc _).alloc _
    clear h
    go_enter Try.func14, Try.ntmps14
    go_wp2
    exact bodyPost_ret (v := .tuple #[.agg #[.int .i64 0, .int .i64 0], .int .i64 1]) (by simp [results, Try.results14, go_sem]) rfl ⟨rfl, HW⟩
  · have h2 : side k * side k ≤ n := by omega
    clear h
    obtain ⟨w0, hw0⟩ : ∃ w0, w0 = (w.alloc (.cells #[.int .i64 k] 25)).alloc (.cells #[.int .i64 0, .int .i64 0] 23) := ⟨_, rfl⟩
    have hs0 : Since w w0 := by rw [hw0]; exact ((Since.refl w).alloc _).alloc _
    have wh0 : Whole w0 (w.heap.size) 25 #[.int .i64 k] := by rw [hw0]; exact (Whole.new w _ _).alloc _
    have wh1 : Whole w0 (w.heap.size + 1) 23 #[.int .i64 0, .int .i64 0] := by rw [hw0]; exact (Whole.new (w.alloc _) _ _).at_ (by simp)
    have HW := Lib.hid hw0
    have c0_0 := box_cell wh0 0 (.int .i64 k) rfl
    have c1_0 := box_cell wh1 0 (.int .i64 0) rfl
    have f1_0 := box_free wh1 0
    have c1_1 := box_cell wh1 1 (.int .i64 0) rfl
    have f1_1 := box_free wh1 1
    have hsr := Since.refl w0
    have hsd := hsr.drew
    clear hw0 wh0 wh1
    go_enter Try.func14, Try.ntmps14
    go_wp2_with fail
    rw [← HW.out]
    go_wp2_with (first
      | (go_at_call 18; (with_reducible refine (Calls.since (by assumption) (area_any _ _)).mono ?_); rintro e w2 ⟨rfl, hb2⟩))
    have g1 := c1_0 w2 hb2
    have g2 := c1_1 w2 hb2
    exact bodyPost_ret (v := .tuple #[.agg #[.int .i64 0, .int .i64 0], .int .i64 1]) (by simp [results, Try.results14, go_sem, g1, g2]) rfl ⟨rfl, Below.setCell (Below.setCell (hs0.trans hb2) (by simp) _) (by simp) _⟩
end Go.Proofs.Ytgnligeiojdmhaa
