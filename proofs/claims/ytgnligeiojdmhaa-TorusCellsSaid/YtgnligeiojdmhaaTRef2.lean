/- gleberef02.Wrap, Move, Number, Cell, and the program's own in the same words. -/
import Derived.Test.YtgnligeiojdmhaaTRef
namespace Go.Proofs.Ytgnligeiojdmhaa
open Go.RowKit
theorem mod_one (x : Int) {k : Int} (h : rgt k = false) : x % sd k = 0 := by rw [sd_no h]; omega
set_option maxHeartbeats 400000 in
theorem refWrap_any (k x y : Int) (w : World) : Calls Try.prog 22 #[.int .i64 k, .int .i64 x, .int .i64 y] w fun e w' => e = .returned (.agg #[.int .i64 (x % sd k), .int .i64 (y % sd k)]) ∧ Below w.heap.size w w' := by
  cases h : rgt k with
  | false =>
    rw [mod_one x h, mod_one y h]
    replace h := Lib.hid h
    go_enter Try.func22, Try.ntmps22
    go_wp2_with (go_at_call 9; (with_reducible refine (refRight_at h.out _).mono ?_); rintro e w' ⟨rfl, rfl⟩)
    exact bodyPost_ret (v := .agg #[.int .i64 0, .int .i64 0]) (by simp [results, Try.results22, go_sem]) rfl ⟨rfl, (Since.refl w).alloc _⟩
  | true =>
    have h1 : 0 < side k := by have := sd_pos k; rwa [sd_yes h] at this
    have h2 := (side_bd k).2
    rw [sd_yes h]
    replace h := Lib.hid h
    go_enter Try.func22, Try.ntmps22
    go_wp2_with (first
      | (go_at_call 9; (with_reducible refine (refRight_at h.out _).mono ?_); rintro e w' ⟨rfl, rfl⟩)
      | (go_at_call 17; (with_reducible refine (refSide_any _ _).mono ?_); rintro e w' ⟨rfl, rfl⟩)
      | (go_at_call 32; (with_reducible refine (refDown_any _ _ _ h1 h2).mono ?_); rintro e w' ⟨rfl, rfl⟩))
    exact bodyPost_ret (v := .agg #[.int .i64 (x % side k), .int .i64 (y % side k)]) (by simp [results, Try.results22, go_sem]) rfl ⟨rfl, (Since.refl w).alloc _⟩
/-- What Move answers. -/
def mvX (k x y dx dy : Int) : Int := if mvB k x y dx dy then (x + dx) % sd k else 0
def mvY (k x y dx dy : Int) : Int := if mvB k x y dx dy then (y + dy) % sd k else 0
def mvE (k x y dx dy : Int) : Int := if mvB k x y dx dy then 0 else 1
section
variable (k x y dx dy : Int) (w : World)
theorem move_any : Calls Try.prog 10 #[.agg #[.int .i64 k], .agg #[.int .i64 x, .int .i64 y], .int .i64 dx, .int .i64 dy] w fun e w' => e = .returned (.tuple #[.agg #[.int .i64 (mvX k x y dx dy), .int .i64 (mvY k x y dx dy)], .int .i64 (mvE k x y dx dy)]) ∧ Below w.heap.size w w' := by
  cases h : mvB k x y dx dy with
  | true =>
    rw [show mvX k x y dx dy = (x + dx) % sd k by unfold mvX; rw [if_pos h], show mvY k x y dx dy = (y + dy) % sd k by unfold mvY; rw [if_pos h], show mvE k x y dx dy = 0 by unfold mvE; rw [if_pos h]]
    exact move_yes k x y dx dy w h
  | false =>
    rw [show mvX k x y dx dy = 0 by unfold mvX; rw [h]; rfl, show mvY k x y dx dy = 0 by unfold mvY; rw [h]; rfl, show mvE k x y dx dy = 1 by unfold mvE; rw [h]; rfl]
    exact move_no k x y dx dy w h
set_option maxHeartbeats 400000 in
theorem refMove_yes (h : mvB k x y dx dy = true) : Calls Try.prog 11 #[.int .i64 k, .agg #[.int .i64 x, .int .i64 y], .int .i64 dx, .int .i64 dy] w fun e w' => e = .returned (.tuple #[.agg #[.int .i64 ((x + dx) % sd k), .int .i64 ((y + dy) % sd k)], .int .i64 0]) ∧ Below w.heap.size w w' := by
  unfold mvB at h
  rw [Bool.and_eq_true, Bool.and_eq_true] at h
  obtain ⟨ha, hd1, hd2⟩ := h
  have hb := (hasB_iff k x y).1 ha
  have hs := side_bd k
  have hm1 := (may_iff dx).1 hd1
  have hm2 := (may_iff dy).1 hd2
  obtain ⟨w0, hw0⟩ : ∃ w0, w0 = (w.alloc (.cells #[.int .i64 x, .int .i64 y] 23)).alloc (.cells #[.int .i64 0, .int .i64 0] 23) := ⟨_, rfl⟩
  have hs0 : Since w w0 := by rw [hw0]; exact ((Since.refl w).alloc _).alloc _
  have wh0 : Whole w0 (w.heap.size) 23 #[.int .i64 x, .int .i64 y] := by rw [hw0]; exact (Whole.new w _ _).alloc _
  have wh1 : Whole w0 (w.heap.size + 1) 23 #[.int .i64 0, .int .i64 0] := by rw [hw0]; exact (Whole.new (w.alloc _) _ _).at_ (by simp)
  have HW := Lib.hid hw0
  have c0_0 := box_cell wh0 0 (.int .i64 x) rfl
  have c0_1 := box_cell wh0 1 (.int .i64 y) rfl
  have c1_0 := box_cell wh1 0 (.int .i64 0) rfl
  have f1_0 := box_free wh1 0
  have c1_1 := box_cell wh1 1 (.int .i64 0) rfl
  have f1_1 := box_free wh1 1
  have hsr := Since.refl w0
  have hsd := hsr.drew
  clear hw0 wh0 wh1
  replace ha := Lib.hid ha
  clear hd1 hd2
  go_enter Try.func11, Try.ntmps11
  go_wp2_with fail
  rw [← HW.out]
  go_wp2_with (first
    | (go_at_call 20; (with_reducible refine (Calls.since (by assumption) (refHas_at ha.out _)).mono ?_); rintro e w1 ⟨rfl, hb1⟩)
    | (go_at_call 22; (with_reducible refine (Calls.since (by assumption) (refWrap_any _ _ _ _)).mono ?_); rintro e w2 ⟨rfl, hb2⟩))
  have g1 := c1_0 w2 hb2
  have g2 := c1_1 w2 hb2
  exact bodyPost_ret (v := .tuple #[.agg #[.int .i64 ((x + dx) % sd k), .int .i64 ((y + dy) % sd k)], .int .i64 0]) (by simp [results, Try.results11, go_sem, g1, g2]) rfl ⟨rfl, Below.setCell (Below.setCell (hs0.trans hb2) (by simp) _) (by simp) _⟩
set_option maxHeartbeats 400000 in
theorem refMove_no (h : mvB k x y dx dy = false) : Calls Try.prog 11 #[.int .i64 k, .agg #[.int .i64 x, .int .i64 y], .int .i64 dx, .int .i64 dy] w fun e w' => e = .returned (.tuple #[.agg #[.int .i64 0, .int .i64 0], .int .i64 1]) ∧ Below w.heap.size w w' := by
  have hc : hasB k x y = false ∨ (hasB k x y = true ∧ (may dx = false ∨ (may dx = true ∧ may dy = false))) := by
    unfold mvB at h
    cases h1 : hasB k x y <;> cases h2 : may dx <;> cases h3 : may dy <;> rw [h1, h2, h3] at h <;> simp at h ⊢
  obtain ⟨w0, hw0⟩ : ∃ w0, w0 = (w.alloc (.cells #[.int .i64 x, .int .i64 y] 23)).alloc (.cells #[.int .i64 0, .int .i64 0] 23) := ⟨_, rfl⟩
  have hs0 : Since w w0 := by rw [hw0]; exact ((Since.refl w).alloc _).alloc _
  have wh0 : Whole w0 (w.heap.size) 23 #[.int .i64 x, .int .i64 y] := by rw [hw0]; exact (Whole.new w _ _).alloc _
  have wh1 : Whole w0 (w.heap.size + 1) 23 #[.int .i64 0, .int .i64 0] := by rw [hw0]; exact (Whole.new (w.alloc _) _ _).at_ (by simp)
  have HW := Lib.hid hw0
  have c0_0 := box_cell wh0 0 (.int .i64 x) rfl
  have c0_1 := box_cell wh0 1 (.int .i64 y) rfl
  have c1_0 := box_cell wh1 0 (.int .i64 0) rfl
  have f1_0 := box_free wh1 0
  have c1_1 := box_cell wh1 1 (.int .i64 0) rfl
  have f1_1 := box_free wh1 1
  have hsr := Since.refl w0
  have hsd := hsr.drew
  clear hw0 wh0 wh1
  clear h
  rcases hc with h | ⟨h, h2⟩
  · replace h := Lib.hid h
    go_enter Try.func11, Try.ntmps11
    go_wp2_with fail
    rw [← HW.out]
    go_wp2_with (go_at_call 20; (with_reducible refine (Calls.since (by assumption) (refHas_at h.out _)).mono ?_); rintro e w2 ⟨rfl, hb2⟩)
    have g1 := c1_0 w2 hb2
    have g2 := c1_1 w2 hb2
    exact bodyPost_ret (v := .tuple #[.agg #[.int .i64 0, .int .i64 0], .int .i64 1]) (by simp [results, Try.results11, go_sem, g1, g2]) rfl ⟨rfl, Below.setCell (Below.setCell (hs0.trans hb2) (by simp) _) (by simp) _⟩
  · replace h := Lib.hid h
    have hd : dx < -1073741824 ∨ (¬ dx < -1073741824 ∧ 1073741824 < dx) ∨ (¬ dx < -1073741824 ∧ ¬ 1073741824 < dx ∧ dy < -1073741824) ∨ (¬ dx < -1073741824 ∧ ¬ 1073741824 < dx ∧ ¬ dy < -1073741824 ∧ 1073741824 < dy) := by
      rcases h2 with h2 | ⟨h2, h3⟩
      · have : ¬ (-1073741824 ≤ dx ∧ dx ≤ 1073741824) := fun e => by rw [(may_iff dx).2 e] at h2; cases h2
        omega
      · have e1 := (may_iff dx).1 h2
        have : ¬ (-1073741824 ≤ dy ∧ dy ≤ 1073741824) := fun e => by rw [(may_iff dy).2 e] at h3; cases h3
        omega
    clear h2
    rcases hd with n1 | ⟨n1, n2⟩ | ⟨n1, n2, n3⟩ | ⟨n1, n2, n3, n4⟩
    all_goals
      go_enter Try.func11, Try.ntmps11
      go_wp2_with fail
      rw [← HW.out]
      go_wp2_with (go_at_call 20; (with_reducible refine (Calls.since (by assumption) (refHas_at h.out _)).mono ?_); rintro e w2 ⟨rfl, hb2⟩)
      have g1 := c1_0 w2 hb2
      have g2 := c1_1 w2 hb2
      exact bodyPost_ret (v := .tuple #[.agg #[.int .i64 0, .int .i64 0], .int .i64 1]) (by simp [results, Try.results11, go_sem, g1, g2]) rfl ⟨rfl, Below.setCell (Below.setCell (hs0.trans hb2) (by simp) _) (by simp) _⟩
theorem refMove_any : Calls Try.prog 11 #[.int .i64 k, .agg #[.int .i64 x, .int .i64 y], .int .i64 dx, .int .i64 dy] w fun e w' => e = .returned (.tuple #[.agg #[.int .i64 (mvX k x y dx dy), .int .i64 (mvY k x y dx dy)], .int .i64 (mvE k x y dx dy)]) ∧ Below w.heap.size w w' := by
  cases h : mvB k x y dx dy with
  | true =>
    rw [show mvX k x y dx dy = (x + dx) % sd k by unfold mvX; rw [if_pos h], show mvY k x y dx dy = (y + dy) % sd k by unfold mvY; rw [if_pos h], show mvE k x y dx dy = 0 by unfold mvE; rw [if_pos h]]
    exact refMove_yes k x y dx dy w h
  | false =>
    rw [show mvX k x y dx dy = 0 by unfold mvX; rw [h]; rfl, show mvY k x y dx dy = 0 by unfold mvY; rw [h]; rfl, show mvE k x y dx dy = 1 by unfold mvE; rw [h]; rfl]
    exact refMove_no k x y dx dy w h
end
/-- What Number answers. -/
def nuN (k x y : Int) : Int := if hasB k x y then y * side k + x else 0
def nuE (k x y : Int) : Int := if hasB k x y then 0 else 1
theorem number_any (k x y : Int) (w : World) : Calls Try.prog 12 #[.agg #[.int .i64 k], .agg #[.int .i64 x, .int .i64 y]] w fun e w' => e = .returned (.tuple #[.int .i64 (nuN k x y), .int .i64 (nuE k x y)]) ∧ Below w.heap.size w w' := by
  cases h : hasB k x y with
  | true =>
    rw [show nuN k x y = y * side k + x by unfold nuN; rw [if_pos h], show nuE k x y = 0 by unfold nuE; rw [if_pos h]]
    exact number_yes k x y w h
  | false =>
    rw [show nuN k x y = 0 by unfold nuN; rw [h]; rfl, show nuE k x y = 1 by unfold nuE; rw [h]; rfl]
    exact number_no k x y w h
set_option maxHeartbeats 400000 in
theorem refNumber_any (k x y : Int) (w : World) : Calls Try.prog 13 #[.int .i64 k, .agg #[.int .i64 x, .int .i64 y]] w fun e w' => e = .returned (.tuple #[.int .i64 (nuN k x y), .int .i64 (nuE k x y)]) ∧ Below w.heap.size w w' := by
  cases h : hasB k x y with
  | true =>
    rw [show nuN k x y = y * side k + x by unfold nuN; rw [if_pos h], show nuE k x y = 0 by unfold nuE; rw [if_pos h]]
    have hb := (hasB_iff k x y).1 h
    have hs := side_bd k
    have hm : 0 ≤ y * side k ∧ y * side k ≤ 4294967296 := ⟨Int.mul_nonneg hb.2.2.1 hs.1, Int.le_trans (Int.mul_le_mul (show y ≤ 65536 by omega) hs.2 hs.1 (by omega)) (by omega)⟩
    have e1 : IntKind.i64.wrap (y * side k) = y * side k := IntWalk.i64_in _ (by omega)
    have e2 : IntKind.i64.wrap (y * side k + x) = y * side k + x := IntWalk.i64_in _ (by omega)
    obtain ⟨w0, hw0⟩ : ∃ w0, w0 = w.alloc (.cells #[.int .i64 x, .int .i64 y] 23) := ⟨_, rfl⟩
    have hs0 : Since w w0 := by rw [hw0]; exact (Since.refl w).alloc _
    have wh0 : Whole w0 (w.heap.size) 23 #[.int .i64 x, .int .i64 y] := by rw [hw0]; exact Whole.new w _ _
    have HW := Lib.hid hw0
    have c0_0 := box_cell wh0 0 (.int .i64 x) rfl
    have c0_1 := box_cell wh0 1 (.int .i64 y) rfl
    have hsr := Since.refl w0
    have hsd := hsr.drew
    clear hw0 wh0
    replace h := Lib.hid h
    clear hm hb hs
    go_enter Try.func13, Try.ntmps13
    go_wp2_with fail
    rw [← HW.out]
    go_wp2_with (go_at_call 20; (with_reducible refine (Calls.since (by assumption) (refHas_at h.out _)).mono ?_); rintro e w2 ⟨rfl, hb2⟩)
    go_region_held3 (fun W => Since w0 W) (first | assumption | exact Since.drew (by assumption)) ((first | (go_at_call 17; (with_reducible refine (Calls.since_same (by assumption) (refSide_any _ _)).mono ?_); rintro e w3 ⟨rfl, hb3⟩)))
    go_wp2
    go_ret2
    exact ⟨rfl, hs0.trans (by assumption)⟩
  | false =>
    rw [show nuN k x y = 0 by unfold nuN; rw [h]; rfl, show nuE k x y = 1 by unfold nuE; rw [h]; rfl]
    obtain ⟨w0, hw0⟩ : ∃ w0, w0 = w.alloc (.cells #[.int .i64 x, .int .i64 y] 23) := ⟨_, rfl⟩
    have hs0 : Since w w0 := by rw [hw0]; exact (Since.refl w).alloc _
    have wh0 : Whole w0 (w.heap.size) 23 #[.int .i64 x, .int .i64 y] := by rw [hw0]; exact Whole.new w _ _
    have HW := Lib.hid hw0
    have c0_0 := box_cell wh0 0 (.int .i64 x) rfl
    have c0_1 := box_cell wh0 1 (.int .i64 y) rfl
    have hsr := Since.refl w0
    have hsd := hsr.drew
    clear hw0 wh0
    replace h := Lib.hid h
    go_enter Try.func13, Try.ntmps13
    go_wp2_with fail
    rw [← HW.out]
    go_wp2_with (go_at_call 20; (with_reducible refine (Calls.since (by assumption) (refHas_at h.out _)).mono ?_); rintro e w2 ⟨rfl, hb2⟩)
    go_ret2
    exact ⟨rfl, hs0.trans hb2⟩
/-- What Cell answers. -/
def ceB (k n : Int) : Bool := decide (0 ≤ n ∧ n < side k * side k)
def ceX (k n : Int) : Int := if ceB k n then n % sd k else 0
def ceY (k n : Int) : Int := if ceB k n then n / sd k else 0
def ceE (k n : Int) : Int := if ceB k n then 0 else 1
theorem ceB_iff (k n : Int) : ceB k n = true ↔ 0 ≤ n ∧ n < side k * side k := by unfold ceB; exact decide_eq_true_iff
theorem ceB_no {k n : Int} (h : ceB k n = false) : ¬ (0 ≤ n ∧ n < side k * side k) := fun e => by rw [(ceB_iff k n).2 e] at h; cases h
theorem cell_any (k n : Int) (w : World) : Calls Try.prog 14 #[.agg #[.int .i64 k], .int .i64 n] w fun e w' => e = .returned (.tuple #[.agg #[.int .i64 (ceX k n), .int .i64 (ceY k n)], .int .i64 (ceE k n)]) ∧ Below w.heap.size w w' := by
  cases h : ceB k n with
  | true =>
    rw [show ceX k n = n % sd k by unfold ceX; rw [if_pos h], show ceY k n = n / sd k by unfold ceY; rw [if_pos h], show ceE k n = 0 by unfold ceE; rw [if_pos h]]
    exact cell_yes k n w ((ceB_iff k n).1 h)
  | false =>
    rw [show ceX k n = 0 by unfold ceX; rw [h]; rfl, show ceY k n = 0 by unfold ceY; rw [h]; rfl, show ceE k n = 1 by unfold ceE; rw [h]; rfl]
    exact cell_no k n w (ceB_no h)
set_option maxHeartbeats 400000 in
theorem refCell_yes (k n : Int) (w : World) (h : 0 ≤ n ∧ n < side k * side k) : Calls Try.prog 15 #[.int .i64 k, .int .i64 n] w fun e w' => e = .returned (.tuple #[.agg #[.int .i64 (n % sd k), .int .i64 (n / sd k)], .int .i64 0]) ∧ Below w.heap.size w w' := by
  have hr := area_no h
  have h1 : 0 < side k := by have := sd_pos k; rwa [sd_yes hr] at this
  have h2 := (side_bd k).2
  have hm := area_bd k
  obtain ⟨h3, h4⟩ := h
  rw [sd_yes hr]
  have hz : ¬ side k = 0 := by omega
  have hz2 : ¬ side k = -1 := by omega
  have q1 : n.tmod (side k) = n % side k := Int.tmod_eq_emod_of_nonneg h3
  have q2 : n.tdiv (side k) = n / side k := Int.tdiv_eq_ediv_of_nonneg h3
  have q3 : IntKind.i64.wrap (n / side k) = n / side k := by
    have e1 := Int.ediv_nonneg h3 (show 0 ≤ side k by omega)
    have e2 := Int.ediv_le_self (side k) h3
    exact IntWalk.i64_in _ (by omega)
  obtain ⟨w0, hw0⟩ : ∃ w0, w0 = w.alloc (.cells #[.int .i64 0, .int .i64 0] 23) := ⟨_, rfl⟩
  have hs0 : Since w w0 := by rw [hw0]; exact (Since.refl w).alloc _
  have wh0 : Whole w0 (w.heap.size) 23 #[.int .i64 0, .int .i64 0] := by rw [hw0]; exact Whole.new w _ _
  have HW := Lib.hid hw0
  have c0_0 := box_cell wh0 0 (.int .i64 0) rfl
  have f0_0 := box_free wh0 0
  have c0_1 := box_cell wh0 1 (.int .i64 0) rfl
  have f0_1 := box_free wh0 1
  have hsr := Since.refl w0
  have hsd := hsr.drew
  clear hw0 wh0
  clear hr
  go_enter Try.func15, Try.ntmps15
  go_wp2_with fail
  rw [← HW.out]
  have hsb := hsr.but (w.heap.size)
  go_wp2_with (go_at_call 17; (with_reducible refine (Calls.since_same (by assumption) (refSide_any _ _)).mono ?_); rintro e w1 ⟨rfl, hb1⟩)
  have hb1d := hb1.drew
  go_region_held3 (fun W => But w.heap.size w0 W) (first | assumption | exact Since.but (Since.drew (by assumption)) _ | exact Since.but (by assumption) _ | exact But.set2 (by assumption) _ _ _ _) ((first | (go_at_call 17; (with_reducible refine (Calls.since_same (by assumption) (refSide_any _ _)).mono ?_); rintro e w3 ⟨rfl, hb3⟩)))
  go_wp2
  have g1 := c0_0 w3 hb3
  have g2 := c0_1 w3 hb3
  exact bodyPost_ret (v := .tuple #[.agg #[.int .i64 (n % side k), .int .i64 (n / side k)], .int .i64 0]) (by simp [results, Try.results15, go_sem, g1, g2]) rfl ⟨rfl, Below.setCell (Below.setCell (hs0.trans hb3) (by simp) _) (by simp) _⟩
theorem refCell_no (k n : Int) (w : World) (h : ¬ (0 ≤ n ∧ n < side k * side k)) : Calls Try.prog 15 #[.int .i64 k, .int .i64 n] w fun e w' => e = .returned (.tuple #[.agg #[.int .i64 0, .int .i64 0], .int .i64 1]) ∧ Below w.heap.size w w' := by
  have hm := area_bd k
  by_cases h0 : n < 0
  · clear h
    go_enter Try.func15, Try.ntmps15
    go_wp2
    exact bodyPost_ret (v := .tuple #[.agg #[.int .i64 0, .int .i64 0], .int .i64 1]) (by simp [results, Try.results15, go_sem]) rfl ⟨rfl, (Since.refl w).alloc _⟩
  · have h2 : side k * side k ≤ n := by omega
    clear h
    go_enter Try.func15, Try.ntmps15
    go_wp2_with (go_at_call 17; (with_reducible refine (refSide_any _ _).mono ?_); rintro e w' ⟨rfl, rfl⟩)
    exact bodyPost_ret (v := .tuple #[.agg #[.int .i64 0, .int .i64 0], .int .i64 1]) (by simp [results, Try.results15, go_sem]) rfl ⟨rfl, (Since.refl w).alloc _⟩
theorem refCell_any (k n : Int) (w : World) : Calls Try.prog 15 #[.int .i64 k, .int .i64 n] w fun e w' => e = .returned (.tuple #[.agg #[.int .i64 (ceX k n), .int .i64 (ceY k n)], .int .i64 (ceE k n)]) ∧ Below w.heap.size w w' := by
  cases h : ceB k n with
  | true =>
    rw [show ceX k n = n % sd k by unfold ceX; rw [if_pos h], show ceY k n = n / sd k by unfold ceY; rw [if_pos h], show ceE k n = 0 by unfold ceE; rw [if_pos h]]
    exact refCell_yes k n w ((ceB_iff k n).1 h)
  | false =>
    rw [show ceX k n = 0 by unfold ceX; rw [h]; rfl, show ceY k n = 0 by unfold ceY; rw [h]; rfl, show ceE k n = 1 by unfold ceE; rw [h]; rfl]
    exact refCell_no k n w (ceB_no h)
end Go.Proofs.Ytgnligeiojdmhaa
