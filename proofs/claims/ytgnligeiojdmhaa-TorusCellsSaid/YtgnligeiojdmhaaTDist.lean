/- torus.Apart, Dist, nearer: how far. -/
import Derived.Test.YtgnligeiojdmhaaTCell
namespace Go.Proofs.Ytgnligeiojdmhaa
open Go.RowKit
/-- How far apart two numbers are; -1 of others. -/
def apart (k a b : Int) : Int := if inB k a && inB k b then min ((b - a) % sd k) ((a - b) % sd k) else -1
/-- The distance of two cells; -1 of others. -/
def dist (k px py qx qy : Int) : Int := if hasB k px py && hasB k qx qy then apart k px qx + apart k py qy else -1
theorem within_at {k a : Int} {b : Bool} (h : inB k a = b) (w : World) : Calls Try.prog 36 #[.agg #[.int .i64 k], .int .i64 a] w fun e w' => e = .returned (.bool b) ∧ Below w.heap.size w w' := h ▸ within_any k a w
theorem mod_bd (k x : Int) : 0 ≤ x % sd k ∧ x % sd k ≤ 65536 := by
  have h := sd_pos k
  have h2 := sd_le k
  have h3 := Int.emod_lt_of_pos x h
  exact ⟨Int.emod_nonneg _ (by omega), by omega⟩
set_option maxHeartbeats 400000 in
theorem apart_any (k a b : Int) (w : World) : Calls Try.prog 33 #[.agg #[.int .i64 k], .int .i64 a, .int .i64 b] w fun e w' => e = .returned (.int .i64 (apart k a b)) ∧ Below w.heap.size w w' := by
  obtain ⟨w0, hw0⟩ : ∃ w0, w0 = w.alloc (.cells #[.int .i64 k] 25) := ⟨_, rfl⟩
  have hs0 : Since w w0 := by rw [hw0]; exact (Since.refl w).alloc _
  have wh0 : Whole w0 (w.heap.size) 25 #[.int .i64 k] := by rw [hw0]; exact Whole.new w _ _
  have HW := Lib.hid hw0
  have c0_0 := box_cell wh0 0 (.int .i64 k) rfl
  have hsr := Since.refl w0
  have hsd := hsr.drew
  clear hw0 wh0
  cases ha : inB k a with
  | false =>
    rw [show apart k a b = -1 by unfold apart; rw [ha]; rfl]
    replace ha := Lib.hid ha
    go_enter Try.func33, Try.ntmps33
    go_wp2_with fail
    rw [← HW.out]
    go_wp2_with ((go_at_call 36; (with_reducible refine (Calls.since (by assumption) (within_at ha.out _)).mono ?_); rintro e w' ⟨rfl, hb1⟩))
    go_ret
    exact ⟨rfl, hs0.trans hb1⟩
  | true =>
    cases hb : inB k b with
    | false =>
      rw [show apart k a b = -1 by unfold apart; rw [ha, hb]; rfl]
      replace ha := Lib.hid ha
      replace hb := Lib.hid hb
      go_enter Try.func33, Try.ntmps33
      go_wp2_with fail
      rw [← HW.out]
      go_wp2_with (go_at_call 36; (with_reducible refine (Calls.since (by assumption) (within_at (by first | exact ha.out | exact hb.out) _)).mono ?_); rintro e w' ⟨rfl, hb1⟩)
      go_ret
      exact ⟨rfl, hs0.trans (by assumption)⟩
    | true =>
      rw [show apart k a b = min ((b - a) % sd k) ((a - b) % sd k) by unfold apart; rw [ha, hb]; rfl]
      replace ha := Lib.hid ha
      replace hb := Lib.hid hb
      go_enter Try.func33, Try.ntmps33
      go_wp2_with fail
      rw [← HW.out]
      go_wp2_with (go_at_call 36; (with_reducible refine (Calls.since (by assumption) (within_at (by first | exact ha.out | exact hb.out) _)).mono ?_); rintro e w' ⟨rfl, hb1⟩)
      go_region_held3 (fun W => Since w0 W) (first | assumption | exact Since.drew (by assumption))
        (((go_at_call 37; (with_reducible refine (Calls.since (by assumption) (up_any _ _ _ _)).mono ?_); rintro e w3 ⟨rfl, hb3⟩)))
      go_wp2
      all_goals
        go_ret
        exact ⟨ret_int (by omega), hs0.trans (by assumption)⟩
theorem apart_bd (k a b : Int) : -1 ≤ apart k a b ∧ apart k a b ≤ 65536 := by
  have h1 := mod_bd k (b - a)
  have h2 := mod_bd k (a - b)
  unfold apart
  split <;> omega
set_option maxHeartbeats 400000 in
theorem dist_any (k px py qx qy : Int) (w : World) : Calls Try.prog 26 #[.agg #[.int .i64 k], .agg #[.int .i64 px, .int .i64 py], .agg #[.int .i64 qx, .int .i64 qy]] w fun e w' => e = .returned (.int .i64 (dist k px py qx qy)) ∧ Below w.heap.size w w' := by
  have hx := apart_bd k px qx
  have hy := apart_bd k py qy
  obtain ⟨w0, hw0⟩ : ∃ w0, w0 = ((w.alloc (.cells #[.int .i64 k] 25)).alloc (.cells #[.int .i64 px, .int .i64 py] 23)).alloc (.cells #[.int .i64 qx, .int .i64 qy] 23) := ⟨_, rfl⟩
  have hs0 : Since w w0 := by rw [hw0]; exact (((Since.refl w).alloc _).alloc _).alloc _
  have wh0 : Whole w0 (w.heap.size) 25 #[.int .i64 k] := by rw [hw0]; exact ((Whole.new w _ _).alloc _).alloc _
  have wh1 : Whole w0 (w.heap.size + 1) 23 #[.int .i64 px, .int .i64 py] := by rw [hw0]; exact ((Whole.new (w.alloc _) _ _).alloc _).at_ (by simp)
  have wh2 : Whole w0 (w.heap.size + 1 + 1) 23 #[.int .i64 qx, .int .i64 qy] := by rw [hw0]; exact (Whole.new ((w.alloc _).alloc _) _ _).at_ (by simp)
  have HW := Lib.hid hw0
  have c0_0 := box_cell wh0 0 (.int .i64 k) rfl
  have c1_0 := box_cell wh1 0 (.int .i64 px) rfl
  have c1_1 := box_cell wh1 1 (.int .i64 py) rfl
  have c2_0 := box_cell wh2 0 (.int .i64 qx) rfl
  have c2_1 := box_cell wh2 1 (.int .i64 qy) rfl
  have hsr := Since.refl w0
  have hsd := hsr.drew
  clear hw0 wh0 wh1 wh2
  cases ha : hasB k px py with
  | false =>
    rw [show dist k px py qx qy = -1 by unfold dist; rw [ha]; rfl]
    replace ha := Lib.hid ha
    go_enter Try.func26, Try.ntmps26
    go_wp2_with fail
    rw [← HW.out]
    go_wp2_with ((go_at_call 19; (with_reducible refine (Calls.since (by assumption) (has_at ha.out _)).mono ?_); rintro e w' ⟨rfl, hb1⟩))
    go_ret
    exact ⟨rfl, hs0.trans hb1⟩
  | true =>
    cases hb : hasB k qx qy with
    | false =>
      rw [show dist k px py qx qy = -1 by unfold dist; rw [ha, hb]; rfl]
      replace ha := Lib.hid ha
      replace hb := Lib.hid hb
      go_enter Try.func26, Try.ntmps26
      go_wp2_with fail
      rw [← HW.out]
      go_wp2_with (go_at_call 19; (with_reducible refine (Calls.since (by assumption) (has_at (by first | exact ha.out | exact hb.out) _)).mono ?_); rintro e w' ⟨rfl, hb1⟩)
      go_ret
      exact ⟨rfl, hs0.trans (by assumption)⟩
    | true =>
      rw [show dist k px py qx qy = apart k px qx + apart k py qy by unfold dist; rw [ha, hb]; rfl]
      replace ha := Lib.hid ha
      replace hb := Lib.hid hb
      go_enter Try.func26, Try.ntmps26
      go_wp2_with fail
      rw [← HW.out]
      go_wp2_with (go_at_call 19; (with_reducible refine (Calls.since (by assumption) (has_at (by first | exact ha.out | exact hb.out) _)).mono ?_); rintro e w' ⟨rfl, hb1⟩)
      go_region_held3 (fun W => Since w0 W) (first | assumption | exact Since.drew (by assumption))
        (((go_at_call 33; (with_reducible refine (Calls.since (by assumption) (apart_any _ _ _ _)).mono ?_); rintro e w3 ⟨rfl, hb3⟩)))
      go_wp2
      go_ret
      exact ⟨ret_int (IntWalk.i64_in _ (by omega)), hs0.trans (by assumption)⟩
/-- The step towards b. -/
def near (k a b : Int) : Int := if (b - a) % sd k ≤ (a - b) % sd k then 1 else -1
set_option maxHeartbeats 400000 in
theorem near_any (k a b : Int) (w : World) : Calls Try.prog 34 #[.agg #[.int .i64 k], .int .i64 a, .int .i64 b] w fun e w' => e = .returned (.int .i64 (near k a b)) ∧ Below w.heap.size w w' := by
  obtain ⟨w0, hw0⟩ : ∃ w0, w0 = w.alloc (.cells #[.int .i64 k] 25) := ⟨_, rfl⟩
  have hs0 : Since w w0 := by rw [hw0]; exact (Since.refl w).alloc _
  have wh0 : Whole w0 (w.heap.size) 25 #[.int .i64 k] := by rw [hw0]; exact Whole.new w _ _
  have HW := Lib.hid hw0
  have c0_0 := box_cell wh0 0 (.int .i64 k) rfl
  have hsr := Since.refl w0
  have hsd := hsr.drew
  clear hw0 wh0
  by_cases h : (b - a) % sd k ≤ (a - b) % sd k
  · rw [show near k a b = 1 from if_pos h]
    have hd : decide ((b - a) % sd k ≤ (a - b) % sd k) = true := decide_eq_true h
    clear h
    go_enter Try.func34, Try.ntmps34
    go_wp2
    rw [← HW.out]
    go_region_held3 (fun W => Since w0 W) (first | assumption | exact Since.drew (by assumption))
      (((go_at_call 37; (with_reducible refine (Calls.since (by assumption) (up_any _ _ _ _)).mono ?_); rintro e w3 ⟨rfl, hb3⟩)))
    go_wp2
    go_ret
    exact ⟨rfl, hs0.trans (by assumption)⟩
  · rw [show near k a b = -1 from if_neg h]
    have hd : decide ((b - a) % sd k ≤ (a - b) % sd k) = false := decide_eq_false h
    clear h
    go_enter Try.func34, Try.ntmps34
    go_wp2
    rw [← HW.out]
    go_region_held3 (fun W => Since w0 W) (first | assumption | exact Since.drew (by assumption))
      (((go_at_call 37; (with_reducible refine (Calls.since (by assumption) (up_any _ _ _ _)).mono ?_); rintro e w3 ⟨rfl, hb3⟩)))
    go_wp2
    go_ret
    exact ⟨rfl, hs0.trans (by assumption)⟩
end Go.Proofs.Ytgnligeiojdmhaa
