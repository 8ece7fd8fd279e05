/- torus.away, Ring: how many cells are so far. -/
import Derived.Test.YtgnligeiojdmhaaTDist
namespace Go.Proofs.Ytgnligeiojdmhaa
open Go.RowKit
/-- How many numbers are so far from one. -/
def awy (d h : Int) : Int := if d = 0 ∨ d = h then 1 else 2
theorem awy_bd (d h : Int) : 1 ≤ awy d h ∧ awy d h ≤ 2 := by unfold awy; split <;> omega
theorem awy_mul (a b h : Int) : 1 ≤ awy a h * awy b h ∧ awy a h * awy b h ≤ 4 := by
  unfold awy
  split <;> split <;> omega
theorem awy_any (d h : Int) (w : World) : Calls Try.prog 35 #[.int .i64 d, .int .i64 h] w fun e w' => e = .returned (.int .i64 (awy d h)) ∧ w = w' := by
  by_cases h1 : d = 0
  · rw [show awy d h = 1 from if_pos (.inl h1)]
    have n1 : (d == 0) = true := by rw [beq_iff_eq]; exact h1
    clear h1
    go_enter Try.func35, Try.ntmps35
    go_wp2
    go_ret
    exact ⟨rfl, rfl⟩
  · have n1 : (d == 0) = false := beq_eq_false_iff_ne.2 h1
    by_cases h2 : d = h
    · rw [show awy d h = 1 from if_pos (.inr h2)]
      have n2 : (d == h) = true := by rw [beq_iff_eq]; exact h2
      clear h1 h2
      go_enter Try.func35, Try.ntmps35
      go_wp2
      go_ret
      exact ⟨rfl, rfl⟩
    · rw [show awy d h = 2 from if_neg (by omega)]
      have n2 : (d == h) = false := beq_eq_false_iff_ne.2 h2
      clear h1 h2
      go_enter Try.func35, Try.ntmps35
      go_wp2
      go_ret
      exact ⟨rfl, rfl⟩
/-- The cells so far away, by how far in X: n of these, from least on. -/
def ringS (half d least : Int) : Nat → Int
  | 0 => 0
  | n + 1 => ringS half d least n + awy (least + n) half * awy (d - (least + n)) half
theorem ringS_bd (half d least : Int) (n : Nat) : 0 ≤ ringS half d least n ∧ ringS half d least n ≤ 4 * n := by
  induction n with
  | zero => exact ⟨Int.le_refl _, Int.le_refl _⟩
  | succ n ih =>
    have := awy_mul (least + n) (d - (least + n)) half
    unfold ringS
    omega
theorem ring_step (half d least : Int) (n : Nat) (h : n ≤ 100000) : wrap64 (ringS half d least n + wrap64 (awy (least + n) half * awy (d - (least + n)) half)) = ringS half d least (n + 1) := by
  have h1 := awy_mul (least + n) (d - (least + n)) half
  have h2 := ringS_bd half d least n
  rw [IntWalk.wrap64_in (awy (least + n) half * awy (d - (least + n)) half) ⟨by omega, by omega⟩, IntWalk.wrap64_in _ ⟨by omega, by omega⟩]
  rfl
theorem ring_step0 (half d : Int) (n : Nat) (h : n ≤ 100000) : wrap64 (ringS half d 0 n + wrap64 (awy n half * awy (d - n) half)) = ringS half d 0 (n + 1) := by
  have := ring_step half d 0 n h
  rwa [Int.zero_add] at this
/-- The ring of a distance that may be, half the side being m. -/
def ringM (m d : Nat) : Int := ringS m d ((d - m : Nat) : Int) (min d m - (d - m) + 1)
/-- How many cells are so far from p. -/
def ring (k px py d : Int) : Int := if hasB k px py && decide (0 ≤ d ∧ d ≤ side k) then ringM (side k / 2).toNat d.toNat else 0
set_option maxHeartbeats 800000 in
theorem ring_low (k px py : Int) (d m : Nat) (w : World) (ha : hasB k px py = true) (hm : side k = 2 * (m : Int)) (hm2 : 1 ≤ m ∧ m ≤ 32768) (hd : d ≤ m) : Calls Try.prog 28 #[.agg #[.int .i64 k], .agg #[.int .i64 px, .int .i64 py], .int .i64 d] w fun e w' => e = .returned (.int .i64 (ringS m d 0 (d + 1))) ∧ Below w.heap.size w w' := by
  obtain ⟨w0, hw0⟩ : ∃ w0, w0 = (w.alloc (.cells #[.int .i64 k] 25)).alloc (.cells #[.int .i64 px, .int .i64 py] 23) := ⟨_, rfl⟩
  have hs0 : Since w w0 := by rw [hw0]; exact ((Since.refl w).alloc _).alloc _
  have wh0 : Whole w0 (w.heap.size) 25 #[.int .i64 k] := by rw [hw0]; exact (Whole.new w _ _).alloc _
  have wh1 : Whole w0 (w.heap.size + 1) 23 #[.int .i64 px, .int .i64 py] := by rw [hw0]; exact (Whole.new (w.alloc _) _ _).at_ (by simp)
  have HW := Lib.hid hw0
  have c0_0 := box_cell wh0 0 (.int .i64 k) rfl
  have c1_0 := box_cell wh1 0 (.int .i64 px) rfl
  have c1_1 := box_cell wh1 1 (.int .i64 py) rfl
  have hsr := Since.refl w0
  have hsd := hsr.drew
  clear hw0 wh0 wh1
  replace ha := Lib.hid ha
  replace hm := Lib.hid hm
  go_enter Try.func28, Try.ntmps28
  go_wp2_with fail
  rw [← HW.out]
  go_wp2_with (first
    | (go_at_call 19; (with_reducible refine (Calls.since (by assumption) (has_at ha.out _)).mono ?_); rintro e w' ⟨rfl, hb1⟩)
    | (go_at_call 16; (with_reducible refine (Calls.since (by assumption) (side_any _ _)).mono ?_); rintro e w' ⟨rfl, hb1⟩; rw [hm.out]))
  go_loop [9, 39] (fun s c => ∃ i : Nat, i ≤ d + 1 ∧ c = .int .i64 i ∧ s = .int .i64 (ringS m d 0 i)) (fun _ c => d + 1 - (intOf c).toNat)
  case atStart => exact ⟨0, Nat.zero_le _, rfl, rfl⟩
  case round =>
    obtain ⟨i, hi, rfl, rfl⟩ := hrel
    have hb9 := ringS_bd m d 0 i
    by_cases hlt : i < d + 1
    · go_wp2_with ((go_at_call 35; (with_reducible refine (awy_any _ _ _).mono ?_); rintro e w' ⟨rfl, rfl⟩))
      go_round
      case rel => exact ⟨i + 1, by omega, by go_num, by rw [ring_step0 _ _ _ (by omega)]⟩
      case measure => simp [intOf]; omega
    · obtain rfl : i = d + 1 := by omega
      go_wp2
      go_ret
      exact ⟨rfl, hs0.trans (by assumption)⟩
set_option maxHeartbeats 800000 in
theorem ring_high (k px py : Int) (l m n : Nat) (w : World) (ha : hasB k px py = true) (hm : side k = 2 * (m : Int)) (hm2 : 1 ≤ m ∧ m ≤ 32768) (hl : 1 ≤ l) (hl2 : l ≤ m) (hn : n + l = m + 1) : Calls Try.prog 28 #[.agg #[.int .i64 k], .agg #[.int .i64 px, .int .i64 py], .int .i64 ((l : Int) + m)] w fun e w' => e = .returned (.int .i64 (ringS m ((l : Int) + m) l n)) ∧ Below w.heap.size w w' := by
  have q1 : (l : Int) + m - m = l := by omega
  have q2 : (m : Int) - l + 1 = n := by omega
  have q3 : (1 : Int) ≤ l := by omega
  have q4 : (l : Int) ≤ m := by omega
  have q5 : decide ((l : Int) + m < 0) = false := decide_eq_false (by omega)
  have q6 : decide (2 * (m : Int) < (l : Int) + m) = false := decide_eq_false (by omega)
  obtain ⟨w0, hw0⟩ : ∃ w0, w0 = (w.alloc (.cells #[.int .i64 k] 25)).alloc (.cells #[.int .i64 px, .int .i64 py] 23) := ⟨_, rfl⟩
  have hs0 : Since w w0 := by rw [hw0]; exact ((Since.refl w).alloc _).alloc _
  have wh0 : Whole w0 (w.heap.size) 25 #[.int .i64 k] := by rw [hw0]; exact (Whole.new w _ _).alloc _
  have wh1 : Whole w0 (w.heap.size + 1) 23 #[.int .i64 px, .int .i64 py] := by rw [hw0]; exact (Whole.new (w.alloc _) _ _).at_ (by simp)
  have HW := Lib.hid hw0
  have c0_0 := box_cell wh0 0 (.int .i64 k) rfl
  have c1_0 := box_cell wh1 0 (.int .i64 px) rfl
  have c1_1 := box_cell wh1 1 (.int .i64 py) rfl
  have hsr := Since.refl w0
  have hsd := hsr.drew
  clear hw0 wh0 wh1
  replace ha := Lib.hid ha
  replace hm := Lib.hid hm
  go_enter Try.func28, Try.ntmps28
  go_wp2_with fail
  rw [← HW.out]
  go_wp2_with (first
    | (go_at_call 19; (with_reducible refine (Calls.since (by assumption) (has_at ha.out _)).mono ?_); rintro e w' ⟨rfl, hb1⟩)
    | (go_at_call 16; (with_reducible refine (Calls.since (by assumption) (side_any _ _)).mono ?_); rintro e w' ⟨rfl, hb1⟩; rw [hm.out]))
  go_loop [9, 39] (fun s c => ∃ i : Nat, i ≤ n ∧ c = .int .i64 i ∧ s = .int .i64 (ringS m ((l : Int) + m) l i)) (fun _ c => n - (intOf c).toNat)
  case atStart => exact ⟨0, Nat.zero_le _, rfl, rfl⟩
  case round =>
    obtain ⟨i, hi, rfl, rfl⟩ := hrel
    have hb9 := ringS_bd m ((l : Int) + m) l i
    by_cases hlt : i < n
    · go_wp2_with ((go_at_call 35; (with_reducible refine (awy_any _ _ _).mono ?_); rintro e w' ⟨rfl, rfl⟩))
      go_round
      case rel => exact ⟨i + 1, by omega, by go_num, by rw [ring_step _ _ _ _ (by omega)]⟩
      case measure => simp [intOf]; omega
    · obtain rfl : i = n := by omega
      go_wp2
      go_ret
      exact ⟨rfl, hs0.trans (by assumption)⟩
theorem ring_at (k px py : Int) (d m : Nat) (w : World) (ha : hasB k px py = true) (hm : side k = 2 * (m : Int)) (hm2 : 1 ≤ m ∧ m ≤ 32768) (hd : d ≤ 2 * m) : Calls Try.prog 28 #[.agg #[.int .i64 k], .agg #[.int .i64 px, .int .i64 py], .int .i64 (d : Int)] w fun e w' => e = .returned (.int .i64 (ringM m d)) ∧ Below w.heap.size w w' := by
  by_cases h : d ≤ m
  · have e : ringM m d = ringS m d 0 (d + 1) := by unfold ringM; rw [show d - m = 0 by omega, show min d m - 0 + 1 = d + 1 by omega]; rfl
    rw [e]
    exact ring_low k px py d m w ha hm hm2 h
  · obtain ⟨l, rfl⟩ : ∃ l, d = l + m := ⟨d - m, by omega⟩
    have e : ringM m (l + m) = ringS m ((l : Int) + m) l (m - l + 1) := by unfold ringM; rw [show l + m - m = l by omega, show min (l + m) m - l + 1 = m - l + 1 by omega]; rfl
    rw [e, show ((l + m : Nat) : Int) = (l : Int) + m by omega]
    exact ring_high k px py l m (m - l + 1) w ha hm hm2 (by omega) (by omega) (by omega)
end Go.Proofs.Ytgnligeiojdmhaa
