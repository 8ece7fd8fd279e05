/- torus.Apart, Dist, nearer: how far. torus.Toward: the next cell on the way. torus.away, Ring: how many cells are so far. What distances keep: in numbers. What the laws of the torus share: num, on, at, knows. -/
import Derived.Test.YtgnhamhkpbadbaaTBase
namespace Go.Proofs.Ytgnhamhkpbadbaa
open Go.RowKit
/-- How far apart two numbers are; -1 of others. -/
def apart (k a b : Int) : Int := if inB k a && inB k b then min ((b - a) % sd k) ((a - b) % sd k) else -1
/-- The distance of two cells; -1 of others. -/
def dist (k px py qx qy : Int) : Int := if hasB k px py && hasB k qx qy then apart k px qx + apart k py qy else -1
theorem within_at {k a : Int} {b : Bool} (h : inB k a = b) (w : World) : Calls Try.prog 131 #[.agg #[.int .i64 k], .int .i64 a] w fun e w' => e = .returned (.bool b) ∧ Below w.heap.size w w' := h ▸ within_any k a w
theorem mod_bd (k x : Int) : 0 ≤ x % sd k ∧ x % sd k ≤ 65536 := by
  have h := sd_pos k
  have h2 := sd_le k
  have h3 := Int.emod_lt_of_pos x h
  exact ⟨Int.emod_nonneg _ (by omega), by omega⟩
set_option maxHeartbeats 400000 in
theorem apart_any (k a b : Int) (w : World) : Calls Try.prog 121 #[.agg #[.int .i64 k], .int .i64 a, .int .i64 b] w fun e w' => e = .returned (.int .i64 (apart k a b)) ∧ Below w.heap.size w w' := by
  obtain ⟨w0, hw0⟩ : ∃ w0, w0 = w.alloc (.cells #[.int .i64 k] 65) := ⟨_, rfl⟩
  have hs0 : Since w w0 := by rw [hw0]; exact (Since.refl w).alloc _
  have wh0 : Whole w0 (w.heap.size) 65 #[.int .i64 k] := by rw [hw0]; exact Whole.new w _ _
  have HW := Lib.hid hw0
  have c0_0 := box_cell wh0 0 (.int .i64 k) rfl
  have hsr := Since.refl w0
  have hsd := hsr.drew
  clear hw0 wh0
  cases ha : inB k a with
  | false =>
    rw [show apart k a b = -1 by unfold apart; rw [ha]; rfl]
    replace ha := Lib.hid ha
    go_enter Try.func121, Try.ntmps121
    go_wp2_with fail
    rw [← HW.out]
    go_wp2_with ((go_at_call 131; (with_reducible refine (Calls.since (by assumption) (within_at ha.out _)).mono ?_); rintro e w' ⟨rfl, hb1⟩))
    go_ret
    exact ⟨rfl, hs0.trans hb1⟩
  | true =>
    cases hb : inB k b with
    | false =>
      rw [show apart k a b = -1 by unfold apart; rw [ha, hb]; rfl]
      replace ha := Lib.hid ha
      replace hb := Lib.hid hb
      go_enter Try.func121, Try.ntmps121
      go_wp2_with fail
      rw [← HW.out]
      go_wp2_with (go_at_call 131; (with_reducible refine (Calls.since (by assumption) (within_at (by first | exact ha.out | exact hb.out) _)).mono ?_); rintro e w' ⟨rfl, hb1⟩)
      go_ret
      exact ⟨rfl, hs0.trans (by assumption)⟩
    | true =>
      rw [show apart k a b = min ((b - a) % sd k) ((a - b) % sd k) by unfold apart; rw [ha, hb]; rfl]
      replace ha := Lib.hid ha
      replace hb := Lib.hid hb
      go_enter Try.func121, Try.ntmps121
      go_wp2_with fail
      rw [← HW.out]
      go_wp2_with (go_at_call 131; (with_reducible refine (Calls.since (by assumption) (within_at (by first | exact ha.out | exact hb.out) _)).mono ?_); rintro e w' ⟨rfl, hb1⟩)
      go_region_held3 (fun W => Since w0 W) (first | assumption | exact Since.drew (by assumption))
        (((go_at_call 132; (with_reducible refine (Calls.since (by assumption) (up_any _ _ _ _)).mono ?_); rintro e w3 ⟨rfl, hb3⟩)))
      go_wp2
      all_goals
        go_ret
        exact ⟨ret_int (by omega), hs0.trans (by assumption)⟩
theorem apart_bd (k a b : Int) : -1 ≤ apart k a b ∧ apart k a b ≤ 65536 := by
  have h1 := mod_bd k (b - a)
  have h2 := mod_bd k (a - b)
  unfold apart
  split <;> omega
/-- The step towards b. -/
def near (k a b : Int) : Int := if (b - a) % sd k ≤ (a - b) % sd k then 1 else -1
end Go.Proofs.Ytgnhamhkpbadbaa
namespace Go.Proofs.Ytgnhamhkpbadbaa
open Go.RowKit
theorem near_bd (k a b : Int) : -1 ≤ near k a b ∧ near k a b ≤ 1 := by unfold near; split <;> omega
end Go.Proofs.Ytgnhamhkpbadbaa
namespace Go.Proofs.Ytgnhamhkpbadbaa
open Go.RowKit
/-- How many numbers are so far from one. -/
def awy (d h : Int) : Int := if d = 0 ∨ d = h then 1 else 2
theorem awy_bd (d h : Int) : 1 ≤ awy d h ∧ awy d h ≤ 2 := by unfold awy; split <;> omega
theorem awy_mul (a b h : Int) : 1 ≤ awy a h * awy b h ∧ awy a h * awy b h ≤ 4 := by
  unfold awy
  split <;> split <;> omega
/-- The cells so far away, by how far in X: n of these, from least on. -/
def ringS (half d least : Int) : Nat → Int
  | 0 => 0
  | n + 1 => ringS half d least n + awy (least + n) half * awy (d - (least + n)) half
theorem ringS_bd (half d least : Int) (n : Nat) : 0 ≤ ringS half d least n ∧ ringS half d least n ≤ 4 * n := by
  induction n with
  | zero => exact ⟨Int.le_refl _, Int.le_refl _⟩
  | succ n ih =>
    have := awy_mul (least + n) (d - (least + n)) half
    unfold ringS
    omega
theorem ring_step (half d least : Int) (n : Nat) (h : n ≤ 100000) : wrap64 (ringS half d least n + wrap64 (awy (least + n) half * awy (d - (least + n)) half)) = ringS half d least (n + 1) := by
  have h1 := awy_mul (least + n) (d - (least + n)) half
  have h2 := ringS_bd half d least n
  rw [IntWalk.wrap64_in (awy (least + n) half * awy (d - (least + n)) half) ⟨by omega, by omega⟩, IntWalk.wrap64_in _ ⟨by omega, by omega⟩]
  rfl
theorem ring_step0 (half d : Int) (n : Nat) (h : n ≤ 100000) : wrap64 (ringS half d 0 n + wrap64 (awy n half * awy (d - n) half)) = ringS half d 0 (n + 1) := by
  have := ring_step half d 0 n h
  rwa [Int.zero_add] at this
/-- The ring of a distance that may be, half the side being m. -/
def ringM (m d : Nat) : Int := ringS m d ((d - m : Nat) : Int) (min d m - (d - m) + 1)
/-- How many cells are so far from p. -/
def ring (k px py d : Int) : Int := if hasB k px py && decide (0 ≤ d ∧ d ≤ side k) then ringM (side k / 2).toNat d.toNat else 0
end Go.Proofs.Ytgnhamhkpbadbaa
namespace Go.Proofs.Ytgnhamhkpbadbaa
open Go.RowKit
theorem emod_sub {s a b : Int} (ha : 0 ≤ a ∧ a < s) (hb : 0 ≤ b ∧ b < s) : (b - a) % s = if a ≤ b then b - a else b - a + s := by
  split
  · exact Int.emod_eq_of_lt (by omega) (by omega)
  · rw [← Int.add_emod_right, Int.emod_eq_of_lt (by omega) (by omega)]
theorem apart_eq {k a b : Int} (ha : inB k a = true) (hb : inB k b = true) : apart k a b = min (if a ≤ b then b - a else b - a + side k) (if b ≤ a then a - b else a - b + side k) := by
  have h1 := (inB_iff k a).1 ha
  have h2 := (inB_iff k b).1 hb
  have hr : rgt k = true := by
    cases e : rgt k with
    | true => rfl
    | false => have := side_no e; omega
  unfold apart
  rw [ha, hb, sd_yes hr, emod_sub h1 h2, emod_sub h2 h1]
  rfl
theorem apart_tri {k a b c : Int} (ha : inB k a = true) (hb : inB k b = true) (hc : inB k c = true) : apart k a c ≤ apart k a b + apart k b c := by
  have h1 := (inB_iff k a).1 ha
  have h2 := (inB_iff k b).1 hb
  have h3 := (inB_iff k c).1 hc
  rw [apart_eq ha hb, apart_eq hb hc, apart_eq ha hc]
  split <;> split <;> split <;> split <;> split <;> split <;> omega
theorem apart_comm {k a b : Int} (ha : inB k a = true) (hb : inB k b = true) : apart k a b = apart k b a := by
  rw [apart_eq ha hb, apart_eq hb ha, Int.min_comm]
theorem apart_half {k a b : Int} (ha : inB k a = true) (hb : inB k b = true) : 0 ≤ apart k a b ∧ 2 * apart k a b ≤ side k := by
  have h1 := (inB_iff k a).1 ha
  have h2 := (inB_iff k b).1 hb
  rw [apart_eq ha hb]
  split <;> split <;> omega
theorem apart_zero {k a b : Int} (ha : inB k a = true) (hb : inB k b = true) : apart k a b = 0 ↔ a = b := by
  have h1 := (inB_iff k a).1 ha
  have h2 := (inB_iff k b).1 hb
  rw [apart_eq ha hb]
  split <;> split <;> omega
theorem inB_mod_yes {k : Int} (h : rgt k = true) (x : Int) : inB k (x % sd k) = true := by
  rw [inB_iff, ← sd_yes h]
  have h1 := sd_pos k
  exact ⟨Int.emod_nonneg _ (by omega), Int.emod_lt_of_pos _ h1⟩
theorem inB_rgt {k x : Int} (h : inB k x = true) : rgt k = true := by
  have h1 := (inB_iff k x).1 h
  cases e : rgt k with
  | true => rfl
  | false => have := side_no e; omega
theorem apart_move {k a b : Int} (d : Int) (ha : inB k a = true) (hb : inB k b = true) : apart k ((a + d) % sd k) ((b + d) % sd k) = apart k a b := by
  have hr := inB_rgt ha
  have e : ∀ x y : Int, ((x + d) % sd k - (y + d) % sd k) % sd k = (x - y) % sd k := by
    intro x y
    rw [← Int.sub_emod]
    congr 1
    omega
  unfold apart
  rw [ha, hb, inB_mod_yes hr, inB_mod_yes hr, e, e]
theorem has_in {k x y : Int} (h : hasB k x y = true) : inB k x = true ∧ inB k y = true := by
  unfold hasB at h
  rwa [Bool.and_eq_true] at h
theorem has_mk {k x y : Int} (h1 : inB k x = true) (h2 : inB k y = true) : hasB k x y = true := by unfold hasB; rw [h1, h2]; rfl
theorem has_mod {k : Int} (h : rgt k = true) (x y : Int) : hasB k (x % sd k) (y % sd k) = true := has_mk (inB_mod_yes h x) (inB_mod_yes h y)
theorem dist_eq {k ax ay bx by' : Int} (ha : hasB k ax ay = true) (hb : hasB k bx by' = true) : dist k ax ay bx by' = apart k ax bx + apart k ay by' := by
  unfold dist; rw [ha, hb]; rfl
theorem dist_comm {k ax ay bx by' : Int} (ha : hasB k ax ay = true) (hb : hasB k bx by' = true) : dist k bx by' ax ay = dist k ax ay bx by' := by
  rw [dist_eq ha hb, dist_eq hb ha, apart_comm (has_in ha).1 (has_in hb).1, apart_comm (has_in ha).2 (has_in hb).2]
theorem dist_bd {k ax ay bx by' : Int} (ha : hasB k ax ay = true) (hb : hasB k bx by' = true) : 0 ≤ dist k ax ay bx by' ∧ dist k ax ay bx by' ≤ side k := by
  rw [dist_eq ha hb]
  have h1 := apart_half (has_in ha).1 (has_in hb).1
  have h2 := apart_half (has_in ha).2 (has_in hb).2
  omega
theorem dist_zero {k ax ay bx by' : Int} (ha : hasB k ax ay = true) (hb : hasB k bx by' = true) : dist k ax ay bx by' = 0 ↔ ax = bx ∧ ay = by' := by
  rw [dist_eq ha hb, ← apart_zero (has_in ha).1 (has_in hb).1, ← apart_zero (has_in ha).2 (has_in hb).2]
  have h1 := apart_half (has_in ha).1 (has_in hb).1
  have h2 := apart_half (has_in ha).2 (has_in hb).2
  omega
theorem dist_tri {k ax ay bx by' cx cy : Int} (ha : hasB k ax ay = true) (hb : hasB k bx by' = true) (hc : hasB k cx cy = true) : dist k ax ay cx cy ≤ dist k ax ay bx by' + dist k bx by' cx cy := by
  rw [dist_eq ha hb, dist_eq ha hc, dist_eq hb hc]
  have h1 := apart_tri (has_in ha).1 (has_in hb).1 (has_in hc).1
  have h2 := apart_tri (has_in ha).2 (has_in hb).2 (has_in hc).2
  omega
theorem dist_move {k ax ay bx by' : Int} (dx dy : Int) (ha : hasB k ax ay = true) (hb : hasB k bx by' = true) :
    dist k ((ax + dx) % sd k) ((ay + dy) % sd k) ((bx + dx) % sd k) ((by' + dy) % sd k) = dist k ax ay bx by' := by
  have hr := inB_rgt (has_in ha).1
  rw [dist_eq ha hb, dist_eq (has_mod hr _ _) (has_mod hr _ _), apart_move dx (has_in ha).1 (has_in hb).1, apart_move dy (has_in ha).2 (has_in hb).2]
end Go.Proofs.Ytgnhamhkpbadbaa
namespace Go.Proofs.Ytgnhamhkpbadbaa
open Go.RowKit
theorem new_yes (k : Int) (w : World) (h : rgt k = true) : Calls Try.prog 45 #[.int .i64 k] w fun e w' => e = .returned (.tuple #[.agg #[.int .i64 k], .int .i64 0]) ∧ Below w.heap.size w w' := by
  replace h := Lib.hid h
  go_enter Try.func45, Try.ntmps45
  go_wp2_with (go_at_call 95; (with_reducible refine (right_yes h.out _).mono ?_); rintro e w' ⟨rfl, rfl⟩)
  exact bodyPost_ret (v := .tuple #[.agg #[.int .i64 k], .int .i64 0]) (by simp [results, Try.results45, go_sem]) rfl ⟨rfl, (Since.refl w).alloc _⟩
theorem right_no' {k : Int} (h : rgt k = false) (w : World) : Calls Try.prog 95 #[.int .i64 k] w fun e w' => e = .returned (.bool false) ∧ w = w' :=
  (right_no h w).mono fun _ _ ⟨a, b⟩ => ⟨a, b.symm⟩
theorem new_no (k : Int) (w : World) (h : rgt k = false) : Calls Try.prog 45 #[.int .i64 k] w fun e w' => e = .returned (.tuple #[.agg #[.int .i64 0], .int .i64 1]) ∧ Below w.heap.size w w' := by
  replace h := Lib.hid h
  go_enter Try.func45, Try.ntmps45
  go_wp2_with (go_at_call 95; (with_reducible refine (right_no' h.out _).mono ?_); rintro e w' ⟨rfl, rfl⟩)
  exact bodyPost_ret (v := .tuple #[.agg #[.int .i64 0], .int .i64 1]) (by simp [results, Try.results45, go_sem]) rfl ⟨rfl, (Since.refl w).alloc _⟩
theorem knows_side (w : World) : Calls Try.prog 126 #[.agg #[.int .i64 2]] w fun e w' => e = .returned (.int .i64 4) ∧ Below w.heap.size w w' := by
  have h := side_any 2 w
  rw [show side 2 = 4 by decide] at h
  exact h
end Go.Proofs.Ytgnhamhkpbadbaa
