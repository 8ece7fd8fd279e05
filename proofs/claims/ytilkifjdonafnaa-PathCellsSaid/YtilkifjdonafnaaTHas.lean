/- torus.Has: is the point a cell? -/
import Derived.Test.YtilkifjdonafnaaTWrap
import Derived.Deep.QuietTactic
import Derived.BigQuiet
namespace Go.Proofs.Ytilkifjdonafnaa
open Go.RowKit
/-- Is the point a cell? -/
def hasB (k x y : Int) : Bool := inB k x && inB k y
theorem hasB_iff (k x y : Int) : hasB k x y = true ↔ 0 ≤ x ∧ x < side k ∧ 0 ≤ y ∧ y < side k := by
  unfold hasB
  rw [Bool.and_eq_true, inB_iff, inB_iff]
  constructor
  · rintro ⟨⟨a, b⟩, c, d⟩; exact ⟨a, b, c, d⟩
  · rintro ⟨a, b, c, d⟩; exact ⟨⟨a, b⟩, c, d⟩
theorem hasB_no {k : Int} (x y : Int) (h : rgt k = false) : hasB k x y = false := by
  apply Bool.eq_false_iff.2
  intro e
  have h1 := (hasB_iff k x y).1 e
  have h2 := side_no h
  omega
theorem inB_mod (k x : Int) (h : rgt k = true) : (x == x % sd k) = inB k x := by
  rw [Bool.eq_iff_iff, beq_iff_eq, inB_iff, ← sd_yes h]
  have h1 := sd_pos k
  constructor
  · intro e
    rw [e]
    exact ⟨Int.emod_nonneg _ (by omega), Int.emod_lt_of_pos _ h1⟩
  · rintro ⟨a, b⟩
    exact (Int.emod_eq_of_lt a b).symm
theorem right_no {k : Int} (h : rgt k = false) (w : World) : Calls Try.prog 51 #[.int .i64 k] w fun e w' => e = .returned (.bool false) ∧ w' = w :=
  (right_any k w).mono fun _ _ ⟨a, b⟩ => ⟨h ▸ a, b.symm⟩
theorem right_yes {k : Int} (h : rgt k = true) (w : World) : Calls Try.prog 51 #[.int .i64 k] w fun e w' => e = .returned (.bool true) ∧ w = w' :=
  (right_any k w).mono fun _ _ ⟨a, b⟩ => ⟨h ▸ a, b⟩
set_option maxHeartbeats 400000 in
theorem has_any (k x y : Int) (w : World) : Calls Try.prog 42 #[.agg #[.int .i64 k], .agg #[.int .i64 x, .int .i64 y]] w fun e w' => e = .returned (.bool (hasB k x y)) ∧ Below w.heap.size w w' := by
  obtain ⟨w0, hw0⟩ : ∃ w0, w0 = (w.alloc (.cells #[.int .i64 k] 31)).alloc (.cells #[.int .i64 x, .int .i64 y] 29) := ⟨_, rfl⟩
  have hs0 : Since w w0 := by rw [hw0]; exact ((Since.refl w).alloc _).alloc _
  cases h : rgt k with
  | false =>
    rw [hasB_no x y h]
    replace h := Lib.hid h
    go_enter Try.func42, Try.ntmps42
    go_wp2
    go_quiet ((go_at_call 51; exact Calls.quiet_of_same (right_no h.out _)))
    go_wp2
    go_ret
    exact ⟨rfl, (((Since.refl w).alloc _).alloc _).drewN nq⟩
  | true =>
    have h1 : Whole w0 w.heap.size 31 #[.int .i64 k] := by rw [hw0]; exact (Whole.new w _ _).alloc _
    have h2 : Whole w0 (w.heap.size + 1) 29 #[.int .i64 x, .int .i64 y] := by rw [hw0]; exact (Whole.new (w.alloc _) _ _).at_ (by simp)
    have HW := Lib.hid hw0
    have c1 := box_cell h1 0 _ rfl
    have c2 := box_cell h2 0 _ rfl
    have c3 := box_cell h2 1 _ rfl
    have hsr : Since w0 w0.drew := (Since.refl w0).drew
    have e1 := inB_mod k x h
    have e2 := inB_mod k y h
    have eh : hasB k x y = (inB k x && inB k y) := rfl
    replace h := Lib.hid h
    clear hw0 h1 h2
    cases hx : inB k x <;> cases hy : inB k y
    all_goals
      rw [hx, hy] at eh
      rw [hx] at e1
      rw [hy] at e2
      rw [eh]
      clear hx hy eh
      go_enter Try.func42, Try.ntmps42
      go_wp2
      rw [← HW.out]
      go_region_held3 (fun W => Since w0 W) (assumption)
        ((first
          | (go_at_call 51; (with_reducible refine (Calls.since_same (by assumption) (right_yes h.out _)).mono ?_); rintro e w1 ⟨rfl, hb⟩)
          | (go_at_call 28; (with_reducible refine (Calls.since (by assumption) (wrap_any _ _ _ _)).mono ?_); rintro e w2 ⟨rfl, hb⟩)))
      go_wp2
      go_ret
      exact ⟨rfl, hs0.trans (by assumption)⟩
end Go.Proofs.Ytilkifjdonafnaa
