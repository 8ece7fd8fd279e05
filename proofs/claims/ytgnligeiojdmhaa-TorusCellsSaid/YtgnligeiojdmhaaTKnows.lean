/- What the laws of the torus share: num, on, at, knows. -/
import Derived.Test.YtgnligeiojdmhaaTRing
import Derived.Test.YtgnligeiojdmhaaTToward
namespace Go.Proofs.Ytgnligeiojdmhaa
open Go.RowKit
theorem law_num_any (k : Int) (w : World) : Calls Try.prog 8 #[.int .i64 k] w fun e w' => e = .returned (.int .i64 k) ∧ w = w' := by
  go_enter Try.func8, Try.ntmps8
  go_wp2
  go_ret
  exact ⟨rfl, rfl⟩
theorem new_yes (k : Int) (w : World) (h : rgt k = true) : Calls Try.prog 7 #[.int .i64 k] w fun e w' => e = .returned (.tuple #[.agg #[.int .i64 k], .int .i64 0]) ∧ Below w.heap.size w w' := by
  replace h := Lib.hid h
  go_enter Try.func7, Try.ntmps7
  go_wp2_with (go_at_call 29; (with_reducible refine (right_yes h.out _).mono ?_); rintro e w' ⟨rfl, rfl⟩)
  exact bodyPost_ret (v := .tuple #[.agg #[.int .i64 k], .int .i64 0]) (by simp [results, Try.results7, go_sem]) rfl ⟨rfl, (Since.refl w).alloc _⟩
theorem right_no' {k : Int} (h : rgt k = false) (w : World) : Calls Try.prog 29 #[.int .i64 k] w fun e w' => e = .returned (.bool false) ∧ w = w' :=
  (right_no h w).mono fun _ _ ⟨a, b⟩ => ⟨a, b.symm⟩
theorem new_no (k : Int) (w : World) (h : rgt k = false) : Calls Try.prog 7 #[.int .i64 k] w fun e w' => e = .returned (.tuple #[.agg #[.int .i64 0], .int .i64 1]) ∧ Below w.heap.size w w' := by
  replace h := Lib.hid h
  go_enter Try.func7, Try.ntmps7
  go_wp2_with (go_at_call 29; (with_reducible refine (right_no' h.out _).mono ?_); rintro e w' ⟨rfl, rfl⟩)
  exact bodyPost_ret (v := .tuple #[.agg #[.int .i64 0], .int .i64 1]) (by simp [results, Try.results7, go_sem]) rfl ⟨rfl, (Since.refl w).alloc _⟩
theorem tmod_emod (k m : Int) : k.tmod m % m = k % m := by
  have h4 := Int.tmod_add_mul_tdiv k m
  have h5 : k % m = (k.tmod m + m * k.tdiv m) % m := by rw [h4]
  rw [h5, Int.add_mul_emod_self_left]
theorem tmod_bd (k m : Int) (hm : 0 < m) : -m < k.tmod m ∧ k.tmod m < m := ⟨Int.lt_tmod_of_pos k hm, Int.tmod_lt_of_pos k hm⟩
theorem on_any (k : Int) (w : World) : Calls Try.prog 24 #[.int .i64 k] w fun e w' => e = .returned (.agg #[.int .i64 (1 + k % 16)]) ∧ Below w.heap.size w w' := by
  have h1 := tmod_bd k 16 (by omega)
  have h2 := Lib.hid (tmod_emod k 16)
  go_enter Try.func24, Try.ntmps24
  go_wp2
  exact bodyPost_ret (v := .agg #[.int .i64 (1 + k % 16)]) (by simp [results, Try.results24, go_sem, h2.out]) rfl ⟨rfl, (Since.refl w).alloc _⟩
set_option maxHeartbeats 400000 in
theorem at_any (k x y : Int) (w : World) : Calls Try.prog 25 #[.agg #[.int .i64 k], .agg #[.int .i64 x, .int .i64 y]] w fun e w' => e = .returned (.agg #[.int .i64 (x % sd k), .int .i64 (y % sd k)]) ∧ Below w.heap.size w w' := by
  obtain ⟨w0, hw0⟩ : ∃ w0, w0 = ((w.alloc (.cells #[.int .i64 k] 25)).alloc (.cells #[.int .i64 x, .int .i64 y] 23)).alloc (.cells #[.int .i64 0, .int .i64 0] 23) := ⟨_, rfl⟩
  have hs0 : Since w w0 := by rw [hw0]; exact (((Since.refl w).alloc _).alloc _).alloc _
  have wh0 : Whole w0 (w.heap.size) 25 #[.int .i64 k] := by rw [hw0]; exact ((Whole.new w _ _).alloc _).alloc _
  have wh1 : Whole w0 (w.heap.size + 1) 23 #[.int .i64 x, .int .i64 y] := by rw [hw0]; exact ((Whole.new (w.alloc _) _ _).alloc _).at_ (by simp)
  have wh2 : Whole w0 (w.heap.size + 1 + 1) 23 #[.int .i64 0, .int .i64 0] := by rw [hw0]; exact (Whole.new ((w.alloc _).alloc _) _ _).at_ (by simp)
  have HW := Lib.hid hw0
  have c0_0 := box_cell wh0 0 (.int .i64 k) rfl
  have c1_0 := box_cell wh1 0 (.int .i64 x) rfl
  have c1_1 := box_cell wh1 1 (.int .i64 y) rfl
  have c2_0 := box_cell wh2 0 (.int .i64 0) rfl
  have f2_0 := box_free wh2 0
  have c2_1 := box_cell wh2 1 (.int .i64 0) rfl
  have f2_1 := box_free wh2 1
  have hsr := Since.refl w0
  have hsd := hsr.drew
  clear hw0 wh0 wh1 wh2
  go_enter Try.func25, Try.ntmps25
  go_wp2_with fail
  rw [← HW.out]
  go_wp2_with (go_at_call 21; (with_reducible refine (Calls.since (by assumption) (wrap_any _ _ _ _)).mono ?_); rintro e w2 ⟨rfl, hb2⟩)
  have g1 := c2_0 w2 hb2
  have g2 := c2_1 w2 hb2
  exact bodyPost_ret (v := .agg #[.int .i64 (x % sd k), .int .i64 (y % sd k)]) (by simp [results, Try.results25, go_sem, g1, g2]) rfl ⟨rfl, Below.setCell (Below.setCell (hs0.trans hb2) (by simp; omega) _) (by simp; omega) _⟩
theorem knows_toward (w : World) : Calls Try.prog 27 #[.agg #[.int .i64 2], .agg #[.int .i64 0, .int .i64 0], .agg #[.int .i64 3, .int .i64 2]] w fun e w' => e = .returned (.tuple #[.agg #[.int .i64 3, .int .i64 0], .bool true]) ∧ Below w.heap.size w w' := by
  have h := toward_x 2 0 0 3 2 w (by decide) (by decide) (by decide)
  rw [show (0 + near 2 0 3) % sd 2 = 3 by decide, show (0 : Int) % sd 2 = 0 by decide] at h
  exact h
theorem knows_dist (w : World) : Calls Try.prog 26 #[.agg #[.int .i64 2], .agg #[.int .i64 0, .int .i64 0], .agg #[.int .i64 3, .int .i64 2]] w fun e w' => e = .returned (.int .i64 3) ∧ Below w.heap.size w w' := by
  have h := dist_any 2 0 0 3 2 w
  rw [show dist 2 0 0 3 2 = 3 by decide] at h
  exact h
theorem knows_ring (w : World) : Calls Try.prog 28 #[.agg #[.int .i64 2], .agg #[.int .i64 3, .int .i64 0], .int .i64 1] w fun e w' => e = .returned (.int .i64 4) ∧ Below w.heap.size w w' := by
  have h := ring_at 2 3 0 1 2 w (by decide) (by decide) (by decide) (by decide)
  rw [show ringM 2 1 = 4 by decide] at h
  exact h
theorem knows_side (w : World) : Calls Try.prog 16 #[.agg #[.int .i64 2]] w fun e w' => e = .returned (.int .i64 4) ∧ Below w.heap.size w w' := by
  have h := side_any 2 w
  rw [show side 2 = 4 by decide] at h
  exact h
/-- Whoever stands at a call may name the world at hand. -/
theorem Calls.named {P : Program} {f : Nat} {args : Array Value} {W : World} {Q : Ending → World → Prop} (h : ∀ W', W' = W → Calls P f args W' Q) : Calls P f args W Q := h W rfl
set_option maxHeartbeats 400000 in
theorem knows_any (w : World) : Calls Try.prog 23 #[] w fun e w' => e = .returned (.bool true) ∧ Below w.heap.size w w' := by
  go_enter Try.func23, Try.ntmps23
  go_wp2_with fail
  refine (new_yes 2 w (by decide)).mono ?_
  rintro e w1 ⟨rfl, hb1⟩
  have hs1 : Since w w1 := hb1
  go_wp2_with fail
  refine Calls.named (fun w2 hw2 => ?_)
  have wt : Whole w2 w1.heap.size 25 #[.int .i64 2] := by rw [hw2]; exact Whole.new w1 _ _
  have hs2 : Since w w2 := by rw [hw2]; exact hs1.alloc _
  obtain ⟨g, hg⟩ : ∃ g, g = w1.heap.size := ⟨_, rfl⟩
  rw [← hg] at wt ⊢
  clear hw2 hg
  refine (Calls.since (Since.refl w2) (knows_toward w2)).mono ?_
  rintro e w3 ⟨rfl, hb3⟩
  have hs3 := hs2.trans hb3
  replace wt := hb3.whole wt
  clear hb3
  go_wp2_with fail
  refine Calls.named (fun w4 hw4 => ?_)
  have wn : Whole w4 w3.heap.size 23 #[.int .i64 3, .int .i64 0] := by rw [hw4]; exact Whole.new w3 _ _
  have hs4 : Since w w4 := by rw [hw4]; exact hs3.alloc _
  replace wt : Whole w4 g 25 #[.int .i64 2] := by rw [hw4]; exact wt.alloc _
  obtain ⟨p, hp⟩ : ∃ p, p = w3.heap.size := ⟨_, rfl⟩
  rw [← hp] at wn ⊢
  clear hw4 hp
  have c1 := box_cell wt 0 (.int .i64 2) rfl
  have c2 := box_cell wn 0 (.int .i64 3) rfl
  have c3 := box_cell wn 1 (.int .i64 0) rfl
  have hsr := Since.refl w4
  clear wt wn
  refine (Calls.since_same hsr (law_num_any _ _)).mono ?_
  rintro e w5 ⟨rfl, hb5⟩
  go_wp2_with (first
    | (go_at_call 16; (with_reducible refine (Calls.since (by assumption) (knows_side _)).mono ?_); rintro e w6 ⟨rfl, hb6⟩)
    | (go_at_call 26; (with_reducible refine (Calls.since (by assumption) (knows_dist _)).mono ?_); rintro e w6 ⟨rfl, hb6⟩)
    | (go_at_call 28; (with_reducible refine (Calls.since (by assumption) (knows_ring _)).mono ?_); rintro e w7 ⟨rfl, hb7⟩))
  go_ret
  exact ⟨rfl, hs4.trans hb7⟩
end Go.Proofs.Ytgnligeiojdmhaa
