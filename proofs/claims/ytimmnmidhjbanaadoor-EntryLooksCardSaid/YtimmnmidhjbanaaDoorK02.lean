/- Boxes of a call's own: blocks known whole, behind calls that change nothing that was there. torus.Wrap: any x and y, bound to the side. torus.Has: is the point a cell? torus.Area. torus.Move: a cell, moved; or none. torus.Area, Number, Cell: cells by number. -/
import Derived.Test.YtimmnmidhjbanaaDoorK01
import Derived.Deep.RegionHeld3
import Derived.Deep.QuietTactic
import Derived.BigQuiet
namespace Go.Proofs.YtimmnmidhjbanaaDoor
open Go.RowKit
/-- A block known whole: just these cells, of this type, none of them frozen. -/
def Whole (w : World) (g : Nat) (t : TypeId) (cs : Array Value) : Prop := w.heap[g]? = some (.cells cs t (0, 0))
section
variable {w w' : World} {g : Nat} {t : TypeId} {cs : Array Value}
theorem Whole.lt (h : Whole w g t cs) : g < w.heap.size := by
  rcases Nat.lt_or_ge g w.heap.size with hlt | hge
  · exact hlt
  · unfold Whole at h; rw [Array.getElem?_eq_none hge] at h; cases h
theorem Whole.cell (h : Whole w g t cs) (i : Nat) : w.cell? ⟨g, i, none⟩ = cs[i]? := cell_of_row w g i cs t (0, 0) h
theorem Whole.frozen (h : Whole w g t cs) (i : Nat) : w.frozen? ⟨g, i, none⟩ = false := by
  unfold Whole at h
  simp [World.frozen?, h]
theorem Whole.new (w : World) (t : TypeId) (cs : Array Value) : Whole (w.alloc (.cells cs t)) w.heap.size t cs := heap_alloc_new w _
theorem Whole.drew (h : Whole w g t cs) : Whole w.drew g t cs := h
theorem Whole.alloc (h : Whole w g t cs) (o : Obj) : Whole (w.alloc o) g t cs := (Below.heap_alloc w o g h.lt).trans h
theorem Whole.set_ (h : Whole w g t cs) (i : Nat) (u : Value) : Whole (w.setCell ⟨g, i, none⟩ u) g t (cs.setIfInBounds i u) := by
  unfold Whole at h ⊢
  simp [World.setCell, Array.getElem?_modify, h]
theorem Whole.far (h : Whole w g t cs) {p : Addr} (hp : g ≠ p.block) (u : Value) : Whole (w.setCell p u) g t cs := (Below.heap_setCell w p u g hp).trans h
theorem Whole.below {B : Nat} (h : Whole w g t cs) (hb : Below B w w') (hg : g < B) : Whole w' g t cs := (hb.block g hg).trans h
end
/-- W came behind w0, and all that was there is as it was. -/
def Since (w0 W : World) : Prop := Below w0.heap.size w0 W
section
variable {w0 w1 w2 : World}
theorem Since.refl (w : World) : Since w w := Below.refl _ _
theorem Since.drew (h : Since w0 w1) : Since w0 w1.drew := Below.drew h
theorem Since.drewN (h : Since w0 w1) (m : Nat) : Since w0 (w1.drewN m) := ⟨h.os, h.tape, h.output, h.size, h.block⟩
theorem Since.trans (h : Since w0 w1) (h2 : Since w1 w2) : Since w0 w2 := Below.trans h (Below.mono h2 h.size)
theorem Since.alloc (h : Since w0 w1) (o : Obj) : Since w0 (w1.alloc o) := Below.alloc h h.size o
theorem Since.whole {g : Nat} {t : TypeId} {cs : Array Value} (h : Since w0 w1) (hc : Whole w0 g t cs) : Whole w1 g t cs := hc.below h hc.lt
theorem Since.size_ (h : Since w0 w1) : w0.heap.size ≤ w1.heap.size := h.size
theorem Since.setCell (h : Since w0 w1) {p : Addr} (hp : w0.heap.size ≤ p.block) (v : Value) : Since w0 (w1.setCell p v) := Below.setCell h hp v
end
/-- What a call answers, behind w0. -/
theorem Calls.since {P : Program} {f : Nat} {args : Array Value} {w0 W : World} {R : Ending → Prop} (hS : Since w0 W)
    (c : Calls P f args W fun e w' => R e ∧ Below W.heap.size W w') : Calls P f args W fun e w' => R e ∧ Since w0 w' :=
  c.mono fun _ _ ⟨h1, h2⟩ => ⟨h1, hS.trans h2⟩
theorem Calls.since_same {P : Program} {f : Nat} {args : Array Value} {w0 W : World} {R : Ending → Prop} (hS : Since w0 W)
    (c : Calls P f args W fun e w' => R e ∧ W = w') : Calls P f args W fun e w' => R e ∧ Since w0 w' :=
  c.mono fun _ _ ⟨h1, h2⟩ => ⟨h1, h2 ▸ hS⟩
/-- The cells of a box, at any world behind w0. -/
theorem box_cell {w0 : World} {g : Nat} {t : TypeId} {cs : Array Value} (hc : Whole w0 g t cs) (i : Nat) (v : Value) (hv : cs[i]? = some v) : ∀ W, Since w0 W → W.cell? ⟨g, i, none⟩ = some v :=
  fun _ h => ((h.whole hc).cell i).trans hv
theorem box_free {w0 : World} {g : Nat} {t : TypeId} {cs : Array Value} (hc : Whole w0 g t cs) (i : Nat) : ∀ W, Since w0 W → W.frozen? ⟨g, i, none⟩ = false :=
  fun _ h => (h.whole hc).frozen i
theorem Whole.at_ {w : World} {g g' : Nat} {t : TypeId} {cs : Array Value} (h : Whole w g t cs) (e : g = g') : Whole w g' t cs := e ▸ h
/-- What was there is as it was, but for block g. -/
def But (g : Nat) (w0 W : World) : Prop := ∀ b, b < w0.heap.size → b ≠ g → W.heap[b]? = w0.heap[b]?
theorem Since.but {w0 W : World} (h : Since w0 W) (g : Nat) : But g w0 W := fun b hb _ => h.block b hb
theorem But.set_ {g : Nat} {w0 W : World} (h : But g w0 W) {p : Addr} (hp : p.block = g) (v : Value) : But g w0 (W.setCell p v) :=
  fun b hb hne => (Below.heap_setCell W p v b (fun e => hne (e.trans hp))).trans (h b hb hne)
theorem But.drew {g : Nat} {w0 W : World} (h : But g w0 W) : But g w0 W.drew := h
theorem But.whole {g b : Nat} {w0 W : World} {t : TypeId} {cs : Array Value} (h : But g w0 W) (hc : Whole w0 b t cs) (hne : b ≠ g) : Whole W b t cs := (h b hc.lt hne).trans hc
theorem but_cell {w0 : World} {b g : Nat} {t : TypeId} {cs : Array Value} (hc : Whole w0 b t cs) (hne : b ≠ g) (i : Nat) (v : Value) (hv : cs[i]? = some v) : ∀ W, But g w0 W → W.cell? ⟨b, i, none⟩ = some v :=
  fun _ h => ((h.whole hc hne).cell i).trans hv
theorem But.set1 {g : Nat} {w0 W : World} (h : Since w0 W) (i : Nat) (u : Value) : But g w0 (W.setCell ⟨g, i, none⟩ u) := (h.but g).set_ (p := ⟨g, i, none⟩) rfl u
theorem But.set2 {g : Nat} {w0 W : World} (h : Since w0 W) (i j : Nat) (u v : Value) : But g w0 ((W.setCell ⟨g, i, none⟩ u).setCell ⟨g, j, none⟩ v) := (But.set1 h i u).set_ (p := ⟨g, j, none⟩) rfl v
end Go.Proofs.YtimmnmidhjbanaaDoor
namespace Go.Proofs.YtimmnmidhjbanaaDoor
open Go.RowKit
set_option maxHeartbeats 400000 in
theorem wrap_any (k x y : Int) (w : World) : Calls Tryd.prog 97 #[.agg #[.int .i64 k], .int .i64 x, .int .i64 y] w fun e w' => e = .returned (.agg #[.int .i64 (x % sd k), .int .i64 (y % sd k)]) ∧ Below w.heap.size w w' := by
  have hx := mask_mod k x
  have hy := mask_mod k y
  obtain ⟨w0, hw0⟩ : ∃ w0, w0 = (w.alloc (.cells #[.int .i64 k] 123)).alloc (.cells #[.int .i64 0, .int .i64 0] 23) := ⟨_, rfl⟩
  have hs0 : Since w w0 := by rw [hw0]; exact ((Since.refl w).alloc _).alloc _
  have h1 : Whole w0 w.heap.size 123 #[.int .i64 k] := by rw [hw0]; exact (Whole.new w _ _).alloc _
  have h2 : Whole w0 (w.heap.size + 1) 23 #[.int .i64 0, .int .i64 0] := by rw [hw0]; exact (Whole.new (w.alloc _) _ _).at_ (by simp)
  have HW := Lib.hid hw0
  have c1 := but_cell h1 (g := w.heap.size + 1) (by omega) 0 _ rfl
  have c2 := box_cell h2 0 _ rfl
  have c3 := box_cell h2 1 _ rfl
  have f2 := box_free h2 0
  have f3 := box_free h2 1
  have hsr : Since w0 w0.drew := (Since.refl w0).drew
  clear hw0 h1 h2
  go_enter Tryd.func97, Tryd.ntmps97
  go_wp2
  rw [← HW.out]
  go_region_held3 (fun W => But (w.heap.size + 1) w0 W) (first | assumption | exact Since.but (by assumption) _ | exact But.set2 (by assumption) _ _ _ _)
    ((go_at_call 101; (with_reducible refine (Calls.since (by assumption) (mask_any _ _)).mono ?_); rintro e w1 ⟨rfl, hb⟩))
  go_wp2
  have g1 := c2 w1 hb
  have g2 := c3 w1 hb
  exact bodyPost_ret (v := .agg #[.int .i64 (x % sd k), .int .i64 (y % sd k)]) (by simp [results, Tryd.results97, go_sem, g1, g2]) rfl ⟨rfl, Below.setCell (Below.setCell (hs0.trans hb) (by simp) _) (by simp) _⟩
end Go.Proofs.YtimmnmidhjbanaaDoor
namespace Go.Proofs.YtimmnmidhjbanaaDoor
open Go.RowKit
/-- Is the point a cell? -/
def hasB (k x y : Int) : Bool := inB k x && inB k y
theorem hasB_iff (k x y : Int) : hasB k x y = true ↔ 0 ≤ x ∧ x < side k ∧ 0 ≤ y ∧ y < side k := by
  unfold hasB
  rw [Bool.and_eq_true, inB_iff, inB_iff]
  constructor
  · rintro ⟨⟨a, b⟩, c, d⟩; exact ⟨a, b, c, d⟩
  · rintro ⟨a, b, c, d⟩; exact ⟨⟨a, b⟩, c, d⟩
theorem hasB_no {k : Int} (x y : Int) (h : rgt k = false) : hasB k x y = false := by
  apply Bool.eq_false_iff.2
  intro e
  have h1 := (hasB_iff k x y).1 e
  have h2 := side_no h
  omega
theorem inB_mod (k x : Int) (h : rgt k = true) : (x == x % sd k) = inB k x := by
  rw [Bool.eq_iff_iff, beq_iff_eq, inB_iff, ← sd_yes h]
  have h1 := sd_pos k
  constructor
  · intro e
    rw [e]
    exact ⟨Int.emod_nonneg _ (by omega), Int.emod_lt_of_pos _ h1⟩
  · rintro ⟨a, b⟩
    exact (Int.emod_eq_of_lt a b).symm
theorem right_no {k : Int} (h : rgt k = false) (w : World) : Calls Tryd.prog 96 #[.int .i64 k] w fun e w' => e = .returned (.bool false) ∧ w' = w :=
  (right_any k w).mono fun _ _ ⟨a, b⟩ => ⟨h ▸ a, b.symm⟩
theorem right_yes {k : Int} (h : rgt k = true) (w : World) : Calls Tryd.prog 96 #[.int .i64 k] w fun e w' => e = .returned (.bool true) ∧ w = w' :=
  (right_any k w).mono fun _ _ ⟨a, b⟩ => ⟨h ▸ a, b⟩
set_option maxHeartbeats 400000 in
theorem has_any (k x y : Int) (w : World) : Calls Tryd.prog 89 #[.agg #[.int .i64 k], .agg #[.int .i64 x, .int .i64 y]] w fun e w' => e = .returned (.bool (hasB k x y)) ∧ Below w.heap.size w w' := by
  obtain ⟨w0, hw0⟩ : ∃ w0, w0 = (w.alloc (.cells #[.int .i64 k] 123)).alloc (.cells #[.int .i64 x, .int .i64 y] 23) := ⟨_, rfl⟩
  have hs0 : Since w w0 := by rw [hw0]; exact ((Since.refl w).alloc _).alloc _
  cases h : rgt k with
  | false =>
    rw [hasB_no x y h]
    replace h := Lib.hid h
    go_enter Tryd.func89, Tryd.ntmps89
    go_wp2
    go_quiet ((go_at_call 96; exact Calls.quiet_of_same (right_no h.out _)))
    go_wp2
    go_ret
    exact ⟨rfl, (((Since.refl w).alloc _).alloc _).drewN nq⟩
  | true =>
    have h1 : Whole w0 w.heap.size 123 #[.int .i64 k] := by rw [hw0]; exact (Whole.new w _ _).alloc _
    have h2 : Whole w0 (w.heap.size + 1) 23 #[.int .i64 x, .int .i64 y] := by rw [hw0]; exact (Whole.new (w.alloc _) _ _).at_ (by simp)
    have HW := Lib.hid hw0
    have c1 := box_cell h1 0 _ rfl
    have c2 := box_cell h2 0 _ rfl
    have c3 := box_cell h2 1 _ rfl
    have hsr : Since w0 w0.drew := (Since.refl w0).drew
    have e1 := inB_mod k x h
    have e2 := inB_mod k y h
    have eh : hasB k x y = (inB k x && inB k y) := rfl
    replace h := Lib.hid h
    clear hw0 h1 h2
    cases hx : inB k x <;> cases hy : inB k y
    all_goals
      rw [hx, hy] at eh
      rw [hx] at e1
      rw [hy] at e2
      rw [eh]
      clear hx hy eh
      go_enter Tryd.func89, Tryd.ntmps89
      go_wp2
      rw [← HW.out]
      go_region_held3 (fun W => Since w0 W) (assumption)
        ((first
          | (go_at_call 96; (with_reducible refine (Calls.since_same (by assumption) (right_yes h.out _)).mono ?_); rintro e w1 ⟨rfl, hb⟩)
          | (go_at_call 97; (with_reducible refine (Calls.since (by assumption) (wrap_any _ _ _ _)).mono ?_); rintro e w2 ⟨rfl, hb⟩)))
      go_wp2
      go_ret
      exact ⟨rfl, hs0.trans (by assumption)⟩
theorem has_at {k x y : Int} {b : Bool} (h : hasB k x y = b) (w : World) : Calls Tryd.prog 89 #[.agg #[.int .i64 k], .agg #[.int .i64 x, .int .i64 y]] w fun e w' => e = .returned (.bool b) ∧ Below w.heap.size w w' := h ▸ has_any k x y w
end Go.Proofs.YtimmnmidhjbanaaDoor
namespace Go.Proofs.YtimmnmidhjbanaaDoor
open Go.RowKit
end Go.Proofs.YtimmnmidhjbanaaDoor
namespace Go.Proofs.YtimmnmidhjbanaaDoor
open Go.RowKit
section
variable (k x y dx dy : Int) (w : World)
end
end Go.Proofs.YtimmnmidhjbanaaDoor
namespace Go.Proofs.YtimmnmidhjbanaaDoor
open Go.RowKit
end Go.Proofs.YtimmnmidhjbanaaDoor
