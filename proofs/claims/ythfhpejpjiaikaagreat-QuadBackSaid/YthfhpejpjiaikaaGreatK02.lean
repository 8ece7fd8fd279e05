/- Boxes of a call's own: blocks known whole, behind calls that change nothing that was there. torus.Wrap: any x and y, bound to the side. torus.Has: is the point a cell? torus.Area. torus.Move: a cell, moved; or none. torus.Area, Number, Cell: cells by number. A region that draws its order, one of whose operations waits for all others: what is known of the world need not hold behind that one. Nothing of one program. Wide values: structs and arrays of many cells loaded, stored, indexed and compared as one; the law at the operation. Nothing of one program. -/
import Derived.Test.YthfhpejpjiaikaaGreatK01
import Derived.OrdersHeld
import Derived.Deep.RegionHeld
import Derived.Laws.Rows
import Derived.Deep.WholeRow
import Derived.Deep.RegionHeld3
import Derived.Deep.QuietTactic
import Derived.BigQuiet
namespace Go.Proofs.YthfhpejpjiaikaaGreat
open Go.RowKit
/-- A block known whole: just these cells, of this type, none of them frozen. -/
def Whole (w : World) (g : Nat) (t : TypeId) (cs : Array Value) : Prop := w.heap[g]? = some (.cells cs t (0, 0))
section
variable {w w' : World} {g : Nat} {t : TypeId} {cs : Array Value}
theorem Whole.lt (h : Whole w g t cs) : g < w.heap.size := by
  rcases Nat.lt_or_ge g w.heap.size with hlt | hge
  · exact hlt
  · unfold Whole at h; rw [Array.getElem?_eq_none hge] at h; cases h
theorem Whole.cell (h : Whole w g t cs) (i : Nat) : w.cell? ⟨g, i, none⟩ = cs[i]? := cell_of_row w g i cs t (0, 0) h
theorem Whole.frozen (h : Whole w g t cs) (i : Nat) : w.frozen? ⟨g, i, none⟩ = false := by
  unfold Whole at h
  simp [World.frozen?, h]
theorem Whole.new (w : World) (t : TypeId) (cs : Array Value) : Whole (w.alloc (.cells cs t)) w.heap.size t cs := heap_alloc_new w _
theorem Whole.drew (h : Whole w g t cs) : Whole w.drew g t cs := h
theorem Whole.alloc (h : Whole w g t cs) (o : Obj) : Whole (w.alloc o) g t cs := (Below.heap_alloc w o g h.lt).trans h
theorem Whole.set_ (h : Whole w g t cs) (i : Nat) (u : Value) : Whole (w.setCell ⟨g, i, none⟩ u) g t (cs.setIfInBounds i u) := by
  unfold Whole at h ⊢
  simp [World.setCell, Array.getElem?_modify, h]
theorem Whole.far (h : Whole w g t cs) {p : Addr} (hp : g ≠ p.block) (u : Value) : Whole (w.setCell p u) g t cs := (Below.heap_setCell w p u g hp).trans h
theorem Whole.below {B : Nat} (h : Whole w g t cs) (hb : Below B w w') (hg : g < B) : Whole w' g t cs := (hb.block g hg).trans h
end
/-- W came behind w0, and all that was there is as it was. -/
def Since (w0 W : World) : Prop := Below w0.heap.size w0 W
section
variable {w0 w1 w2 : World}
theorem Since.refl (w : World) : Since w w := Below.refl _ _
theorem Since.drew (h : Since w0 w1) : Since w0 w1.drew := Below.drew h
theorem Since.drewN (h : Since w0 w1) (m : Nat) : Since w0 (w1.drewN m) := ⟨h.os, h.tape, h.output, h.size, h.block⟩
theorem Since.trans (h : Since w0 w1) (h2 : Since w1 w2) : Since w0 w2 := Below.trans h (Below.mono h2 h.size)
theorem Since.alloc (h : Since w0 w1) (o : Obj) : Since w0 (w1.alloc o) := Below.alloc h h.size o
theorem Since.whole {g : Nat} {t : TypeId} {cs : Array Value} (h : Since w0 w1) (hc : Whole w0 g t cs) : Whole w1 g t cs := hc.below h hc.lt
theorem Since.size_ (h : Since w0 w1) : w0.heap.size ≤ w1.heap.size := h.size
theorem Since.setCell (h : Since w0 w1) {p : Addr} (hp : w0.heap.size ≤ p.block) (v : Value) : Since w0 (w1.setCell p v) := Below.setCell h hp v
end
/-- What a call answers, behind w0. -/
theorem Calls.since {P : Program} {f : Nat} {args : Array Value} {w0 W : World} {R : Ending → Prop} (hS : Since w0 W)
    (c : Calls P f args W fun e w' => R e ∧ Below W.heap.size W w') : Calls P f args W fun e w' => R e ∧ Since w0 w' :=
  c.mono fun _ _ ⟨h1, h2⟩ => ⟨h1, hS.trans h2⟩
theorem Calls.since_same {P : Program} {f : Nat} {args : Array Value} {w0 W : World} {R : Ending → Prop} (hS : Since w0 W)
    (c : Calls P f args W fun e w' => R e ∧ W = w') : Calls P f args W fun e w' => R e ∧ Since w0 w' :=
  c.mono fun _ _ ⟨h1, h2⟩ => ⟨h1, h2 ▸ hS⟩
/-- The cells of a box, at any world behind w0. -/
theorem box_cell {w0 : World} {g : Nat} {t : TypeId} {cs : Array Value} (hc : Whole w0 g t cs) (i : Nat) (v : Value) (hv : cs[i]? = some v) : ∀ W, Since w0 W → W.cell? ⟨g, i, none⟩ = some v :=
  fun _ h => ((h.whole hc).cell i).trans hv
theorem box_free {w0 : World} {g : Nat} {t : TypeId} {cs : Array Value} (hc : Whole w0 g t cs) (i : Nat) : ∀ W, Since w0 W → W.frozen? ⟨g, i, none⟩ = false :=
  fun _ h => (h.whole hc).frozen i
theorem Whole.at_ {w : World} {g g' : Nat} {t : TypeId} {cs : Array Value} (h : Whole w g t cs) (e : g = g') : Whole w g' t cs := e ▸ h
/-- What was there is as it was, but for block g. -/
def But (g : Nat) (w0 W : World) : Prop := ∀ b, b < w0.heap.size → b ≠ g → W.heap[b]? = w0.heap[b]?
theorem Since.but {w0 W : World} (h : Since w0 W) (g : Nat) : But g w0 W := fun b hb _ => h.block b hb
theorem But.set_ {g : Nat} {w0 W : World} (h : But g w0 W) {p : Addr} (hp : p.block = g) (v : Value) : But g w0 (W.setCell p v) :=
  fun b hb hne => (Below.heap_setCell W p v b (fun e => hne (e.trans hp))).trans (h b hb hne)
theorem But.drew {g : Nat} {w0 W : World} (h : But g w0 W) : But g w0 W.drew := h
theorem But.whole {g b : Nat} {w0 W : World} {t : TypeId} {cs : Array Value} (h : But g w0 W) (hc : Whole w0 b t cs) (hne : b ≠ g) : Whole W b t cs := (h b hc.lt hne).trans hc
theorem but_cell {w0 : World} {b g : Nat} {t : TypeId} {cs : Array Value} (hc : Whole w0 b t cs) (hne : b ≠ g) (i : Nat) (v : Value) (hv : cs[i]? = some v) : ∀ W, But g w0 W → W.cell? ⟨b, i, none⟩ = some v :=
  fun _ h => ((h.whole hc hne).cell i).trans hv
theorem But.set1 {g : Nat} {w0 W : World} (h : Since w0 W) (i : Nat) (u : Value) : But g w0 (W.setCell ⟨g, i, none⟩ u) := (h.but g).set_ (p := ⟨g, i, none⟩) rfl u
theorem But.set2 {g : Nat} {w0 W : World} (h : Since w0 W) (i j : Nat) (u v : Value) : But g w0 ((W.setCell ⟨g, i, none⟩ u).setCell ⟨g, j, none⟩ v) := (But.set1 h i u).set_ (p := ⟨g, j, none⟩) rfl v
theorem Since.named {w0 w1 w2 : World} (h : Since w0 w1) (e : w2 = w1) : Since w0 w2 := e ▸ h
theorem Whole.named {w1 w2 : World} {g : Nat} {t : TypeId} {cs : Array Value} (h : Whole w1 g t cs) (e : w2 = w1) : Whole w2 g t cs := e ▸ h
/-- Whoever stands at a call may name the world at hand. -/
theorem Calls.named {P : Program} {f : Nat} {args : Array Value} {W : World} {Q : Ending → World → Prop} (h : ∀ W', W' = W → Calls P f args W' Q) : Calls P f args W Q := h W rfl
end Go.Proofs.YthfhpejpjiaikaaGreat
namespace Go.Proofs.YthfhpejpjiaikaaGreat
open Go.RowKit
set_option maxHeartbeats 400000 in
theorem wrap_any (k x y : Int) (w : World) : Calls Tryz.prog 115 #[.agg #[.int .i64 k], .int .i64 x, .int .i64 y] w fun e w' => e = .returned (.agg #[.int .i64 (x % sd k), .int .i64 (y % sd k)]) ∧ Below w.heap.size w w' := by
  have hx := mask_mod k x
  have hy := mask_mod k y
  obtain ⟨w0, hw0⟩ : ∃ w0, w0 = (w.alloc (.cells #[.int .i64 k] 67)).alloc (.cells #[.int .i64 0, .int .i64 0] 50) := ⟨_, rfl⟩
  have hs0 : Since w w0 := by rw [hw0]; exact ((Since.refl w).alloc _).alloc _
  have h1 : Whole w0 w.heap.size 67 #[.int .i64 k] := by rw [hw0]; exact (Whole.new w _ _).alloc _
  have h2 : Whole w0 (w.heap.size + 1) 50 #[.int .i64 0, .int .i64 0] := by rw [hw0]; exact (Whole.new (w.alloc _) _ _).at_ (by simp)
  have HW := Lib.hid hw0
  have c1 := but_cell h1 (g := w.heap.size + 1) (by omega) 0 _ rfl
  have c2 := box_cell h2 0 _ rfl
  have c3 := box_cell h2 1 _ rfl
  have f2 := box_free h2 0
  have f3 := box_free h2 1
  have hsr : Since w0 w0.drew := (Since.refl w0).drew
  clear hw0 h1 h2
  go_enter Tryz.func115, Tryz.ntmps115
  go_wp2
  rw [← HW.out]
  go_region_held3 (fun W => But (w.heap.size + 1) w0 W) (first | assumption | exact Since.but (by assumption) _ | exact But.set2 (by assumption) _ _ _ _)
    ((go_at_call 123; (with_reducible refine (Calls.since (by assumption) (mask_any _ _)).mono ?_); rintro e w1 ⟨rfl, hb⟩))
  go_wp2
  have g1 := c2 w1 hb
  have g2 := c3 w1 hb
  exact bodyPost_ret (v := .agg #[.int .i64 (x % sd k), .int .i64 (y % sd k)]) (by simp [results, Tryz.results115, go_sem, g1, g2]) rfl ⟨rfl, Below.setCell (Below.setCell (hs0.trans hb) (by simp) _) (by simp) _⟩
end Go.Proofs.YthfhpejpjiaikaaGreat
namespace Go.Proofs.YthfhpejpjiaikaaGreat
open Go.RowKit
/-- Is the point a cell? -/
def hasB (k x y : Int) : Bool := inB k x && inB k y
theorem hasB_iff (k x y : Int) : hasB k x y = true ↔ 0 ≤ x ∧ x < side k ∧ 0 ≤ y ∧ y < side k := by
  unfold hasB
  rw [Bool.and_eq_true, inB_iff, inB_iff]
  constructor
  · rintro ⟨⟨a, b⟩, c, d⟩; exact ⟨a, b, c, d⟩
  · rintro ⟨a, b, c, d⟩; exact ⟨⟨a, b⟩, c, d⟩
theorem hasB_no {k : Int} (x y : Int) (h : rgt k = false) : hasB k x y = false := by
  apply Bool.eq_false_iff.2
  intro e
  have h1 := (hasB_iff k x y).1 e
  have h2 := side_no h
  omega
theorem inB_mod (k x : Int) (h : rgt k = true) : (x == x % sd k) = inB k x := by
  rw [Bool.eq_iff_iff, beq_iff_eq, inB_iff, ← sd_yes h]
  have h1 := sd_pos k
  constructor
  · intro e
    rw [e]
    exact ⟨Int.emod_nonneg _ (by omega), Int.emod_lt_of_pos _ h1⟩
  · rintro ⟨a, b⟩
    exact (Int.emod_eq_of_lt a b).symm
theorem right_no {k : Int} (h : rgt k = false) (w : World) : Calls Tryz.prog 96 #[.int .i64 k] w fun e w' => e = .returned (.bool false) ∧ w' = w :=
  (right_any k w).mono fun _ _ ⟨a, b⟩ => ⟨h ▸ a, b.symm⟩
theorem right_yes {k : Int} (h : rgt k = true) (w : World) : Calls Tryz.prog 96 #[.int .i64 k] w fun e w' => e = .returned (.bool true) ∧ w = w' :=
  (right_any k w).mono fun _ _ ⟨a, b⟩ => ⟨h ▸ a, b⟩
set_option maxHeartbeats 400000 in
theorem has_any (k x y : Int) (w : World) : Calls Tryz.prog 105 #[.agg #[.int .i64 k], .agg #[.int .i64 x, .int .i64 y]] w fun e w' => e = .returned (.bool (hasB k x y)) ∧ Below w.heap.size w w' := by
  obtain ⟨w0, hw0⟩ : ∃ w0, w0 = (w.alloc (.cells #[.int .i64 k] 67)).alloc (.cells #[.int .i64 x, .int .i64 y] 50) := ⟨_, rfl⟩
  have hs0 : Since w w0 := by rw [hw0]; exact ((Since.refl w).alloc _).alloc _
  cases h : rgt k with
  | false =>
    rw [hasB_no x y h]
    replace h := Lib.hid h
    go_enter Tryz.func105, Tryz.ntmps105
    go_wp2
    go_quiet ((go_at_call 96; exact Calls.quiet_of_same (right_no h.out _)))
    go_wp2
    go_ret
    exact ⟨rfl, (((Since.refl w).alloc _).alloc _).drewN nq⟩
  | true =>
    have h1 : Whole w0 w.heap.size 67 #[.int .i64 k] := by rw [hw0]; exact (Whole.new w _ _).alloc _
    have h2 : Whole w0 (w.heap.size + 1) 50 #[.int .i64 x, .int .i64 y] := by rw [hw0]; exact (Whole.new (w.alloc _) _ _).at_ (by simp)
    have HW := Lib.hid hw0
    have c1 := box_cell h1 0 _ rfl
    have c2 := box_cell h2 0 _ rfl
    have c3 := box_cell h2 1 _ rfl
    have hsr : Since w0 w0.drew := (Since.refl w0).drew
    have e1 := inB_mod k x h
    have e2 := inB_mod k y h
    have eh : hasB k x y = (inB k x && inB k y) := rfl
    replace h := Lib.hid h
    clear hw0 h1 h2
    cases hx : inB k x <;> cases hy : inB k y
    all_goals
      rw [hx, hy] at eh
      rw [hx] at e1
      rw [hy] at e2
      rw [eh]
      clear hx hy eh
      go_enter Tryz.func105, Tryz.ntmps105
      go_wp2
      rw [← HW.out]
      go_region_held3 (fun W => Since w0 W) (assumption)
        ((first
          | (go_at_call 96; (with_reducible refine (Calls.since_same (by assumption) (right_yes h.out _)).mono ?_); rintro e w1 ⟨rfl, hb⟩)
          | (go_at_call 115; (with_reducible refine (Calls.since (by assumption) (wrap_any _ _ _ _)).mono ?_); rintro e w2 ⟨rfl, hb⟩)))
      go_wp2
      go_ret
      exact ⟨rfl, hs0.trans (by assumption)⟩
theorem has_at {k x y : Int} {b : Bool} (h : hasB k x y = b) (w : World) : Calls Tryz.prog 105 #[.agg #[.int .i64 k], .agg #[.int .i64 x, .int .i64 y]] w fun e w' => e = .returned (.bool b) ∧ Below w.heap.size w w' := h ▸ has_any k x y w
end Go.Proofs.YthfhpejpjiaikaaGreat
namespace Go.Proofs.YthfhpejpjiaikaaGreat
open Go.RowKit
end Go.Proofs.YthfhpejpjiaikaaGreat
namespace Go.Proofs.YthfhpejpjiaikaaGreat
open Go.RowKit
/-- May a step be so far? -/
def may (d : Int) : Bool := decide (-1073741824 ≤ d ∧ d ≤ 1073741824)
section
variable (k x y dx dy : Int) (w : World)
end
end Go.Proofs.YthfhpejpjiaikaaGreat
namespace Go.Proofs.YthfhpejpjiaikaaGreat
open Go.RowKit
end Go.Proofs.YthfhpejpjiaikaaGreat
namespace Go.Proofs.YthfhpejpjiaikaaGreat
section
variable {P : Program} {ops : Array Oper} {Q : Exit → Act → World → Prop} {md : Region.Mode} {S : World → Prop} {z : Nat}
/-- Does operation z wait for i? -/
def zWaits (md : Region.Mode) (ops : Array Oper) (z i : Nat) : Bool := match ops[z]? with
  | some o => o.after.any fun e => Region.binds md e && e.on == i
  | none => false
theorem zWaits_spec {i : Nat} {oz : Oper} (hz : ops[z]? = some oz) (h : zWaits md ops z i = true) : ∃ e ∈ oz.after, Region.binds md e = true ∧ e.on = i := by
  unfold zWaits at h
  rw [hz] at h
  obtain ⟨e, h1, h2⟩ := Array.any_eq_true'.1 h
  rw [Bool.and_eq_true, beq_iff_eq] at h2
  exact ⟨e, h1, h2.1, h2.2⟩
/-- z waits for i, or for one that is still open and waits for i. -/
def zHolds (md : Region.Mode) (ops : Array Oper) (z : Nat) (listed : Array Bool) (i : Nat) : Bool := zWaits md ops z i || (List.range ops.size).any fun k => zWaits md ops z k && zWaits md ops k i && !listed.getD k true
theorem zHolds_spec {listed : Array Bool} {i : Nat} (h : zHolds md ops z listed i = true) : zWaits md ops z i = true ∨ ∃ k, zWaits md ops z k = true ∧ zWaits md ops k i = true ∧ listed.getD k true = false := by
  unfold zHolds at h
  rcases (by simpa only [Bool.or_eq_true] using h : _ ∨ _) with h | h
  · exact .inl h
  · obtain ⟨k, _, h1⟩ := List.any_eq_true.1 h
    simp only [Bool.and_eq_true, Bool.not_eq_true'] at h1
    exact .inr ⟨k, h1.1.1, h1.1.2, h1.2⟩
/-- In whatever order; S holds behind each operation but z. -/
def wpLast (P : Program) (md : Region.Mode) (ops : Array Oper) (Q : Exit → Act → World → Prop) (S : World → Prop) (z : Nat) : Nat → Array Bool → Act → World → Prop
  | 0, listed, a, w => Region.ready md ops listed = [] ∧ Q .normal a w
  | fuel + 1, listed, a, w =>
    (Region.ready md ops listed = [] → Q .normal a w) ∧
    ∀ i ∈ Region.ready md ops listed, wpOp P ops Q i (fun a' w' => (i ≠ z → S w') ∧ wpLast P md ops Q S z fuel (listed.setIfInBounds i true) a' w') a w
theorem wpAny_of_last : ∀ (fuel : Nat) (listed : Array Bool) (a : Act) (w : World), wpLast P md ops Q S z fuel listed a w → wpAny P md ops Q fuel listed a w
  | 0, _, _, _, h => h
  | fuel + 1, _, _, _, h => ⟨h.1, fun i hi => wpOp_mono (fun a' w' h' => wpAny_of_last fuel _ a' w' h'.2) (h.2 i hi)⟩
theorem wpLast_first {i : Nat} {oi : Oper} {v : Value} (hi : ops[i]? = some oi) (hiz : i ≠ z) (hsel : ∀ (j : Nat) (o : Oper) cs b, ops[j]? = some o → o.op ≠ .select cs b)
    (hQ : ∀ c a w, Q (.panic c) (a.put oi.dst v) w → Q (.panic c) a w) :
    ∀ (fuel : Nat) (listed : Array Bool) (a : Act) (w : World),
      (zWaits md ops z i = true ∨ ∃ k, zWaits md ops z k = true ∧ zWaits md ops k i = true ∧ listed.getD k true = false) →
      (∀ j oj, ops[j]? = some oj → j ≠ i → listed.getD j true = false → (∀ e ∈ oj.after, Region.binds md e = true → e.on ≠ i) → oi.apart ops oj = true) →
      i ∈ Region.ready md ops listed → YieldsIf P ops S oi v a → S w →
      wpLast P md ops Q S z fuel (listed.setIfInBounds i true) (a.put oi.dst v) w → wpLast P md ops Q S z (fuel + 1) listed a w := by
  intro fuel
  induction fuel with
  | zero =>
    intro listed a w _ _ hr hy hS H
    refine ⟨fun h => (by rw [h] at hr; cases hr), fun j hj => ?_⟩
    by_cases hji : j = i
    · subst hji
      exact hy.wpOp hi hS ⟨fun _ => hS, H⟩
    · have := ready_mono hj hji
      rw [H.1] at this
      cases this
  | succ fuel ih =>
    intro listed a w hzi hfree hr hy hS H
    refine ⟨fun h => (by rw [h] at hr; cases hr), fun j hj => ?_⟩
    by_cases hji : j = i
    · subst hji
      exact hy.wpOp hi hS ⟨fun _ => hS, H⟩
    · have h1 := H.2 j (ready_mono hj hji)
      obtain ⟨hjun, oj, hoj, hall⟩ := mem_ready.1 hj
      have hnot : ∀ e ∈ oj.after, Region.binds md e = true → e.on ≠ i := fun e he hb heq => by
        have h1 := hall e he hb
        have h0 := (mem_ready.1 hr).1
        rw [heq] at h1
        rcases Nat.lt_or_ge i listed.size with h' | h'
        · simp [h'] at h0 h1; rw [h0] at h1; cases h1
        · simp [Array.getElem?_eq_none h'] at h1
      -- z waits for i, and so does not come up here
      have hjz : j ≠ z := fun e => by
        subst e
        rcases hzi with hzi | ⟨k, h1, _, h3⟩
        · obtain ⟨e, he, hb, heq⟩ := zWaits_spec hoj hzi
          exact hnot e he hb heq
        · obtain ⟨e, he, hb, heq⟩ := zWaits_spec hoj h1
          have h5 := hall e he hb
          rw [heq] at h5
          rcases Nat.lt_or_ge k listed.size with h' | h'
          · simp [h'] at h3 h5; rw [h3] at h5; cases h5
          · simp [Array.getElem?_eq_none h'] at h5
      have hzi' : zWaits md ops z i = true ∨ ∃ k, zWaits md ops z k = true ∧ zWaits md ops k i = true ∧ (listed.setIfInBounds j true).getD k true = false := by
        rcases hzi with hzi | ⟨k, h1, h2, h3⟩
        · exact .inl hzi
        · refine .inr ⟨k, h1, h2, ?_⟩
          by_cases hjk : j = k
          · subst hjk
            obtain ⟨e, he, hb, heq⟩ := zWaits_spec hoj h2
            exact absurd heq (hnot e he hb)
          · rw [getD_set_ne true hjk]; exact h3
      have h2 := wpOp_putIf hoj (hfree j oj hoj hji hjun hnot) (fun cs b => hsel i oi cs b hi) (fun cs b => hsel j oj cs b hoj) hQ hy h1
      have hfree' : ∀ k ok, ops[k]? = some ok → k ≠ i → (listed.setIfInBounds j true).getD k true = false →
          (∀ e ∈ ok.after, Region.binds md e = true → e.on ≠ i) → oi.apart ops ok = true := fun k ok hk hki hun hno => by
        refine hfree k ok hk hki ?_ hno
        by_cases hjk : j = k
        · subst hjk; exact hjun
        · rw [getD_set_ne true hjk] at hun; exact hun
      refine wpOp_mono (fun a' w' h3 => ⟨h3.2.1, ih (listed.setIfInBounds j true) a' w' hzi' hfree' (ready_mono hr (Ne.symm hji)) h3.1 (h3.2.1 hjz) ?_⟩) h2
      rw [Array.setIfInBounds_comm _ _ hji]
      exact h3.2.2
/-- Take operation i first. -/
theorem wpLast_take {i : Nat} {oi : Oper} {v : Value} {fuel : Nat} {listed : Array Bool} {a : Act} {w : World} (hi : ops[i]? = some oi) (hiz : (i == z) = false) (hzi : zHolds md ops z listed i = true)
    (hs : Region.noSelect ops = true) (hf : Region.free md ops listed i = true) (hr : (Region.ready md ops listed).contains i = true)
    (hQ : ∀ c a w, Q (.panic c) (a.put oi.dst v) w → Q (.panic c) a w) (hy : YieldsIf P ops S oi v a) (hS : S w)
    (h : wpLast P md ops Q S z fuel (listed.setIfInBounds i true) (a.put oi.dst v) w) : wpLast P md ops Q S z (fuel + 1) listed a w :=
  wpLast_first hi (by simpa using hiz) (Region.noSelect_spec hs) hQ fuel listed a w (zHolds_spec hzi) (Region.free_spec hi hf) (by simpa using hr) hy hS h
/-- Each of the operations rs comes up next. -/
def LastReady (P : Program) (md : Region.Mode) (ops : Array Oper) (Q : Exit → Act → World → Prop) (S : World → Prop) (z : Nat) (fuel : Nat) (listed : Array Bool) (a : Act) (w : World) (rs : List Nat) : Prop :=
  ∀ i ∈ rs, wpOp P ops Q i (fun a' w' => (i ≠ z → S w') ∧ wpLast P md ops Q S z fuel (listed.setIfInBounds i true) a' w') a w
theorem LastReady.nil {fuel : Nat} {listed : Array Bool} {a : Act} {w : World} : LastReady P md ops Q S z fuel listed a w [] := fun _ h => by cases h
theorem LastReady.cons {fuel : Nat} {listed : Array Bool} {a : Act} {w : World} {i : Nat} {o : Oper} {rs : List Nat} (ho : ops[i]? = some o)
    (h : ∀ K' : Act → World → Prop, Shut (∀ a w, (i ≠ z → S w) → ((i ≠ z → S w) → wpLast P md ops Q S z fuel (listed.setIfInBounds i true) a w) → K' a w) → if Region.wanted o (yielded ops a.tmps) = true then Oper.wp P o a w K' Q else K' (a.put o.dst undef) w)
    (hs : LastReady P md ops Q S z fuel listed a w rs) : LastReady P md ops Q S z fuel listed a w (i :: rs) := fun j hj => by
  rcases List.mem_cons.1 hj with rfl | hj
  · exact wpOp_step ho (fun K' hK => h K' (fun a w hS hW => hK a w ⟨hS, hW hS⟩))
  · exact hs j hj
theorem wpLast_ready {rs : List Nat} {fuel : Nat} {listed : Array Bool} {a : Act} {w : World} (hr : Region.ready md ops listed = rs) (hne : rs ≠ [])
    (h : LastReady P md ops Q S z fuel listed a w rs) : wpLast P md ops Q S z (fuel + 1) listed a w := ⟨fun h0 => absurd (hr ▸ h0) hne, hr ▸ h⟩
theorem wpLast_done {listed : Array Bool} {a : Act} {w : World} (hr : Region.ready md ops listed = []) (h : Q .normal a w) : ∀ fuel, wpLast P md ops Q S z fuel listed a w
  | 0 => ⟨hr, h⟩
  | _ + 1 => ⟨fun _ => h, by rw [hr]; simp⟩
/-- The beginning. -/
theorem wp_region_last (S : World → Prop) (z : Nat) {id : Nat} {a : Act} {w : World} (hm : P.follows .mixedOrders = true) (hS : S w.drew)
    (h : S w.drew → wpLast P .any ops Q S z ops.size (Array.replicate ops.size false) a w.drew) : (Code.region id ops true).wp P Q a w :=
  wp_region_any hm (wpAny_of_last _ _ _ _ (h hS))
end
end Go.Proofs.YthfhpejpjiaikaaGreat
namespace Go.Proofs.YthfhpejpjiaikaaGreat
open Go.RowKit
set_option linter.unusedVariables false
section
variable {P : Program} {ops : Array Oper} {rest : List Oper} {o : Oper} {a : Act} {w w' : World} {Q : Exit → Act → World → Prop} {K : Act → World → Prop}
theorem wp_index_is (ty : TypeId) (x y : Operand) (ho : o.op = .index ty x y) {p v u : Value} (hx : a.eval x = p) (hy : a.eval y = v) (hr : (Instr.index ty p v).run P w = .ok u w) (h : K (a.put o.dst u) w) : o.wp P a w K Q := by
  unfold Oper.wp execOp
  simp only [ho, hx, hy, Sem.run_bind, hr, Result.andThen_ok, Sem.run_pure, Oper.upon_value]
  exact h
theorem wpList_index_is (hg : o.guard = none) (ty : TypeId) (x y : Operand) (ho : o.op = .index ty x y) {p v u : Value} (hx : a.eval x = p) (hy : a.eval y = v) (hr : (Instr.index ty p v).run P w = .ok u w) (h : wpList P ops Q rest (a.put o.dst u) w) : wpList P ops Q (o :: rest) a w :=
  wpList_plain hg fun _ hK => wp_index_is ty x y ho hx hy hr (hK _ _ h)
end
end Go.Proofs.YthfhpejpjiaikaaGreat
