/- Boxes of a call's own: blocks known whole, behind calls that change nothing that was there. torus.Wrap: any x and y, bound to the side. torus.Has: is the point a cell? torus.Area. torus.Move: a cell, moved; or none. torus.Area, Number, Cell: cells by number. point: what must be so of a record, a call, an answer. Wide values: structs and arrays of many cells loaded, stored, indexed and compared as one; the law at the operation. Nothing of one program. -/
import Derived.Test.YthfhpejpjiaikaaGreatK01
import Derived.Deep.Cut
import Derived.Deep.CutRange
import Derived.Laws.Rows
import Derived.Deep.WholeRow
import Derived.Deep.RegionHeld3
import Derived.Deep.QuietTactic
import Derived.BigQuiet
namespace Go.Proofs.YthfhpejpjiaikaaGreat
open Go.RowKit
/-- A block known whole: just these cells, of this type, none of them frozen. -/
def Whole (w : World) (g : Nat) (t : TypeId) (cs : Array Value) : Prop := w.heap[g]? = some (.cells cs t (0, 0))
section
variable {w w' : World} {g : Nat} {t : TypeId} {cs : Array Value}
theorem Whole.lt (h : Whole w g t cs) : g < w.heap.size := by
  rcases Nat.lt_or_ge g w.heap.size with hlt | hge
  · exact hlt
  · unfold Whole at h; rw [Array.getElem?_eq_none hge] at h; cases h
theorem Whole.cell (h : Whole w g t cs) (i : Nat) : w.cell? ⟨g, i, none⟩ = cs[i]? := cell_of_row w g i cs t (0, 0) h
theorem Whole.frozen (h : Whole w g t cs) (i : Nat) : w.frozen? ⟨g, i, none⟩ = false := by
  unfold Whole at h
  simp [World.frozen?, h]
theorem Whole.new (w : World) (t : TypeId) (cs : Array Value) : Whole (w.alloc (.cells cs t)) w.heap.size t cs := heap_alloc_new w _
theorem Whole.drew (h : Whole w g t cs) : Whole w.drew g t cs := h
theorem Whole.alloc (h : Whole w g t cs) (o : Obj) : Whole (w.alloc o) g t cs := (Below.heap_alloc w o g h.lt).trans h
theorem Whole.set_ (h : Whole w g t cs) (i : Nat) (u : Value) : Whole (w.setCell ⟨g, i, none⟩ u) g t (cs.setIfInBounds i u) := by
  unfold Whole at h ⊢
  simp [World.setCell, Array.getElem?_modify, h]
theorem Whole.far (h : Whole w g t cs) {p : Addr} (hp : g ≠ p.block) (u : Value) : Whole (w.setCell p u) g t cs := (Below.heap_setCell w p u g hp).trans h
theorem Whole.below {B : Nat} (h : Whole w g t cs) (hb : Below B w w') (hg : g < B) : Whole w' g t cs := (hb.block g hg).trans h
end
/-- W came behind w0, and all that was there is as it was. -/
def Since (w0 W : World) : Prop := Below w0.heap.size w0 W
section
variable {w0 w1 w2 : World}
theorem Since.refl (w : World) : Since w w := Below.refl _ _
theorem Since.drew (h : Since w0 w1) : Since w0 w1.drew := Below.drew h
theorem Since.drewN (h : Since w0 w1) (m : Nat) : Since w0 (w1.drewN m) := ⟨h.os, h.tape, h.output, h.size, h.block⟩
theorem Since.trans (h : Since w0 w1) (h2 : Since w1 w2) : Since w0 w2 := Below.trans h (Below.mono h2 h.size)
theorem Since.alloc (h : Since w0 w1) (o : Obj) : Since w0 (w1.alloc o) := Below.alloc h h.size o
theorem Since.whole {g : Nat} {t : TypeId} {cs : Array Value} (h : Since w0 w1) (hc : Whole w0 g t cs) : Whole w1 g t cs := hc.below h hc.lt
theorem Since.size_ (h : Since w0 w1) : w0.heap.size ≤ w1.heap.size := h.size
theorem Since.setCell (h : Since w0 w1) {p : Addr} (hp : w0.heap.size ≤ p.block) (v : Value) : Since w0 (w1.setCell p v) := Below.setCell h hp v
end
/-- What a call answers, behind w0. -/
theorem Calls.since {P : Program} {f : Nat} {args : Array Value} {w0 W : World} {R : Ending → Prop} (hS : Since w0 W)
    (c : Calls P f args W fun e w' => R e ∧ Below W.heap.size W w') : Calls P f args W fun e w' => R e ∧ Since w0 w' :=
  c.mono fun _ _ ⟨h1, h2⟩ => ⟨h1, hS.trans h2⟩
theorem Calls.since_same {P : Program} {f : Nat} {args : Array Value} {w0 W : World} {R : Ending → Prop} (hS : Since w0 W)
    (c : Calls P f args W fun e w' => R e ∧ W = w') : Calls P f args W fun e w' => R e ∧ Since w0 w' :=
  c.mono fun _ _ ⟨h1, h2⟩ => ⟨h1, h2 ▸ hS⟩
/-- The cells of a box, at any world behind w0. -/
theorem box_cell {w0 : World} {g : Nat} {t : TypeId} {cs : Array Value} (hc : Whole w0 g t cs) (i : Nat) (v : Value) (hv : cs[i]? = some v) : ∀ W, Since w0 W → W.cell? ⟨g, i, none⟩ = some v :=
  fun _ h => ((h.whole hc).cell i).trans hv
theorem box_free {w0 : World} {g : Nat} {t : TypeId} {cs : Array Value} (hc : Whole w0 g t cs) (i : Nat) : ∀ W, Since w0 W → W.frozen? ⟨g, i, none⟩ = false :=
  fun _ h => (h.whole hc).frozen i
theorem Whole.at_ {w : World} {g g' : Nat} {t : TypeId} {cs : Array Value} (h : Whole w g t cs) (e : g = g') : Whole w g' t cs := e ▸ h
/-- What was there is as it was, but for block g. -/
def But (g : Nat) (w0 W : World) : Prop := ∀ b, b < w0.heap.size → b ≠ g → W.heap[b]? = w0.heap[b]?
theorem Since.but {w0 W : World} (h : Since w0 W) (g : Nat) : But g w0 W := fun b hb _ => h.block b hb
theorem But.set_ {g : Nat} {w0 W : World} (h : But g w0 W) {p : Addr} (hp : p.block = g) (v : Value) : But g w0 (W.setCell p v) :=
  fun b hb hne => (Below.heap_setCell W p v b (fun e => hne (e.trans hp))).trans (h b hb hne)
theorem But.drew {g : Nat} {w0 W : World} (h : But g w0 W) : But g w0 W.drew := h
theorem But.whole {g b : Nat} {w0 W : World} {t : TypeId} {cs : Array Value} (h : But g w0 W) (hc : Whole w0 b t cs) (hne : b ≠ g) : Whole W b t cs := (h b hc.lt hne).trans hc
theorem but_cell {w0 : World} {b g : Nat} {t : TypeId} {cs : Array Value} (hc : Whole w0 b t cs) (hne : b ≠ g) (i : Nat) (v : Value) (hv : cs[i]? = some v) : ∀ W, But g w0 W → W.cell? ⟨b, i, none⟩ = some v :=
  fun _ h => ((h.whole hc hne).cell i).trans hv
theorem But.set1 {g : Nat} {w0 W : World} (h : Since w0 W) (i : Nat) (u : Value) : But g w0 (W.setCell ⟨g, i, none⟩ u) := (h.but g).set_ (p := ⟨g, i, none⟩) rfl u
theorem But.set2 {g : Nat} {w0 W : World} (h : Since w0 W) (i j : Nat) (u v : Value) : But g w0 ((W.setCell ⟨g, i, none⟩ u).setCell ⟨g, j, none⟩ v) := (But.set1 h i u).set_ (p := ⟨g, j, none⟩) rfl v
theorem Since.named {w0 w1 w2 : World} (h : Since w0 w1) (e : w2 = w1) : Since w0 w2 := e ▸ h
theorem Whole.named {w1 w2 : World} {g : Nat} {t : TypeId} {cs : Array Value} (h : Whole w1 g t cs) (e : w2 = w1) : Whole w2 g t cs := e ▸ h
/-- Whoever stands at a call may name the world at hand. -/
theorem Calls.named {P : Program} {f : Nat} {args : Array Value} {W : World} {Q : Ending → World → Prop} (h : ∀ W', W' = W → Calls P f args W' Q) : Calls P f args W Q := h W rfl
end Go.Proofs.YthfhpejpjiaikaaGreat
namespace Go.Proofs.YthfhpejpjiaikaaGreat
open Go.RowKit
set_option maxHeartbeats 400000 in
theorem wrap_any (k x y : Int) (w : World) : Calls Tryz.prog 115 #[.agg #[.int .i64 k], .int .i64 x, .int .i64 y] w fun e w' => e = .returned (.agg #[.int .i64 (x % sd k), .int .i64 (y % sd k)]) ∧ Below w.heap.size w w' := by
  have hx := mask_mod k x
  have hy := mask_mod k y
  obtain ⟨w0, hw0⟩ : ∃ w0, w0 = (w.alloc (.cells #[.int .i64 k] 67)).alloc (.cells #[.int .i64 0, .int .i64 0] 50) := ⟨_, rfl⟩
  have hs0 : Since w w0 := by rw [hw0]; exact ((Since.refl w).alloc _).alloc _
  have h1 : Whole w0 w.heap.size 67 #[.int .i64 k] := by rw [hw0]; exact (Whole.new w _ _).alloc _
  have h2 : Whole w0 (w.heap.size + 1) 50 #[.int .i64 0, .int .i64 0] := by rw [hw0]; exact (Whole.new (w.alloc _) _ _).at_ (by simp)
  have HW := Lib.hid hw0
  have c1 := but_cell h1 (g := w.heap.size + 1) (by omega) 0 _ rfl
  have c2 := box_cell h2 0 _ rfl
  have c3 := box_cell h2 1 _ rfl
  have f2 := box_free h2 0
  have f3 := box_free h2 1
  have hsr : Since w0 w0.drew := (Since.refl w0).drew
  clear hw0 h1 h2
  go_enter Tryz.func115, Tryz.ntmps115
  go_wp2
  rw [← HW.out]
  go_region_held3 (fun W => But (w.heap.size + 1) w0 W) (first | assumption | exact Since.but (by assumption) _ | exact But.set2 (by assumption) _ _ _ _)
    ((go_at_call 123; (with_reducible refine (Calls.since (by assumption) (mask_any _ _)).mono ?_); rintro e w1 ⟨rfl, hb⟩))
  go_wp2
  have g1 := c2 w1 hb
  have g2 := c3 w1 hb
  exact bodyPost_ret (v := .agg #[.int .i64 (x % sd k), .int .i64 (y % sd k)]) (by simp [results, Tryz.results115, go_sem, g1, g2]) rfl ⟨rfl, Below.setCell (Below.setCell (hs0.trans hb) (by simp) _) (by simp) _⟩
end Go.Proofs.YthfhpejpjiaikaaGreat
namespace Go.Proofs.YthfhpejpjiaikaaGreat
open Go.RowKit
/-- Is the point a cell? -/
def hasB (k x y : Int) : Bool := inB k x && inB k y
theorem hasB_iff (k x y : Int) : hasB k x y = true ↔ 0 ≤ x ∧ x < side k ∧ 0 ≤ y ∧ y < side k := by
  unfold hasB
  rw [Bool.and_eq_true, inB_iff, inB_iff]
  constructor
  · rintro ⟨⟨a, b⟩, c, d⟩; exact ⟨a, b, c, d⟩
  · rintro ⟨a, b, c, d⟩; exact ⟨⟨a, b⟩, c, d⟩
theorem hasB_no {k : Int} (x y : Int) (h : rgt k = false) : hasB k x y = false := by
  apply Bool.eq_false_iff.2
  intro e
  have h1 := (hasB_iff k x y).1 e
  have h2 := side_no h
  omega
theorem inB_mod (k x : Int) (h : rgt k = true) : (x == x % sd k) = inB k x := by
  rw [Bool.eq_iff_iff, beq_iff_eq, inB_iff, ← sd_yes h]
  have h1 := sd_pos k
  constructor
  · intro e
    rw [e]
    exact ⟨Int.emod_nonneg _ (by omega), Int.emod_lt_of_pos _ h1⟩
  · rintro ⟨a, b⟩
    exact (Int.emod_eq_of_lt a b).symm
theorem right_no {k : Int} (h : rgt k = false) (w : World) : Calls Tryz.prog 96 #[.int .i64 k] w fun e w' => e = .returned (.bool false) ∧ w' = w :=
  (right_any k w).mono fun _ _ ⟨a, b⟩ => ⟨h ▸ a, b.symm⟩
theorem right_yes {k : Int} (h : rgt k = true) (w : World) : Calls Tryz.prog 96 #[.int .i64 k] w fun e w' => e = .returned (.bool true) ∧ w = w' :=
  (right_any k w).mono fun _ _ ⟨a, b⟩ => ⟨h ▸ a, b⟩
set_option maxHeartbeats 400000 in
theorem has_any (k x y : Int) (w : World) : Calls Tryz.prog 105 #[.agg #[.int .i64 k], .agg #[.int .i64 x, .int .i64 y]] w fun e w' => e = .returned (.bool (hasB k x y)) ∧ Below w.heap.size w w' := by
  obtain ⟨w0, hw0⟩ : ∃ w0, w0 = (w.alloc (.cells #[.int .i64 k] 67)).alloc (.cells #[.int .i64 x, .int .i64 y] 50) := ⟨_, rfl⟩
  have hs0 : Since w w0 := by rw [hw0]; exact ((Since.refl w).alloc _).alloc _
  cases h : rgt k with
  | false =>
    rw [hasB_no x y h]
    replace h := Lib.hid h
    go_enter Tryz.func105, Tryz.ntmps105
    go_wp2
    go_quiet ((go_at_call 96; exact Calls.quiet_of_same (right_no h.out _)))
    go_wp2
    go_ret
    exact ⟨rfl, (((Since.refl w).alloc _).alloc _).drewN nq⟩
  | true =>
    have h1 : Whole w0 w.heap.size 67 #[.int .i64 k] := by rw [hw0]; exact (Whole.new w _ _).alloc _
    have h2 : Whole w0 (w.heap.size + 1) 50 #[.int .i64 x, .int .i64 y] := by rw [hw0]; exact (Whole.new (w.alloc _) _ _).at_ (by simp)
    have HW := Lib.hid hw0
    have c1 := box_cell h1 0 _ rfl
    have c2 := box_cell h2 0 _ rfl
    have c3 := box_cell h2 1 _ rfl
    have hsr : Since w0 w0.drew := (Since.refl w0).drew
    have e1 := inB_mod k x h
    have e2 := inB_mod k y h
    have eh : hasB k x y = (inB k x && inB k y) := rfl
    replace h := Lib.hid h
    clear hw0 h1 h2
    cases hx : inB k x <;> cases hy : inB k y
    all_goals
      rw [hx, hy] at eh
      rw [hx] at e1
      rw [hy] at e2
      rw [eh]
      clear hx hy eh
      go_enter Tryz.func105, Tryz.ntmps105
      go_wp2
      rw [← HW.out]
      go_region_held3 (fun W => Since w0 W) (assumption)
        ((first
          | (go_at_call 96; (with_reducible refine (Calls.since_same (by assumption) (right_yes h.out _)).mono ?_); rintro e w1 ⟨rfl, hb⟩)
          | (go_at_call 115; (with_reducible refine (Calls.since (by assumption) (wrap_any _ _ _ _)).mono ?_); rintro e w2 ⟨rfl, hb⟩)))
      go_wp2
      go_ret
      exact ⟨rfl, hs0.trans (by assumption)⟩
theorem has_at {k x y : Int} {b : Bool} (h : hasB k x y = b) (w : World) : Calls Tryz.prog 105 #[.agg #[.int .i64 k], .agg #[.int .i64 x, .int .i64 y]] w fun e w' => e = .returned (.bool b) ∧ Below w.heap.size w w' := h ▸ has_any k x y w
end Go.Proofs.YthfhpejpjiaikaaGreat
namespace Go.Proofs.YthfhpejpjiaikaaGreat
open Go.RowKit
end Go.Proofs.YthfhpejpjiaikaaGreat
namespace Go.Proofs.YthfhpejpjiaikaaGreat
open Go.RowKit
/-- May a step be so far? -/
def may (d : Int) : Bool := decide (-1073741824 ≤ d ∧ d ≤ 1073741824)
section
variable (k x y dx dy : Int) (w : World)
end
end Go.Proofs.YthfhpejpjiaikaaGreat
namespace Go.Proofs.YthfhpejpjiaikaaGreat
open Go.RowKit
end Go.Proofs.YthfhpejpjiaikaaGreat
namespace Go.Proofs.YthfhpejpjiaikaaGreat
open Go.RowKit
set_option linter.unusedVariables false
/-- From a to b. -/
def bet (n a b : Int) : Bool := decide (a ≤ n ∧ n ≤ b)
theorem bet_iff (n a b : Int) : bet n a b = true ↔ a ≤ n ∧ n ≤ b := by unfold bet; exact decide_eq_true_iff
def keyB (s : ByteArray) : Bool := bet s.size 1 16
def valB (s : ByteArray) : Bool := decide ((s.size : Int) ≤ 32)
def recB (x y : Int) (key val : ByteArray) (ver : Int) : Bool := hasB 16 x y && (keyB key && (valB val && bet ver 1 1099511627776))
theorem all_any (g off n c : Nat) (l : List Bool) (w : World) (hn : l.length = n) (hl : n ≤ 1000000) (hc : ∀ i (h : i < l.length), w.cell? ⟨g, off + i, none⟩ = some (.bool l[i])) :
    Calls Tryz.prog 78 #[.slice (some ⟨g, off, none⟩) n c] w fun e w' => e = .returned (.bool (l.all id)) ∧ w = w' := by
  obtain ⟨R, hR⟩ : ∃ R, R = l.all id := ⟨_, rfl⟩
  rw [← hR]
  have HR := Lib.hid hR
  have HN := Lib.hid hn
  clear hR
  go_enter Tryz.func78, Tryz.ntmps78
  go_wp2
  go_loop [7] (fun i => ∃ k : Nat, k ≤ n ∧ i = .int .i64 (k : Int) ∧ (l.take k).all id = true) (fun i => n - (intOf i).toNat)
  case atStart => exact ⟨0, by omega, rfl, rfl⟩
  case round =>
    obtain ⟨k, hk, rfl, ha⟩ := hrel
    by_cases hlt : k < n
    · have hcell := hc k (by omega)
      have HA := Lib.hid ha
      cases hb : l[k]'(by omega) with
      | true =>
        rw [hb] at hcell
        have HB := Lib.hid (show l[k]? = some true by rw [List.getElem?_eq_getElem (by omega), hb])
        clear hc hb ha hn
        go_wp2
        go_round
        case rel =>
          refine ⟨k + 1, by omega, by go_num, ?_⟩
          rw [List.take_add_one, HB.out, List.all_append, HA.out]
          rfl
        case measure => simp [intOf]; omega
      | false =>
        rw [hb] at hcell
        have HB := Lib.hid (show l[k]? = some false by rw [List.getElem?_eq_getElem (by omega), hb])
        clear hc hb ha hn
        go_wp2
        obtain rfl : R = false := by
          rw [HR.out, List.all_eq_false]
          exact ⟨false, List.mem_of_getElem? HB.out, by simp⟩
        go_ret
        exact ⟨rfl, rfl⟩
    · have HA := Lib.hid ha
      clear hc hn ha
      obtain rfl : k = n := by omega
      obtain rfl : R = true := by
        have h2 := HA.out
        rw [List.take_of_length_le (Nat.le_of_eq HN.out)] at h2
        rw [HR.out, h2]
      clear HR HA
      go_wp2
      go_ret
      exact ⟨rfl, rfl⟩
theorem all_whole {w : World} {g : Nat} {l : List Bool} {cs : Array Value} {t : TypeId} (n c : Nat) (h : Whole w g t cs) (hn : l.length = n) (hl : n ≤ 1000000) (hc : cs = (l.map Value.bool).toArray) :
    Calls Tryz.prog 78 #[.slice (some ⟨g, 0, none⟩) n c] w fun e w' => e = .returned (.bool (l.all id)) ∧ w = w' := by
  refine all_any g 0 n c l w hn hl fun i hi => ?_
  rw [Nat.zero_add, h.cell, hc]
  simp [hi]
theorem all_four {w : World} {g : Nat} {t : TypeId} {b1 b2 b3 b4 : Bool} (h : Whole w g t #[.bool b1, .bool b2, .bool b3, .bool b4]) :
    Calls Tryz.prog 78 #[.slice (some ⟨g, 0, none⟩) 4 4] w fun e w' => e = .returned (.bool (b1 && (b2 && (b3 && b4)))) ∧ w = w' := by
  have := all_whole (l := [b1, b2, b3, b4]) 4 4 h rfl (by decide) rfl
  simpa using this
theorem within_any7 (n a b : Int) (w : World) : Calls Tryz.prog 82 #[.int .i64 n, .int .i64 a, .int .i64 b] w fun e w' => e = .returned (.bool (bet n a b)) ∧ w = w' := by
  by_cases h : a ≤ n
  · by_cases h2 : n ≤ b
    · rw [(bet_iff n a b).2 ⟨h, h2⟩]
      go_enter Tryz.func82, Tryz.ntmps82
      go_wp2
      go_ret
      exact ⟨rfl, rfl⟩
    · rw [show bet n a b = false from Bool.eq_false_iff.2 fun e => h2 ((bet_iff n a b).1 e).2]
      go_enter Tryz.func82, Tryz.ntmps82
      go_wp2
      go_ret
      exact ⟨rfl, rfl⟩
  · rw [show bet n a b = false from Bool.eq_false_iff.2 fun e => h ((bet_iff n a b).1 e).1]
    go_enter Tryz.func82, Tryz.ntmps82
    go_wp2
    go_ret
    exact ⟨rfl, rfl⟩
theorem qwithin_at {n a b : Int} {r : Bool} (h : bet n a b = r) (w : World) : Calls Tryz.prog 82 #[.int .i64 n, .int .i64 a, .int .i64 b] w fun e w' => e = .returned (.bool r) ∧ w = w' := h ▸ within_any7 n a b w
theorem rightKey_at {s : ByteArray} {r : Bool} (h : keyB s = r) (w : World) : Calls Tryz.prog 80 #[.string s] w fun e w' => e = .returned (.bool r) ∧ w = w' := by
  unfold keyB at h
  have HK := Lib.hid h
  clear h
  go_enter Tryz.func80, Tryz.ntmps80
  go_wp2_with (go_at_call 82; (with_reducible refine (qwithin_at HK.out _).mono ?_); rintro e w' ⟨rfl, rfl⟩)
  go_ret
  exact ⟨rfl, rfl⟩
theorem rightValue_at {s : ByteArray} {r : Bool} (h : valB s = r) (w : World) : Calls Tryz.prog 81 #[.string s] w fun e w' => e = .returned (.bool r) ∧ w = w' := by
  unfold valB at h
  have HK := Lib.hid h
  clear h
  go_enter Tryz.func81, Tryz.ntmps81
  go_wp2
  go_ret
  exact ⟨ret_bool HK.out, rfl⟩
theorem rightCell_at {x y : Int} {r : Bool} (h : hasB 16 x y = r) (w : World) : Calls Tryz.prog 79 #[.agg #[.int .i64 x, .int .i64 y]] w fun e w' => e = .returned (.bool r) ∧ Below w.heap.size w w' := by
  have HK := Lib.hid h
  clear h
  obtain ⟨w0, hw0⟩ : ∃ w0, w0 = w.alloc (.cells #[.int .i64 x, .int .i64 y] 50) := ⟨_, rfl⟩
  have hs0 : Since w w0 := by rw [hw0]; exact (Since.refl w).alloc _
  have wh0 : Whole w0 (w.heap.size) 50 #[.int .i64 x, .int .i64 y] := by rw [hw0]; exact Whole.new w _ _
  have HW := Lib.hid hw0
  have c0_0 := box_cell wh0 0 (.int .i64 x) rfl
  have c0_1 := box_cell wh0 1 (.int .i64 y) rfl
  have hsr := Since.refl w0
  have hsd := hsr.drew
  clear hw0 wh0
  go_enter Tryz.func79, Tryz.ntmps79
  go_wp2_with fail
  rw [← HW.out]
  go_wp2_with (go_at_call 105; (with_reducible refine (Calls.since (by assumption) (has_at HK.out _)).mono ?_); rintro e w1 ⟨rfl, hb1⟩)
  go_ret
  exact ⟨rfl, hs0.trans (by assumption)⟩
set_option maxRecDepth 100000 in
set_option maxHeartbeats 1600000 in
theorem rightRec_any (x y : Int) (key val : ByteArray) (ver : Int) (w : World) :
    Calls Tryz.prog 47 #[.agg #[.int .i64 x, .int .i64 y, .string key, .string val, .int .i64 ver]] w fun e w' => e = .returned (.bool (recB x y key val ver)) ∧ Below w.heap.size w w' := by
  unfold recB
  obtain ⟨b1, h1⟩ : ∃ b, hasB 16 x y = b := ⟨_, rfl⟩
  obtain ⟨b2, h2⟩ : ∃ b, keyB key = b := ⟨_, rfl⟩
  obtain ⟨b3, h3⟩ : ∃ b, valB val = b := ⟨_, rfl⟩
  obtain ⟨b4, h4⟩ : ∃ b, bet ver 1 1099511627776 = b := ⟨_, rfl⟩
  rw [h1, h2, h3, h4]
  replace h1 := Lib.hid h1
  replace h2 := Lib.hid h2
  replace h3 := Lib.hid h3
  replace h4 := Lib.hid h4
  obtain ⟨w0, hw0⟩ : ∃ w0, w0 = w.alloc (.cells #[.int .i64 x, .int .i64 y, .string key, .string val, .int .i64 ver] 55) := ⟨_, rfl⟩
  have hs0 : Since w w0 := by rw [hw0]; exact (Since.refl w).alloc _
  have wh0 : Whole w0 (w.heap.size) 55 #[.int .i64 x, .int .i64 y, .string key, .string val, .int .i64 ver] := by rw [hw0]; exact Whole.new w _ _
  have HW := Lib.hid hw0
  have c0_0 := box_cell wh0 0 (.int .i64 x) rfl
  have c0_1 := box_cell wh0 1 (.int .i64 y) rfl
  have c0_2 := box_cell wh0 2 (.string key) rfl
  have c0_3 := box_cell wh0 3 (.string val) rfl
  have c0_4 := box_cell wh0 4 (.int .i64 ver) rfl
  have hsr := Since.refl w0
  have hsd := hsr.drew
  clear hw0 wh0
  go_enter Tryz.func47, Tryz.ntmps47
  go_wp2_with fail
  rw [← HW.out]
  go_region_held3 (fun W => Since w0 W) (first | assumption | exact Since.drew (by assumption) | exact Since.alloc (by assumption) _ | exact Since.alloc (Since.drew (by assumption)) _) ((first | (go_at_call 79; (with_reducible refine (Calls.since (by assumption) (rightCell_at h1.out _)).mono ?_); rintro e w1 ⟨rfl, hb1⟩) | (go_at_call 80; (with_reducible refine (Calls.since_same (by assumption) (rightKey_at h2.out _)).mono ?_); rintro e w1 ⟨rfl, hb1⟩) | (go_at_call 81; (with_reducible refine (Calls.since_same (by assumption) (rightValue_at h3.out _)).mono ?_); rintro e w1 ⟨rfl, hb1⟩) | (go_at_call 82; (with_reducible refine (Calls.since_same (by assumption) (qwithin_at h4.out _)).mono ?_); rintro e w1 ⟨rfl, hb1⟩) | (go_at_call 78; (with_reducible refine (Calls.since_same (by assumption) (all_four (Whole.new _ _ _))).mono ?_); rintro e w1 ⟨rfl, hb1⟩)))
  go_wp2
  go_ret
  exact ⟨rfl, hs0.trans (by assumption)⟩
theorem side16 : side 16 = 65536 := rfl
end Go.Proofs.YthfhpejpjiaikaaGreat
namespace Go.Proofs.YthfhpejpjiaikaaGreat
open Go.RowKit
set_option linter.unusedVariables false
section
variable {P : Program} {ops : Array Oper} {rest : List Oper} {o : Oper} {a : Act} {w w' : World} {Q : Exit → Act → World → Prop} {K : Act → World → Prop}
theorem wp_index_is (ty : TypeId) (x y : Operand) (ho : o.op = .index ty x y) {p v u : Value} (hx : a.eval x = p) (hy : a.eval y = v) (hr : (Instr.index ty p v).run P w = .ok u w) (h : K (a.put o.dst u) w) : o.wp P a w K Q := by
  unfold Oper.wp execOp
  simp only [ho, hx, hy, Sem.run_bind, hr, Result.andThen_ok, Sem.run_pure, Oper.upon_value]
  exact h
theorem wpList_index_is (hg : o.guard = none) (ty : TypeId) (x y : Operand) (ho : o.op = .index ty x y) {p v u : Value} (hx : a.eval x = p) (hy : a.eval y = v) (hr : (Instr.index ty p v).run P w = .ok u w) (h : wpList P ops Q rest (a.put o.dst u) w) : wpList P ops Q (o :: rest) a w :=
  wpList_plain hg fun _ hK => wp_index_is ty x y ho hx hy hr (hK _ _ h)
end
end Go.Proofs.YthfhpejpjiaikaaGreat
