/- Boxes of a call's own: blocks known whole, behind calls that change nothing that was there. torus.Wrap: any x and y, bound to the side. torus.Has: is the point a cell? torus.Area. torus.Move: a cell, moved; or none. torus.Area, Number, Cell: cells by number. -/
import Derived.Test.YtbgfjkgpekkciaaK01
import Derived.Deep.RegionHeld3
import Derived.Deep.QuietTactic
import Derived.BigQuiet
namespace Go.Proofs.Ytbgfjkgpekkciaa
open Go.RowKit
/-- A block known whole: just these cells, of this type, none of them frozen. -/
def Whole (w : World) (g : Nat) (t : TypeId) (cs : Array Value) : Prop := w.heap[g]? = some (.cells cs t (0, 0))
section
variable {w w' : World} {g : Nat} {t : TypeId} {cs : Array Value}
theorem Whole.lt (h : Whole w g t cs) : g < w.heap.size := by
  rcases Nat.lt_or_ge g w.heap.size with hlt | hge
  · exact hlt
  · unfold Whole at h; rw [Array.getElem?_eq_none hge] at h; cases h
theorem Whole.cell (h : Whole w g t cs) (i : Nat) : w.cell? ⟨g, i, none⟩ = cs[i]? := cell_of_row w g i cs t (0, 0) h
theorem Whole.frozen (h : Whole w g t cs) (i : Nat) : w.frozen? ⟨g, i, none⟩ = false := by
  unfold Whole at h
  simp [World.frozen?, h]
theorem Whole.new (w : World) (t : TypeId) (cs : Array Value) : Whole (w.alloc (.cells cs t)) w.heap.size t cs := heap_alloc_new w _
theorem Whole.drew (h : Whole w g t cs) : Whole w.drew g t cs := h
theorem Whole.alloc (h : Whole w g t cs) (o : Obj) : Whole (w.alloc o) g t cs := (Below.heap_alloc w o g h.lt).trans h
theorem Whole.set_ (h : Whole w g t cs) (i : Nat) (u : Value) : Whole (w.setCell ⟨g, i, none⟩ u) g t (cs.setIfInBounds i u) := by
  unfold Whole at h ⊢
  simp [World.setCell, Array.getElem?_modify, h]
theorem Whole.below {B : Nat} (h : Whole w g t cs) (hb : Below B w w') (hg : g < B) : Whole w' g t cs := (hb.block g hg).trans h
end
/-- W came behind w0, and all that was there is as it was. -/
def Since (w0 W : World) : Prop := Below w0.heap.size w0 W
section
variable {w0 w1 w2 : World}
theorem Since.refl (w : World) : Since w w := Below.refl _ _
theorem Since.drew (h : Since w0 w1) : Since w0 w1.drew := Below.drew h
theorem Since.drewN (h : Since w0 w1) (m : Nat) : Since w0 (w1.drewN m) := ⟨h.os, h.tape, h.output, h.size, h.block⟩
theorem Since.trans (h : Since w0 w1) (h2 : Since w1 w2) : Since w0 w2 := Below.trans h (Below.mono h2 h.size)
theorem Since.alloc (h : Since w0 w1) (o : Obj) : Since w0 (w1.alloc o) := Below.alloc h h.size o
theorem Since.whole {g : Nat} {t : TypeId} {cs : Array Value} (h : Since w0 w1) (hc : Whole w0 g t cs) : Whole w1 g t cs := hc.below h hc.lt
theorem Since.size_ (h : Since w0 w1) : w0.heap.size ≤ w1.heap.size := h.size
theorem Since.setCell (h : Since w0 w1) {p : Addr} (hp : w0.heap.size ≤ p.block) (v : Value) : Since w0 (w1.setCell p v) := Below.setCell h hp v
end
/-- What a call answers, behind w0. -/
theorem Calls.since {P : Program} {f : Nat} {args : Array Value} {w0 W : World} {R : Ending → Prop} (hS : Since w0 W)
    (c : Calls P f args W fun e w' => R e ∧ Below W.heap.size W w') : Calls P f args W fun e w' => R e ∧ Since w0 w' :=
  c.mono fun _ _ ⟨h1, h2⟩ => ⟨h1, hS.trans h2⟩
theorem Calls.since_same {P : Program} {f : Nat} {args : Array Value} {w0 W : World} {R : Ending → Prop} (hS : Since w0 W)
    (c : Calls P f args W fun e w' => R e ∧ W = w') : Calls P f args W fun e w' => R e ∧ Since w0 w' :=
  c.mono fun _ _ ⟨h1, h2⟩ => ⟨h1, h2 ▸ hS⟩
/-- The cells of a box, at any world behind w0. -/
theorem box_cell {w0 : World} {g : Nat} {t : TypeId} {cs : Array Value} (hc : Whole w0 g t cs) (i : Nat) (v : Value) (hv : cs[i]? = some v) : ∀ W, Since w0 W → W.cell? ⟨g, i, none⟩ = some v :=
  fun _ h => ((h.whole hc).cell i).trans hv
theorem Whole.at_ {w : World} {g g' : Nat} {t : TypeId} {cs : Array Value} (h : Whole w g t cs) (e : g = g') : Whole w g' t cs := e ▸ h
/-- What was there is as it was, but for block g. -/
def But (g : Nat) (w0 W : World) : Prop := ∀ b, b < w0.heap.size → b ≠ g → W.heap[b]? = w0.heap[b]?
theorem But.set_ {g : Nat} {w0 W : World} (h : But g w0 W) {p : Addr} (hp : p.block = g) (v : Value) : But g w0 (W.setCell p v) :=
  fun b hb hne => (Below.heap_setCell W p v b (fun e => hne (e.trans hp))).trans (h b hb hne)
theorem But.drew {g : Nat} {w0 W : World} (h : But g w0 W) : But g w0 W.drew := h
theorem But.whole {g b : Nat} {w0 W : World} {t : TypeId} {cs : Array Value} (h : But g w0 W) (hc : Whole w0 b t cs) (hne : b ≠ g) : Whole W b t cs := (h b hc.lt hne).trans hc
end Go.Proofs.Ytbgfjkgpekkciaa
namespace Go.Proofs.Ytbgfjkgpekkciaa
open Go.RowKit
end Go.Proofs.Ytbgfjkgpekkciaa
namespace Go.Proofs.Ytbgfjkgpekkciaa
open Go.RowKit
end Go.Proofs.Ytbgfjkgpekkciaa
namespace Go.Proofs.Ytbgfjkgpekkciaa
open Go.RowKit
end Go.Proofs.Ytbgfjkgpekkciaa
namespace Go.Proofs.Ytbgfjkgpekkciaa
open Go.RowKit
section
variable (k x y dx dy : Int) (w : World)
end
end Go.Proofs.Ytbgfjkgpekkciaa
namespace Go.Proofs.Ytbgfjkgpekkciaa
open Go.RowKit
end Go.Proofs.Ytbgfjkgpekkciaa
