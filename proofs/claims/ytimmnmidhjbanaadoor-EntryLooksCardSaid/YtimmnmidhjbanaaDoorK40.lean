/- entry.read, taken, Take. The walk of the law EntryBack. Both worlds' puts, of what may be and of what may not, in one form. -/
import Derived.Test.YtimmnmidhjbanaaDoorK13
import Derived.Test.YtimmnmidhjbanaaDoorK14
import Derived.Test.YtimmnmidhjbanaaDoorK20
import Derived.Test.YtimmnmidhjbanaaDoorK23
import Derived.Test.YtimmnmidhjbanaaDoorK28
import Derived.Test.YtimmnmidhjbanaaDoorK29
import Derived.Test.YtimmnmidhjbanaaDoorK30
import Derived.Test.YtimmnmidhjbanaaDoorK34
import Derived.Test.YtimmnmidhjbanaaDoorK35
import Derived.Test.YtimmnmidhjbanaaDoorK36
import Derived.Test.YtimmnmidhjbanaaDoorK37
import Derived.Test.YtimmnmidhjbanaaDoorK38
import Derived.Test.YtimmnmidhjbanaaDoorK39
import Derived.Deep.MidRow
import Derived.Deep.OwnRows
namespace Go.Proofs.YtimmnmidhjbanaaDoor
open Go.RowKit
set_option linter.unusedVariables false
set_option linter.unusedSimpArgs false
section
variable {w : World} {base g : Nat} {s t : RSt}
/-- What is known when the kind is read: the result's box J, the entry's box I behind it. -/
def RdState (base g J I : Nat) (cs : Array Value) (s : RSt) (w W : World) : Prop := Whole W J 37 #[.int .i64 0, .int .i64 0, .int .i64 0, .int .i64 0, .string ⟨#[]⟩, .string ⟨#[]⟩, .int .i64 0, .int .i64 0, .int .i64 0, .int .i64 0, .int .i64 0, .slice none 0 0] ∧ Whole W I 37 cs ∧ RdS W base g s ∧ Off (fun b => b = g) w W ∧ w.heap.size ≤ J ∧ J < I ∧ g < J
theorem RdState.set {base g J I : Nat} {cs cs' : Array Value} {s : RSt} {w W : World} (h : RdState base g J I cs s w W) (i : Nat) (v : Value) (hc : cs.setIfInBounds i v = cs') : RdState base g J I cs' s w (W.setCell ⟨I, i, none⟩ v) := by
  obtain ⟨h1, h2, h3, h4, h5, h6, h7⟩ := h
  exact ⟨h1.far (p := ⟨I, i, none⟩) (by dsimp only; omega) v, hc ▸ h2.set_ i v, h3.set_ ⟨I, i, none⟩ (by dsimp only; omega) v, h4.setCell (p := ⟨I, i, none⟩) (.inl (by dsimp only; omega)) v, h5, h6, h7⟩
theorem RdState.call {base g J I : Nat} {cs : Array Value} {s s' : RSt} {w W W' : World} (h : RdState base g J I cs s w W) (hr : RdS W' base g s') (ho : Off (fun b => b = g) W W') : RdState base g J I cs s' w W' := by
  obtain ⟨h1, h2, h3, h4, h5, h6, h7⟩ := h
  exact ⟨ho.whole h1 (by omega), ho.whole h2 (by omega), hr, h4.trans ho (fun _ _ z => z), h5, h6, h7⟩
end
end Go.Proofs.YtimmnmidhjbanaaDoor
namespace Go.Proofs.YtimmnmidhjbanaaDoor
open Go.RowKit
set_option linter.unusedVariables false
set_option linter.unusedSimpArgs false
section
variable {B : Nat} {kind ok x y : Int} {key val : ByteArray} {cl seq nd ep bx : Int} {ca : Option Addr} {cn cc : Nat} {l : List Int} {w : World}
theorem put11_at (h : LZ B w (.slice ca cn cc) l) (hB : B ≤ w.heap.size) (hl : l.length ≤ 1000) {b : Bool} {L : List UInt8} {E : Int} (hb : rightB (⟨kind, ok, x, y, key, val, cl, seq, nd, ep, bx⟩ : En) l = b) (hL : (if b then entL (⟨kind, ok, x, y, key, val, cl, seq, nd, ep, bx⟩ : En) l else []) = L) (hE : (if b then 0 else 1) = E) :
    Calls Tryd.prog 9 #[.agg #[.int .i64 kind, .int .i64 ok, .int .i64 x, .int .i64 y, .string key, .string val, .int .i64 cl, .int .i64 seq, .int .i64 nd, .int .i64 ep, .int .i64 bx, .slice ca cn cc]] w (SliceNumPost w.heap.size L E w) := by
  subst hL; subst hE
  cases b with
  | true => exact put11_yes h hB hl hb
  | false =>
    refine (put11_no h hB hl hb).mono ?_
    rintro e w' ⟨rfl, h⟩
    exact ⟨none, 0, 0, rfl, Has.nil _ _, h⟩
end
section
variable {kind ok x y : Int} {key val : ByteArray} {cl seq nd ep bx : Int} {ca : Option Addr} {cn cc : Nat} {l : List Int} {A0 : Option Addr} {n0 c0 : Nat} {w : World}
end
section
variable {kind ok x y : Int} {key val : ByteArray} {cl seq nd ep bx : Int} {ca : Option Addr} {cn cc : Nat} {l : List Int}
end
end Go.Proofs.YtimmnmidhjbanaaDoor
namespace Go.Proofs.YtimmnmidhjbanaaDoor
open Go.RowKit
set_option linter.unusedVariables false
set_option linter.unusedSimpArgs false
section
variable {B : Nat} {kind ok x y : Int} {key val : ByteArray} {cl seq nd ep bx : Int} {ca : Option Addr} {cn cc : Nat} {l : List Int} {w : World}
theorem refPut11_at (h : LZ B w (.slice ca cn cc) l) (hB : B ≤ w.heap.size) (hl : l.length ≤ 1000) {b : Bool} {L : List UInt8} (hb : rightB (⟨kind, ok, x, y, key, val, cl, seq, nd, ep, bx⟩ : En) l = b) (hL : (if b then entL (⟨kind, ok, x, y, key, val, cl, seq, nd, ep, bx⟩ : En) l else []) = L) :
    Calls Tryd.prog 18 #[.agg #[.int .i64 kind, .int .i64 ok, .int .i64 x, .int .i64 y, .string key, .string val, .int .i64 cl, .int .i64 seq, .int .i64 nd, .int .i64 ep, .int .i64 bx, .slice ca cn cc]] w (SlicePost w.heap.size L w) := by
  subst hL
  cases b with
  | true => exact refPut11_yes h hB hb
  | false =>
    refine (refPut11_no h hB hl hb).mono ?_
    rintro e w' ⟨rfl, h⟩
    exact ⟨none, 0, 0, rfl, Has.nil _ _, h⟩
theorem putChain_at {v : Value} (h : LZ B w v l) (hB : B ≤ w.heap.size) (hl : l.length ≤ 1000) {b : Bool} {L : List UInt8} {E : Int} (hb : chainB l = b) (hL : (if b then chainL l else []) = L) (hE : (if b then 0 else 1) = E) :
    Calls Tryd.prog 11 #[v] w (SliceNumPost w.heap.size L E w) := by
  subst hL; subst hE
  cases b with
  | true => exact putChain_yes h hB hb
  | false =>
    refine (putChain_no h hB hl hb).mono ?_
    rintro e w' ⟨rfl, h⟩
    exact ⟨none, 0, 0, rfl, Has.nil _ _, h⟩
theorem refPutChain_at {v : Value} (h : LZ B w v l) (hB : B ≤ w.heap.size) (hl : l.length ≤ 1000) {b : Bool} {L : List UInt8} (hb : chainB l = b) (hL : (if b then chainL l else []) = L) :
    Calls Tryd.prog 21 #[v] w (SlicePost w.heap.size L w) := by
  subst hL
  cases b with
  | true => exact refPutChain_yes h hB hb
  | false =>
    refine (refPutChain_no h hB hl hb).mono ?_
    rintro e w' ⟨rfl, h⟩
    exact ⟨none, 0, 0, rfl, Has.nil _ _, h⟩
end
/-- The row of the call's own that a slice lies in, as one block. -/
theorem RZ.block {W : World} {base n c : Nat} {x : Option Addr} {l : List Int} (h : RZ W base (.slice x n c) l) (hl : l.length = n) (hn : 0 < n) : ∃ g cur, x = some ⟨g, 0, none⟩ ∧ base ≤ g ∧ Whole W g 3 cur ∧ n ≤ cur.size := by
  rcases h.2 with ⟨e, h0⟩ | ⟨g, cap, cur, e, hb, hg, hnc, _, hcs, _⟩
  · omega
  · injection e with e1 e2 e3
    exact ⟨g, cur, e1, hb, hg, by omega⟩
end Go.Proofs.YtimmnmidhjbanaaDoor
