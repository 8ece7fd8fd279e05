/- The document's own reader: what it holds, and its small functions. -/
import Derived.Test.YtbgfjkgpekkciaaK16
namespace Go.Proofs.Ytbgfjkgpekkciaa
open Go.RowKit
/-- The block q holds the document's reader: these bytes, this place, this error. -/
structure RRd (w : World) (B q : Nat) (A : Option Addr) (n c : Nat) (b : List UInt8) (k : Nat) (e : Int) : Prop where
  whole : Whole w q 37 #[.slice A n c, .int .i64 (k : Int), .int .i64 e]
  rd : Rd w B A b
  len : b.length = n
  cap : n ≤ c
  le : k ≤ n
  lie : B ≤ q
theorem Only.drewN {g : Nat} {a w : World} (h : Only g a w) (m : Nat) : Only g a (w.drewN m) := ⟨h.os, h.tape, h.output, h.size, h.block⟩
theorem Rdr.drewN {w : World} {base g : Nat} {A : Option Addr} {n c : Nat} {l : List UInt8} {e : Int} (h : Rdr w base g A n c l e) (m : Nat) : Rdr (w.drewN m) base g A n c l e := ⟨h.whole, h.rd, h.len, h.cap, h.lie, h.form⟩
section
variable {w w' : World} {B q : Nat} {A : Option Addr} {n c : Nat} {b : List UInt8} {k : Nat} {e : Int}
theorem RRd.drewN (h : RRd w B q A n c b k e) (m : Nat) : RRd (w.drewN m) B q A n c b k e := ⟨h.whole, h.rd, h.len, h.cap, h.le, h.lie⟩
theorem RRd.fail (h : RRd w B q A n c b k e) (x : Int) : RRd (w.setCell ⟨q, 2, none⟩ (.int .i64 x)) B q A n c b k x :=
  ⟨h.whole.set_ 2 _, h.rd.keep fun p hp => World.cell?_setCell_other w _ _ _ (fun e => by subst e; exact absurd (Nat.lt_of_lt_of_le hp h.lie) (Nat.lt_irrefl _)), h.len, h.cap, h.le, h.lie⟩
theorem RRd.c0 (h : RRd w B q A n c b k e) : w.cell? ⟨q, 0, none⟩ = some (.slice A n c) := h.whole.cell 0
theorem RRd.c1 (h : RRd w B q A n c b k e) : w.cell? ⟨q, 1, none⟩ = some (.int .i64 (k : Int)) := h.whole.cell 1
theorem RRd.c2 (h : RRd w B q A n c b k e) : w.cell? ⟨q, 2, none⟩ = some (.int .i64 e) := h.whole.cell 2
end
end Go.Proofs.Ytbgfjkgpekkciaa
