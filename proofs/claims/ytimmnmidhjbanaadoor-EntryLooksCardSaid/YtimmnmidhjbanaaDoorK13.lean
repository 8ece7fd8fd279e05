/- Numbers and texts out of a reader. The document's own reader: what it holds, and its small functions. The document's own reader: Upto and Text. Both readers, call by call, in the same words. The walk of the law WireReads. -/
import Derived.Test.YtimmnmidhjbanaaDoorK09
import Derived.Test.YtimmnmidhjbanaaDoorK11
import Derived.Test.YtimmnmidhjbanaaDoorK12
import Derived.Deep.RegionHeld3
import Derived.Lib.SlBytesConst
namespace Go.Proofs.YtimmnmidhjbanaaDoor
open Go.RowKit
theorem Rd.drop {w : World} {B b off : Nat} {l : List UInt8} (h : Rd w B (some ⟨b, off, none⟩) l) (k : Nat) : Rd w B (some ⟨b, off + k, none⟩) (l.drop k) := by
  rcases h with rfl | ⟨b', off', he, hb, hc⟩
  · exact .inl (by simp)
  · injection he with he
    injection he with e1 e2
    subst e1; subst e2
    refine .inr ⟨b, off + k, rfl, hb, fun i hi => ?_⟩
    rw [List.length_drop] at hi
    rw [Nat.add_assoc, hc (k + i) (by omega)]
    simp
theorem Rd.take {w : World} {B : Nat} {A : Option Addr} {l : List UInt8} (h : Rd w B A l) (k : Nat) : Rd w B A (l.take k) := by
  rw [← List.take_append_drop k l] at h
  exact h.pre
section
variable {w : World} {base g : Nat} {A : Option Addr} {n c : Nat} {l : List UInt8} {e : Int}
/-- The rest is set behind k bytes. -/
theorem Rdr.rest (h : Rdr w base g A n c l e) (k : Nat) (hk : k ≤ n) {A' : Option Addr} (hr : Rd w g A' (l.drop k)) (hf : (A' = none ∧ n - k = 0 ∧ c - k = 0) ∨ ∃ b off, A' = some ⟨b, off, none⟩) :
    Rdr (w.setCell ⟨g, 1, none⟩ (.slice A' (n - k) (c - k))) base g A' (n - k) (c - k) (l.drop k) e :=
  ⟨h.whole.set_ 1 _, hr.keep fun p hp => World.cell?_setCell_other w _ _ _ (fun e => by subst e; exact absurd hp (Nat.lt_irrefl _)), by rw [List.length_drop, h.len], by have := h.cap; omega, h.lie, hf⟩
end
end Go.Proofs.YtimmnmidhjbanaaDoor
namespace Go.Proofs.YtimmnmidhjbanaaDoor
open Go.RowKit
/-- The block q holds the document's reader: these bytes, this place, this error. -/
structure RRd (w : World) (B q : Nat) (A : Option Addr) (n c : Nat) (b : List UInt8) (k : Nat) (e : Int) : Prop where
  whole : Whole w q 64 #[.slice A n c, .int .i64 (k : Int), .int .i64 e]
  rd : Rd w B A b
  len : b.length = n
  cap : n ≤ c
  le : k ≤ n
  lie : B ≤ q
theorem Only.drewN {g : Nat} {a w : World} (h : Only g a w) (m : Nat) : Only g a (w.drewN m) := ⟨h.os, h.tape, h.output, h.size, h.block⟩
theorem Rdr.drewN {w : World} {base g : Nat} {A : Option Addr} {n c : Nat} {l : List UInt8} {e : Int} (h : Rdr w base g A n c l e) (m : Nat) : Rdr (w.drewN m) base g A n c l e := ⟨h.whole, h.rd, h.len, h.cap, h.lie, h.form⟩
section
variable {w w' : World} {B q : Nat} {A : Option Addr} {n c : Nat} {b : List UInt8} {k : Nat} {e : Int}
theorem RRd.drewN (h : RRd w B q A n c b k e) (m : Nat) : RRd (w.drewN m) B q A n c b k e := ⟨h.whole, h.rd, h.len, h.cap, h.le, h.lie⟩
theorem RRd.fail (h : RRd w B q A n c b k e) (x : Int) : RRd (w.setCell ⟨q, 2, none⟩ (.int .i64 x)) B q A n c b k x :=
  ⟨h.whole.set_ 2 _, h.rd.keep fun p hp => World.cell?_setCell_other w _ _ _ (fun e => by subst e; exact absurd (Nat.lt_of_lt_of_le hp h.lie) (Nat.lt_irrefl _)), h.len, h.cap, h.le, h.lie⟩
theorem RRd.c0 (h : RRd w B q A n c b k e) : w.cell? ⟨q, 0, none⟩ = some (.slice A n c) := h.whole.cell 0
theorem RRd.c1 (h : RRd w B q A n c b k e) : w.cell? ⟨q, 1, none⟩ = some (.int .i64 (k : Int)) := h.whole.cell 1
theorem RRd.c2 (h : RRd w B q A n c b k e) : w.cell? ⟨q, 2, none⟩ = some (.int .i64 e) := h.whole.cell 2
end
end Go.Proofs.YtimmnmidhjbanaaDoor
namespace Go.Proofs.YtimmnmidhjbanaaDoor
open Go.RowKit
/-- Where a slice of bytes that came in may lie. -/
def Seen (A : Option Addr) (n c : Nat) : Prop := (A = none ∧ n = 0 ∧ c = 0) ∨ ∃ ad, A = some ad ∧ (c = 0 ∨ ∃ g off, ad = ⟨g, off, none⟩)
section
variable {w : World} {B q : Nat} {A : Option Addr} {n c : Nat} {b : List UInt8} {k : Nat} {e : Int}
end
end Go.Proofs.YtimmnmidhjbanaaDoor
namespace Go.Proofs.YtimmnmidhjbanaaDoor
open Go.RowKit
section
variable {w : World} {base g : Nat} {A : Option Addr} {n c : Nat} {l : List UInt8} {e : Int}
end
section
variable {w : World} {B q : Nat} {A : Option Addr} {n c : Nat} {b l : List UInt8} {k : Nat} {e : Int}
/-- The document's reader, whose bytes still to come are l. -/
structure RAt (w : World) (B q : Nat) (A : Option Addr) (n c : Nat) (b : List UInt8) (k : Nat) (l : List UInt8) (e : Int) : Prop where
  rd : RRd w B q A n c b k e
  at_ : e = 0 → b.drop k = l
  small : n ≤ 5000
  form : Seen A n c
theorem RAt.drewN (h : RAt w B q A n c b k l e) (m : Nat) : RAt (w.drewN m) B q A n c b k l e := ⟨h.rd.drewN m, h.at_, h.small, h.form⟩
theorem RAt.len (h : RAt w B q A n c b k l e) (he : e = 0) : n - k = l.length := by
  rw [← h.at_ he, List.length_drop, h.rd.len]
end
end Go.Proofs.YtimmnmidhjbanaaDoor
namespace Go.Proofs.YtimmnmidhjbanaaDoor
open Go.RowKit
/-- A slice of calls: the kind and the number of each. -/
def CRd (w : World) (B : Nat) (A : Option Addr) (z : List (Int × Int)) : Prop :=
  z = [] ∨ ∃ b off, A = some ⟨b, off, none⟩ ∧ b < B ∧ ∀ i, (h : i < z.length) → w.cell? ⟨b, off + i * 2, none⟩ = some (.int .i64 z[i].1) ∧ w.cell? ⟨b, off + i * 2 + 1, none⟩ = some (.int .i64 z[i].2)
theorem CRd.at_ {w : World} {B : Nat} {A : Option Addr} {z : List (Int × Int)} (h : CRd w B A z) {k : Nat} (hk : k < z.length) :
    ∃ b off, A = some ⟨b, off, none⟩ ∧ b < B ∧ w.cell? ⟨b, off + k * 2, none⟩ = some (.int .i64 z[k].1) ∧ w.cell? ⟨b, off + k * 2 + 1, none⟩ = some (.int .i64 z[k].2) := by
  rcases h with rfl | ⟨b, off, h1, h2, h3⟩
  · simp at hk
  · exact ⟨b, off, h1, h2, h3 k hk⟩
theorem CRd.below {w w' : World} {B C : Nat} {A : Option Addr} {z : List (Int × Int)} (h : CRd w B A z) (hb : Below C w w') (hC : B ≤ C) : CRd w' B A z := by
  rcases h with rfl | ⟨b, off, h1, h2, h3⟩
  · exact .inl rfl
  · refine .inr ⟨b, off, h1, h2, fun i hi => ⟨?_, ?_⟩⟩
    · exact (hb.cell (p := ⟨b, off + i * 2, none⟩) (Nat.lt_of_lt_of_le h2 hC)).trans (h3 i hi).1
    · exact (hb.cell (p := ⟨b, off + i * 2 + 1, none⟩) (Nat.lt_of_lt_of_le h2 hC)).trans (h3 i hi).2
theorem CRd.more {w : World} {B B' : Nat} {A : Option Addr} {z : List (Int × Int)} (h : CRd w B A z) (hB : B ≤ B') : CRd w B' A z := by
  rcases h with rfl | ⟨b, off, h1, h2, h3⟩
  · exact .inl rfl
  · exact .inr ⟨b, off, h1, by omega, h3⟩
end Go.Proofs.YtimmnmidhjbanaaDoor
