/- Both readers, call by call, in the same words. -/
import Derived.Test.YtbgfjkgpekkciaaK12
import Derived.Test.YtbgfjkgpekkciaaK18
import Derived.Lib.SlBytesConst
import Derived.Deep.RegionHeld3
namespace Go.Proofs.Ytbgfjkgpekkciaa
open Go.RowKit
section
variable {w : World} {base g : Nat} {A : Option Addr} {n c : Nat} {l : List UInt8} {e : Int}
end
section
variable {w : World} {B q : Nat} {A : Option Addr} {n c : Nat} {b l : List UInt8} {k : Nat} {e : Int}
/-- The document's reader, whose bytes still to come are l. -/
structure RAt (w : World) (B q : Nat) (A : Option Addr) (n c : Nat) (b : List UInt8) (k : Nat) (l : List UInt8) (e : Int) : Prop where
  rd : RRd w B q A n c b k e
  at_ : e = 0 → b.drop k = l
  small : n ≤ 5000
  form : Seen A n c
theorem RAt.drewN (h : RAt w B q A n c b k l e) (m : Nat) : RAt (w.drewN m) B q A n c b k l e := ⟨h.rd.drewN m, h.at_, h.small, h.form⟩
theorem RAt.len (h : RAt w B q A n c b k l e) (he : e = 0) : n - k = l.length := by
  rw [← h.at_ he, List.length_drop, h.rd.len]
end
end Go.Proofs.Ytbgfjkgpekkciaa
