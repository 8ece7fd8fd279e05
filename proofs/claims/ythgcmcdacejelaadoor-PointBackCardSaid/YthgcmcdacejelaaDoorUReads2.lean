/- The walk of the law WireReads. -/
import Derived.Test.YthgcmcdacejelaaDoorUReads1
import Derived.Test.YthgcmcdacejelaaDoorUStays
import Derived.Deep.RegionHeld3
namespace Go.Proofs.YthgcmcdacejelaaDoor
open Go.RowKit
/-- A slice of calls: the kind and the number of each. -/
def CRd (w : World) (B : Nat) (A : Option Addr) (z : List (Int × Int)) : Prop :=
  z = [] ∨ ∃ b off, A = some ⟨b, off, none⟩ ∧ b < B ∧ ∀ i, (h : i < z.length) → w.cell? ⟨b, off + i * 2, none⟩ = some (.int .i64 z[i].1) ∧ w.cell? ⟨b, off + i * 2 + 1, none⟩ = some (.int .i64 z[i].2)
theorem CRd.at_ {w : World} {B : Nat} {A : Option Addr} {z : List (Int × Int)} (h : CRd w B A z) {k : Nat} (hk : k < z.length) :
    ∃ b off, A = some ⟨b, off, none⟩ ∧ b < B ∧ w.cell? ⟨b, off + k * 2, none⟩ = some (.int .i64 z[k].1) ∧ w.cell? ⟨b, off + k * 2 + 1, none⟩ = some (.int .i64 z[k].2) := by
  rcases h with rfl | ⟨b, off, h1, h2, h3⟩
  · simp at hk
  · exact ⟨b, off, h1, h2, h3 k hk⟩
theorem CRd.below {w w' : World} {B C : Nat} {A : Option Addr} {z : List (Int × Int)} (h : CRd w B A z) (hb : Below C w w') (hC : B ≤ C) : CRd w' B A z := by
  rcases h with rfl | ⟨b, off, h1, h2, h3⟩
  · exact .inl rfl
  · refine .inr ⟨b, off, h1, h2, fun i hi => ⟨?_, ?_⟩⟩
    · exact (hb.cell (p := ⟨b, off + i * 2, none⟩) (Nat.lt_of_lt_of_le h2 hC)).trans (h3 i hi).1
    · exact (hb.cell (p := ⟨b, off + i * 2 + 1, none⟩) (Nat.lt_of_lt_of_le h2 hC)).trans (h3 i hi).2
theorem CRd.more {w : World} {B B' : Nat} {A : Option Addr} {z : List (Int × Int)} (h : CRd w B A z) (hB : B ≤ B') : CRd w B' A z := by
  rcases h with rfl | ⟨b, off, h1, h2, h3⟩
  · exact .inl rfl
  · exact .inr ⟨b, off, h1, by omega, h3⟩
theorem below_drewN {B : Nat} {a w : World} (h : Below B a w) (m : Nat) : Below B a (w.drewN m) := ⟨h.os, h.tape, h.output, h.size, h.block⟩
theorem werr {w : World} {base g : Nat} {A : Option Addr} {n c : Nat} {l : List UInt8} {e : Int} (h : Rdr w base g A n c l e) : Calls Tryd.prog 33 #[.pointer (some ⟨g, 0, none⟩)] w fun x w' => x = .returned (.int .i64 e) ∧ w' = w :=
  (made_err h).mono fun _ _ ⟨a, b⟩ => ⟨a, b.symm⟩
end Go.Proofs.YthgcmcdacejelaaDoor
