/- wire.Unframe. -/
import Derived.Test.YthgcmcdacejelaaDoorUMem
import Derived.Deep.RegionHeld3
namespace Go.Proofs.YthgcmcdacejelaaDoor
open Go.RowKit
/-- What a call that hands back a kind, content and an error leaves. -/
def UnPost (k : Int) (l : List UInt8) (er : Int) (w : World) (e : Ending) (w' : World) : Prop :=
  ∃ A n c, e = .returned (.tuple #[.int .i64 k, .slice A n c, .int .i64 er]) ∧ Has w' w.heap.size A n c l ∧ Below w.heap.size w w'
theorem UnPost.nothing (er : Int) (w : World) : UnPost 0 [] er w (.returned (.tuple #[.int .i64 0, .slice none 0 0, .int .i64 er])) w := ⟨none, 0, 0, rfl, Has.nil _ _, Below.refl _ _⟩
/-- A cut of what reads as bytes. -/
theorem Rd.cut {w : World} {B b off : Nat} {l : List UInt8} (h : ∀ i, (h : i < l.length) → w.cell? ⟨b, off + i, none⟩ = some (.int .u8 (l[i].toNat : Int))) (hb : b < B) (i j : Nat) : Rd w B (some ⟨b, off + i, none⟩) ((l.drop i).take j) := by
  refine .inr ⟨b, off + i, rfl, hb, fun k hk => ?_⟩
  have hk2 : i + k < l.length := by
    have := hk
    rw [List.length_take, List.length_drop] at this
    omega
  have := h (i + k) hk2
  rw [Nat.add_assoc, this]
  simp
section
variable (b off n c : Nat) (l : List UInt8) (w : World) (hcell : ∀ i, (h : i < l.length) → w.cell? ⟨b, off + i, none⟩ = some (.int .u8 (l[i].toNat : Int))) (hb : b < w.heap.size) (hn : l.length = n) (hc : n ≤ c) (h5 : 5 ≤ n) (hl : n ≤ 1000000)
include hcell hb hn hc h5 hl
end
end Go.Proofs.YthgcmcdacejelaaDoor
