/- The walk of the law WireReads, whole. -/
import Derived.Test.YthgcmcdacejelaaDoorUReads2
import Derived.Test.YthgcmcdacejelaaDoorUSums
namespace Go.Proofs.YthgcmcdacejelaaDoor
open Go.RowKit
/-- WHAT THE WALK IS TOLD OF A SLICE OF CALLS THAT CAME IN. -/
def CallsIn (w : World) (a : Option Addr) (len cap : Nat) (V0 V1 : Nat → Int) : Prop :=
  (a = none ∧ len = 0 ∧ cap = 0) ∨ ∃ x, a = some x ∧ ∀ i, i < len → w.cell? (x.add (i * 2)) = some (.int .i64 (V0 i)) ∧ w.cell? (x.add (i * 2 + 1)) = some (.int .i64 (V1 i))
theorem crd_of {w : World} {a : Option Addr} {len cap : Nat} {V0 V1 : Nat → Int} (h : CallsIn w a len cap V0 V1) : ∃ z : List (Int × Int), z.length = len ∧ CRd w w.heap.size a z := by
  rcases h with ⟨rfl, rfl, rfl⟩ | ⟨x, rfl, hc⟩
  · exact ⟨[], rfl, .inl rfl⟩
  · refine ⟨(List.range len).map fun i => (V0 i, V1 i), by simp, ?_⟩
    by_cases h0 : len = 0
    · subst h0
      exact .inl rfl
    · obtain ⟨b, off, spot⟩ := x
      have hc0 := (hc 0 (by omega)).1
      have hspot : spot = none := by simpa [Addr.add] using World.cell?_spot hc0
      subst hspot
      refine .inr ⟨b, off, rfl, World.block_lt_of_cell? w _ hc0, fun i hi => ?_⟩
      simp only [List.length_map, List.length_range] at hi
      have h1 := hc i hi
      rw [Addr.add_lit, Addr.add_lit] at h1
      simp only [List.getElem_map, List.getElem_range]
      exact ⟨h1.1, h1.2⟩
theorem seen_of_row {w : World} {a : Option Addr} {len cap : Nat} {zs : List Int} (h : RowIn .u8 w a len cap zs) : Seen a len cap := by
  rcases h with ⟨rfl, rfl, rfl, rfl⟩ | ⟨x, rfl, hl, hm, hz, hcell, hwz⟩
  · exact .inl ⟨rfl, rfl, rfl⟩
  · refine .inr ⟨x, rfl, ?_⟩
    by_cases h0 : cap = 0
    · exact .inl h0
    · obtain ⟨b, off, spot⟩ := x
      have hc0 := hcell 0 (by omega)
      have hspot : spot = none := by simpa [Addr.add] using World.cell?_spot hc0
      subst hspot
      exact .inr ⟨b, off, rfl⟩
end Go.Proofs.YthgcmcdacejelaaDoor
