/- Rows of elements of k cells each: copy, append of zeros, a part put in or taken out; the law at the operation. Nothing of one program. -/
import Derived.Test.YtimmnmidhjbanaaDoorK03
import Derived.Test.YtimmnmidhjbanaaDoorK14
import Derived.Test.YtimmnmidhjbanaaDoorK15
import Derived.Laws.CopyRow
import Derived.Lib.AppendZerosOnto
import Derived.Lib.Overlaps
import Derived.Shelf.Spec.SlicesInsert
namespace Go.Proofs.YtimmnmidhjbanaaDoor
open Go.RowKit
set_option linter.unusedSimpArgs false
section
variable {α : Type} {enc : α → List Value} {n : Nat}
/-- A row in a block: its cells, and what is spare behind them. -/
theorem RowE.cur {W : World} {base : Nat} {T : TypeId} {v : Value} {l : List α} (h : RowE enc n W base T v l) :
    (v = .slice none 0 0 ∧ l = []) ∨ ∃ g cap S, v = .slice (some ⟨g, 0, none⟩) l.length cap ∧ base ≤ g ∧ W.heap[g]? = some (.cells (l.flatMap enc ++ S).toArray T (0, 0)) ∧ l.length ≤ cap ∧ cap ≤ maxLen ∧ (l.flatMap enc).length = l.length * n ∧ S.length = (cap - l.length) * n := by
  obtain ⟨h0, h | ⟨g, cap, cur, rfl, hb, hg, hc, hm, hs, ht⟩⟩ := h
  · exact .inl ⟨h.1, List.eq_nil_of_length_eq_zero h.2⟩
  · refine .inr ⟨g, cap, cur.toList.drop (l.length * n), rfl, hb, ?_, hc, hm, h0, ?_⟩
    · rw [hg, ← ht, List.take_append_drop, Array.toArray_toList]
    · rw [List.length_drop, Array.length_toList, hs, Nat.sub_mul]
theorem RowE.of {W : World} {base : Nat} {T : TypeId} {l : List α} {g cap : Nat} {S : List Value} (hb : base ≤ g) (hg : W.heap[g]? = some (.cells (l.flatMap enc ++ S).toArray T (0, 0))) (hc : l.length ≤ cap) (hm : cap ≤ maxLen) (hl : (l.flatMap enc).length = l.length * n) (hS : S.length = (cap - l.length) * n) :
    RowE enc n W base T (.slice (some ⟨g, 0, none⟩) l.length cap) l := by
  refine ⟨hl, .inr ⟨g, cap, _, rfl, hb, hg, hc, hm, ?_, ?_⟩⟩
  · rw [List.size_toArray, List.length_append, hl, hS, ← Nat.add_mul]
    congr 1
    omega
  · rw [List.take_append_of_le_length (by rw [hl]; exact Nat.le_refl _), List.take_of_length_le (by rw [hl]; exact Nat.le_refl _)]
end
theorem off_setRow {F : Nat → Prop} {W W' : World} (h : Off F W W') {g : Nat} (hg : W.heap.size ≤ g ∨ F g) (cs : Array Value) : Off F W (W'.setRow g cs) :=
  ⟨h.os, h.tape, h.output, by simpa [World.setRow] using h.size, fun b hb hf => by
    have hne : g ≠ b := fun e => by subst e; rcases hg with z | z
                                    · omega
                                    · exact hf z
    have := h.block b hb hf
    simp only [World.setRow]
    rw [Array.getElem?_modify]
    rw [if_neg hne]
    exact this⟩
theorem off_row {W W' : World} {g : Nat} (h : Off (fun b => b = g) W W') (cs : Array Value) : Off (fun b => b = g) W (W'.setRow g cs) := off_setRow h (.inr rfl) cs
end Go.Proofs.YtimmnmidhjbanaaDoor
