/- append(s, x...) of a whole list onto a list of the call's own; parts of lists. Nothing of one program. -/
import Derived.Test.YtbgfjkgpekkciaaK04
import Derived.RangeFuncRecord
namespace Go.Proofs.Ytbgfjkgpekkciaa
open Go.RowKit
set_option linter.unusedVariables false
section
variable {α : Type} {enc : α → List Value} {n : Nat} {W W' : World}
/-- A part of a list that lies there, at whatever place. -/
def PartE (enc : α → List Value) (W : World) (x : Value) (m : List α) : Prop :=
  (x = .slice none 0 0 ∧ m = []) ∨ ∃ ad c, x = .slice (some ad) m.length c ∧ ∀ j u, (m.flatMap enc)[j]? = some u → W.cell? (ad.add j) = some u
/-- A list of one in memory. -/
theorem PartE.one {g : Nat} {t : TypeId} {r : α} {c : Nat} (h : Whole W g t (enc r).toArray) : PartE enc W (.slice (some ⟨g, 0, none⟩) 1 c) [r] :=
  .inr ⟨_, c, rfl, fun j u hu => by
    rw [show (⟨g, 0, none⟩ : Addr).add j = ⟨g, j, none⟩ by unfold Addr.add; split <;> simp_all, h.cell j]
    simpa using hu⟩
theorem flat_take (hlen : ∀ r, (enc r).length = n) : ∀ (l : List α) (i : Nat), (l.take i).flatMap enc = (l.flatMap enc).take (i * n)
  | [], i => by simp
  | r :: l, 0 => by simp
  | r :: l, i + 1 => by
    rw [List.take_succ_cons, List.flatMap_cons, List.flatMap_cons, flat_take hlen l i, Nat.add_mul, Nat.one_mul, List.take_append, List.take_of_length_le (l := enc r) (by rw [hlen]; omega), hlen, Nat.add_sub_cancel]
theorem flat_drop (hlen : ∀ r, (enc r).length = n) : ∀ (l : List α) (i : Nat), (l.drop i).flatMap enc = (l.flatMap enc).drop (i * n)
  | [], i => by simp
  | r :: l, 0 => by simp
  | r :: l, i + 1 => by
    rw [List.drop_succ_cons, List.flatMap_cons, flat_drop hlen l i, Nat.add_mul, Nat.one_mul, List.drop_append, List.drop_of_length_le (l := enc r) (by rw [hlen]; omega), hlen, Nat.add_sub_cancel, List.nil_append]
theorem RowE.take {g cap i : Nat} {base : Nat} {T : TypeId} {l : List α} (h : RowE enc n W base T (.slice (some ⟨g, 0, none⟩) l.length cap) l) (hlen : ∀ r, (enc r).length = n) (hi : i ≤ l.length) : PartE enc W (.slice (some ⟨g, 0, none⟩) i cap) (l.take i) := by
  have hl : (l.take i).length = i := by rw [List.length_take]; omega
  refine .inr ⟨_, cap, by rw [hl], fun j u hu => ?_⟩
  rw [flat_take hlen] at hu
  exact World.ownsRow.cells (g := g) h rfl j u (by
    rw [List.getElem?_take] at hu
    split at hu
    · exact hu
    · cases hu)
theorem RowE.drop {g cap i c : Nat} {base : Nat} {T : TypeId} {l : List α} (h : RowE enc n W base T (.slice (some ⟨g, 0, none⟩) l.length cap) l) (hlen : ∀ r, (enc r).length = n) : PartE enc W (.slice (some ⟨g, i * n, none⟩) (l.length - i) c) (l.drop i) := by
  refine .inr ⟨_, c, by rw [List.length_drop], fun j u hu => ?_⟩
  rw [flat_drop hlen, List.getElem?_drop] at hu
  have := World.ownsRow.cells (g := g) h rfl (i * n + j) u hu
  rw [add_at] at this
  rw [show (⟨g, i * n, none⟩ : Addr).add j = ⟨g, i * n + j, none⟩ by unfold Addr.add; split <;> simp_all]
  exact this
/-- A whole row. -/
theorem RowE.part {base : Nat} {T : TypeId} {v : Value} {l : List α} (h : RowE enc n W base T v l) (hlen : ∀ r, (enc r).length = n) : PartE enc W v l := by
  rcases h.2 with ⟨h1, h2⟩ | ⟨g, cap, cur, rfl, _⟩
  · exact .inl ⟨h1, List.eq_nil_of_length_eq_zero h2⟩
  · exact .inr ⟨_, _, rfl, World.ownsRow.cells (g := g) h rfl⟩
end
end Go.Proofs.Ytbgfjkgpekkciaa
