/- Lists whose elements take n cells each, in memory: made by a call, or that lie there. -/
import Derived.Test.YtbgfjkgpekkciaaK02
import Derived.Maps.AppendAt
import Derived.Great.BuildSlice
import Derived.OwnWalk
namespace Go.Proofs.Ytbgfjkgpekkciaa
open Go.RowKit
section
variable {α : Type} (enc : α → List Value) (n : Nat)
/-- A list that a call made: in blocks from base on. -/
def RowE (W : World) (base : Nat) (T : TypeId) (v : Value) (l : List α) : Prop := W.ownsRow base T n v l.length (l.flatMap enc)
/-- A list that lies there, in a block below B. -/
def ListE (B : Nat) (W : World) (v : Value) (l : List α) : Prop :=
  (l = [] ∧ v = .slice none 0 0) ∨ ∃ g cap, v = .slice (some ⟨g, 0, none⟩) l.length cap ∧ g < B ∧ ∀ i (h : i < l.length) j u, (enc l[i])[j]? = some u → W.cell? ⟨g, i * n + j, none⟩ = some u
end
theorem add_at (g j : Nat) : (⟨g, 0, none⟩ : Addr).add j = ⟨g, j, none⟩ := by
  unfold Addr.add
  split
  · next h => rw [h]
  · simp
section
variable {α : Type} {enc : α → List Value} {n : Nat}
theorem enc_get (hn : ∀ x, (enc x).length = n) : ∀ (l : List α) (i : Nat) (h : i < l.length) (j : Nat) (u : Value), (enc l[i])[j]? = some u → (l.flatMap enc)[i * n + j]? = some u
  | r :: l, 0, _, j, u, hu => by
    have hj : j < (enc r).length := (List.getElem?_eq_some_iff.1 hu).1
    rw [List.flatMap_cons, Nat.zero_mul, Nat.zero_add, List.getElem?_append_left hj]
    exact hu
  | r :: l, i + 1, h, j, u, hu => by
    have ih := enc_get hn l i (by simpa using h) j u hu
    rw [List.flatMap_cons, show (i + 1) * n + j = n + (i * n + j) by rw [Nat.add_mul]; omega, List.getElem?_append_right (by rw [hn]; omega), hn]
    rw [show n + (i * n + j) - n = i * n + j by omega]
    exact ih
theorem enc_snoc (l : List α) (r : α) : (l ++ [r]).flatMap enc = l.flatMap enc ++ enc r := by simp
variable {w W W' : World} {base : Nat} {T : TypeId} {v : Value} {l : List α}
theorem ListE.below {B B' : Nat} (h : ListE enc n B W v l) (hs : Below B' W W') (hB : B ≤ B') : ListE enc n B W' v l := by
  rcases h with h | ⟨g, cap, rfl, hlt, hc⟩
  · exact .inl h
  · have e : ∀ j, W'.cell? ⟨g, j, none⟩ = W.cell? ⟨g, j, none⟩ := fun j => World.cell?_of_block (hs.block g (Nat.lt_of_lt_of_le hlt hB))
    exact .inr ⟨g, cap, rfl, hlt, fun i hi j u hu => (e _).trans (hc i hi j u hu)⟩
theorem ListE.since {B : Nat} (h : ListE enc n B W v l) (hs : Since W W') (hB : B ≤ W.heap.size) : ListE enc n B W' v l := h.below hs hB
theorem ListE.mono {B B' : Nat} (h : ListE enc n B W v l) (hB : B ≤ B') : ListE enc n B' W v l :=
  h.imp id fun ⟨g, cap, a, b, c⟩ => ⟨g, cap, a, Nat.lt_of_lt_of_le b hB, c⟩
theorem ListE.form {B : Nat} (h : ListE enc n B W v l) : ∃ a cap, v = .slice a l.length cap ∧ ∀ i (_ : i < l.length), ∃ g, a = some ⟨g, 0, none⟩ ∧ g < B := by
  rcases h with ⟨rfl, rfl⟩ | ⟨g, cap, rfl, hlt, _⟩
  · exact ⟨none, 0, rfl, fun i hi => absurd hi (Nat.not_lt_zero i)⟩
  · exact ⟨_, cap, rfl, fun _ _ => ⟨g, rfl, hlt⟩⟩
/-- A cell of a list's element. -/
theorem ListE.at_ {B g len cap : Nat} (h : ListE enc n B W (.slice (some ⟨g, 0, none⟩) len cap) l) {i : Nat} (hi : i < l.length) (j : Nat) {u : Value} (hu : (enc l[i])[j]? = some u) : W.cell? ⟨g, i * n + j, none⟩ = some u := by
  rcases h with ⟨rfl, _⟩ | ⟨g', cap', e, _, hc⟩
  · exact absurd hi (Nat.not_lt_zero i)
  · injection e with e1 e2 e3
    injection e1 with e1
    injection e1 with e1
    subst e1
    exact hc i hi j u hu
theorem RowE.nil (W : World) (base : Nat) (T : TypeId) : RowE enc n W base T (.slice none 0 0) [] := World.ownsRow_nil _ _ _ _
theorem RowE.since (h : RowE enc n W base T v l) (hs : Since W W') : RowE enc n W' base T v l :=
  World.ownsRow.kept h (row := none) ⟨hs.os, hs.tape, hs.output, hs.size, fun k hk _ => hs.block k hk⟩ (by cases e : v.ownBlock with | none => exact .inl rfl | some _ => exact .inr (by simp))
theorem RowE.mono {base' : Nat} (h : RowE enc n W base T v l) (hb : base' ≤ base) : RowE enc n W base' T v l :=
  ⟨h.1, h.2.imp id fun ⟨g, cap, cur, a, b, rest⟩ => ⟨g, cap, cur, a, Nat.le_trans hb b, rest⟩⟩
theorem RowE.alloc (h : RowE enc n W base T v l) (o : Obj) : RowE enc n (W.alloc o) base T v l := World.ownsRow.alloc h o
/-- All that was there but the row of the call's own is as it was, behind an append. -/
theorem Since.grown {o : Obj} (hs : Since w W) (h : RowE enc n W base T v l) (hb : w.heap.size ≤ base) (hg : (W.alloc o).grownBy W' v.ownBlock) : Since w W' :=
  have ha := hs.alloc o
  ⟨hg.os.trans ha.os, hg.tape.trans ha.tape, hg.output.trans ha.output, Nat.le_trans ha.size hg.size, fun k hk =>
    (hg.block k (Nat.lt_of_lt_of_le hk ha.size) (fun e => by have := (World.ownsRow.lt h k e.symm).1; omega)).trans (ha.block k hk)⟩
theorem RowE.more {r : α} (h : W.ownsRow base T n v (l.length + 1) (l.flatMap enc ++ enc r)) : RowE enc n W base T v (l ++ [r]) := by
  unfold RowE
  rw [enc_snoc, List.length_append]
  exact h
end
/-- A list that was handed in: in one block below B, at whatever place of it. -/
def LentE {α : Type} (enc : α → List Value) (n B : Nat) (W : World) (v : Value) (l : List α) : Prop :=
  ∃ a cap, v = .slice a l.length cap ∧ (l.length = 0 ∨ ∃ b off, a = some ⟨b, off, none⟩ ∧ b < B ∧ ∀ i (h : i < l.length) j u, (enc l[i])[j]? = some u → W.cell? ⟨b, off + i * n + j, none⟩ = some u)
theorem LentE.below {α : Type} {enc : α → List Value} {n B B' : Nat} {W W' : World} {v : Value} {l : List α} (h : LentE enc n B W v l) (hs : Below B' W W') (hB : B ≤ B') : LentE enc n B W' v l := by
  obtain ⟨a, cap, e, h⟩ := h
  refine ⟨a, cap, e, h.imp id fun ⟨b, off, h1, h2, h3⟩ => ⟨b, off, h1, h2, fun i hi j u hu => ?_⟩⟩
  exact (World.cell?_of_block (hs.block b (Nat.lt_of_lt_of_le h2 hB))).trans (h3 i hi j u hu)
theorem LentE.since {α : Type} {enc : α → List Value} {n B : Nat} {W W' : World} {v : Value} {l : List α} (h : LentE enc n B W v l) (hs : Since W W') (hB : B ≤ W.heap.size) : LentE enc n B W' v l := h.below hs hB
end Go.Proofs.Ytbgfjkgpekkciaa
