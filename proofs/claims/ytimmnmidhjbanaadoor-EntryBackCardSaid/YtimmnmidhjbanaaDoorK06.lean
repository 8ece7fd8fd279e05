/- Objects behind pointers: what a call may change of memory, and what stays. -/
import Derived.Test.YtimmnmidhjbanaaDoorK05
import Derived.Deep.AppendLies
namespace Go.Proofs.YtimmnmidhjbanaaDoor
open Go.RowKit
/-- W' came behind W, and of what was there only blocks of F may have changed. -/
structure Off (F : Nat → Prop) (W W' : World) : Prop where
  os : W'.os = W.os
  tape : W'.tape = W.tape
  output : W'.output = W.output
  size : W.heap.size ≤ W'.heap.size
  block : ∀ b, b < W.heap.size → ¬ F b → W'.heap[b]? = W.heap[b]?
theorem Below.drewN {B : Nat} {W W' : World} (h : Below B W W') (n : Nat) : Below B W (W'.drewN n) := ⟨h.os, h.tape, h.output, h.size, h.block⟩
section
variable {F G : Nat → Prop} {W W' W2 : World}
theorem Off.refl (F : Nat → Prop) (W : World) : Off F W W := ⟨rfl, rfl, rfl, Nat.le_refl _, fun _ _ _ => rfl⟩
theorem Off.trans (h : Off F W W') (g : Off G W' W2) (hG : ∀ b, b < W.heap.size → G b → F b) : Off F W W2 :=
  ⟨g.os.trans h.os, g.tape.trans h.tape, g.output.trans h.output, Nat.le_trans h.size g.size,
    fun b hb hf => (g.block b (Nat.lt_of_lt_of_le hb h.size) (fun z => hf (hG b hb z))).trans (h.block b hb hf)⟩
theorem Since.off (h : Since W W') (F : Nat → Prop) : Off F W W' := ⟨h.os, h.tape, h.output, h.size, fun b hb _ => h.block b hb⟩
theorem Off.since (h : Off F W W') (g : Since W' W2) : Off F W W2 := h.trans (g.off F) (fun _ _ z => z)
theorem Off.below {B : Nat} (h : Off F W W') (hB : B ≤ W.heap.size) (hF : ∀ b, F b → B ≤ b) : Below B W W' :=
  ⟨h.os, h.tape, h.output, h.size, fun b hb => h.block b (Nat.lt_of_lt_of_le hb hB) (fun z => Nat.not_lt.2 (hF b z) hb)⟩
theorem Below.off {B : Nat} (h : Below B W W') (hF : ∀ b, b < W.heap.size → B ≤ b → F b) : Off F W W' :=
  ⟨h.os, h.tape, h.output, h.size, fun b hb hf => h.block b (by
    rcases Nat.lt_or_ge b B with c | c
    · exact c
    · exact absurd (hF b hb c) hf)⟩
theorem Off.whole {g : Nat} {t : TypeId} {cs : Array Value} (h : Off F W W') (hc : Whole W g t cs) (hg : ¬ F g) : Whole W' g t cs := (h.block g hc.lt hg).trans hc
theorem Off.mono (h : Off F W W') (hFG : ∀ b, b < W.heap.size → F b → G b) : Off G W W' := ⟨h.os, h.tape, h.output, h.size, fun b hb hg => h.block b hb (fun z => hg (hFG b hb z))⟩
theorem Off.alloc (h : Off F W W') (o : Obj) : Off F W (W'.alloc o) := h.since ((Since.refl W').alloc o)
theorem Off.drew (h : Off F W W') : Off F W W'.drew := h.since (Since.refl W').drew
theorem Off.setCell (h : Off F W W') {p : Addr} (hp : W.heap.size ≤ p.block ∨ F p.block) (v : Value) : Off F W (W'.setCell p v) :=
  ⟨h.os, h.tape, h.output, by simpa using h.size, fun b hb hf => (Below.heap_setCell W' p v b (fun e => by
    rcases hp with hp | hp
    · omega
    · exact hf (e ▸ hp))).trans (h.block b hb hf)⟩
/-- The cells of a box that is none of F's, at any world behind. -/
theorem off_cell {g : Nat} {t : TypeId} {cs : Array Value} (hc : Whole W g t cs) (hg : ¬ F g) (i : Nat) (v : Value) (hv : cs[i]? = some v) : ∀ W', Off F W W' → W'.cell? ⟨g, i, none⟩ = some v :=
  fun _ h => ((h.whole hc hg).cell i).trans hv
variable {α : Type} {enc : α → List Value} {n : Nat} {v : Value} {l : List α}
theorem ListE.off {B : Nat} (h : ListE enc n B W v l) (hB : B ≤ W.heap.size) (ho : Off F W W') (hF : ∀ a, v.ownBlock = some a → ¬ F a) : ListE enc n B W' v l := by
  rcases h with h | ⟨g, cap, rfl, hlt, hc⟩
  · exact .inl h
  · have e : ∀ j, W'.cell? ⟨g, j, none⟩ = W.cell? ⟨g, j, none⟩ := fun j => World.cell?_of_block (ho.block g (Nat.lt_of_lt_of_le hlt hB) (hF g rfl))
    exact .inr ⟨g, cap, rfl, hlt, fun i hi j u hu => (e _).trans (hc i hi j u hu)⟩
theorem RowE.own {base : Nat} {T : TypeId} (h : RowE enc n W base T v l) : ∀ a, v.ownBlock = some a → base ≤ a ∧ a < W.heap.size := fun a ha => World.ownsRow.lt h a ha
theorem RowE.off {base : Nat} {T : TypeId} (h : RowE enc n W base T v l) (ho : Off F W W') (hF : ∀ a, v.ownBlock = some a → ¬ F a) : RowE enc n W' base T v l := by
  rcases h with ⟨h1, h2⟩
  refine ⟨h1, ?_⟩
  rcases h2 with h2 | ⟨g, cap, cur, rfl, hg, hh, rest⟩
  · exact .inl h2
  · refine .inr ⟨g, cap, cur, rfl, hg, ?_, rest⟩
    have hlt : g < W.heap.size := by
      rcases Nat.lt_or_ge g W.heap.size with c | c
      · exact c
      · rw [Array.getElem?_eq_none c] at hh; cases hh
    exact (ho.block g hlt (hF g rfl)).trans hh
end
end Go.Proofs.YtimmnmidhjbanaaDoor
