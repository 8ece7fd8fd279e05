/- Lists whose elements take n cells each, in memory: made by a call, or that lie there. Objects behind pointers: what a call may change of memory, and what stays. -/
import Derived.Test.YthfhpejpjiaikaaGreatK02
import Derived.Deep.AppendLies
import Derived.Maps.AppendAt
import Derived.Great.BuildSlice
import Derived.OwnWalk
namespace Go.Proofs.YthfhpejpjiaikaaGreat
open Go.RowKit
section
variable {α : Type} (enc : α → List Value) (n : Nat)
/-- A list that a call made: in blocks from base on. -/
def RowE (W : World) (base : Nat) (T : TypeId) (v : Value) (l : List α) : Prop := W.ownsRow base T n v l.length (l.flatMap enc)
/-- A list that lies there, in a block below B. -/
def ListE (B : Nat) (W : World) (v : Value) (l : List α) : Prop :=
  (l = [] ∧ v = .slice none 0 0) ∨ ∃ g cap, v = .slice (some ⟨g, 0, none⟩) l.length cap ∧ g < B ∧ ∀ i (h : i < l.length) j u, (enc l[i])[j]? = some u → W.cell? ⟨g, i * n + j, none⟩ = some u
end
theorem add_at (g j : Nat) : (⟨g, 0, none⟩ : Addr).add j = ⟨g, j, none⟩ := by
  unfold Addr.add
  split
  · next h => rw [h]
  · simp
section
variable {α : Type} {enc : α → List Value} {n : Nat}
theorem enc_get (hn : ∀ x, (enc x).length = n) : ∀ (l : List α) (i : Nat) (h : i < l.length) (j : Nat) (u : Value), (enc l[i])[j]? = some u → (l.flatMap enc)[i * n + j]? = some u
  | r :: l, 0, _, j, u, hu => by
    have hj : j < (enc r).length := (List.getElem?_eq_some_iff.1 hu).1
    rw [List.flatMap_cons, Nat.zero_mul, Nat.zero_add, List.getElem?_append_left hj]
    exact hu
  | r :: l, i + 1, h, j, u, hu => by
    have ih := enc_get hn l i (by simpa using h) j u hu
    rw [List.flatMap_cons, show (i + 1) * n + j = n + (i * n + j) by rw [Nat.add_mul]; omega, List.getElem?_append_right (by rw [hn]; omega), hn]
    rw [show n + (i * n + j) - n = i * n + j by omega]
    exact ih
theorem enc_snoc (l : List α) (r : α) : (l ++ [r]).flatMap enc = l.flatMap enc ++ enc r := by simp
variable {w W W' : World} {base : Nat} {T : TypeId} {v : Value} {l : List α}
theorem RowE.list (hn : ∀ x, (enc x).length = n) (h : RowE enc n W base T v l) : ListE enc n W.heap.size W v l := by
  have hc := fun g hg => World.ownsRow.cells (g := g) h hg
  rcases h.2 with ⟨rfl, h0⟩ | ⟨g, cap, cur, rfl, _, hg, _, _, _, _⟩
  · exact .inl ⟨List.eq_nil_of_length_eq_zero h0, rfl⟩
  · have hlt : g < W.heap.size := (World.ownsRow.lt h g rfl).2
    refine .inr ⟨g, cap, rfl, hlt, fun i hi j u hu => ?_⟩
    rw [← add_at]
    exact hc g rfl _ _ (enc_get hn l i hi j u hu)
theorem ListE.below {B B' : Nat} (h : ListE enc n B W v l) (hs : Below B' W W') (hB : B ≤ B') : ListE enc n B W' v l := by
  rcases h with h | ⟨g, cap, rfl, hlt, hc⟩
  · exact .inl h
  · have e : ∀ j, W'.cell? ⟨g, j, none⟩ = W.cell? ⟨g, j, none⟩ := fun j => World.cell?_of_block (hs.block g (Nat.lt_of_lt_of_le hlt hB))
    exact .inr ⟨g, cap, rfl, hlt, fun i hi j u hu => (e _).trans (hc i hi j u hu)⟩
theorem ListE.since {B : Nat} (h : ListE enc n B W v l) (hs : Since W W') (hB : B ≤ W.heap.size) : ListE enc n B W' v l := h.below hs hB
theorem ListE.mono {B B' : Nat} (h : ListE enc n B W v l) (hB : B ≤ B') : ListE enc n B' W v l :=
  h.imp id fun ⟨g, cap, a, b, c⟩ => ⟨g, cap, a, Nat.lt_of_lt_of_le b hB, c⟩
theorem ListE.form {B : Nat} (h : ListE enc n B W v l) : ∃ a cap, v = .slice a l.length cap ∧ ∀ i (_ : i < l.length), ∃ g, a = some ⟨g, 0, none⟩ ∧ g < B := by
  rcases h with ⟨rfl, rfl⟩ | ⟨g, cap, rfl, hlt, _⟩
  · exact ⟨none, 0, rfl, fun i hi => absurd hi (Nat.not_lt_zero i)⟩
  · exact ⟨_, cap, rfl, fun _ _ => ⟨g, rfl, hlt⟩⟩
/-- A cell of a list's element. -/
theorem ListE.at_ {B g len cap : Nat} (h : ListE enc n B W (.slice (some ⟨g, 0, none⟩) len cap) l) {i : Nat} (hi : i < l.length) (j : Nat) {u : Value} (hu : (enc l[i])[j]? = some u) : W.cell? ⟨g, i * n + j, none⟩ = some u := by
  rcases h with ⟨rfl, _⟩ | ⟨g', cap', e, _, hc⟩
  · exact absurd hi (Nat.not_lt_zero i)
  · injection e with e1 e2 e3
    injection e1 with e1
    injection e1 with e1
    subst e1
    exact hc i hi j u hu
theorem RowE.nil (W : World) (base : Nat) (T : TypeId) : RowE enc n W base T (.slice none 0 0) [] := World.ownsRow_nil _ _ _ _
theorem RowE.since (h : RowE enc n W base T v l) (hs : Since W W') : RowE enc n W' base T v l :=
  World.ownsRow.kept h (row := none) ⟨hs.os, hs.tape, hs.output, hs.size, fun k hk _ => hs.block k hk⟩ (by cases e : v.ownBlock with | none => exact .inl rfl | some _ => exact .inr (by simp))
theorem RowE.mono {base' : Nat} (h : RowE enc n W base T v l) (hb : base' ≤ base) : RowE enc n W base' T v l :=
  ⟨h.1, h.2.imp id fun ⟨g, cap, cur, a, b, rest⟩ => ⟨g, cap, cur, a, Nat.le_trans hb b, rest⟩⟩
theorem RowE.alloc (h : RowE enc n W base T v l) (o : Obj) : RowE enc n (W.alloc o) base T v l := World.ownsRow.alloc h o
theorem RowE.far (h : RowE enc n W base T v l) {p : Addr} (hp : p.block < base) (u : Value) : RowE enc n (W.setCell p u) base T v l :=
  have hs := Below.setCell (Below.refl p.block W) (Nat.le_refl p.block) u
  World.ownsRow.kept h (row := some p.block) ⟨hs.os, hs.tape, hs.output, hs.size, fun k _ hk => Below.heap_setCell W p u k (fun e => hk (by rw [e]))⟩ (by
    cases e : v.ownBlock with
    | none => exact .inl rfl
    | some g => exact .inr (fun e2 => by have := (World.ownsRow.lt h g e).1; injection e2 with e2; omega))
theorem RowE.more {r : α} (h : W.ownsRow base T n v (l.length + 1) (l.flatMap enc ++ enc r)) : RowE enc n W base T v (l ++ [r]) := by
  unfold RowE
  rw [enc_snoc, List.length_append]
  exact h
/-- The cells of an element that was just laid. -/
theorem enc_new (w : World) (xs : List Value) (t : TypeId) : ∀ j u, xs[j]? = some u → (w.alloc (.cells xs.toArray t)).cell? ((⟨w.heap.size, 0, none⟩ : Addr).add j) = some u := by
  intro j u hj
  rw [add_at, (Whole.new w t xs.toArray).cell j, List.getElem?_toArray]
  exact hj
end
/-- A list that was handed in: in one block below B, at whatever place of it. -/
def LentE {α : Type} (enc : α → List Value) (n B : Nat) (W : World) (v : Value) (l : List α) : Prop :=
  ∃ a cap, v = .slice a l.length cap ∧ (l.length = 0 ∨ ∃ b off, a = some ⟨b, off, none⟩ ∧ b < B ∧ ∀ i (h : i < l.length) j u, (enc l[i])[j]? = some u → W.cell? ⟨b, off + i * n + j, none⟩ = some u)
theorem LentE.below {α : Type} {enc : α → List Value} {n B B' : Nat} {W W' : World} {v : Value} {l : List α} (h : LentE enc n B W v l) (hs : Below B' W W') (hB : B ≤ B') : LentE enc n B W' v l := by
  obtain ⟨a, cap, e, h⟩ := h
  refine ⟨a, cap, e, h.imp id fun ⟨b, off, h1, h2, h3⟩ => ⟨b, off, h1, h2, fun i hi j u hu => ?_⟩⟩
  exact (World.cell?_of_block (hs.block b (Nat.lt_of_lt_of_le h2 hB))).trans (h3 i hi j u hu)
theorem LentE.since {α : Type} {enc : α → List Value} {n B : Nat} {W W' : World} {v : Value} {l : List α} (h : LentE enc n B W v l) (hs : Since W W') (hB : B ≤ W.heap.size) : LentE enc n B W' v l := h.below hs hB
end Go.Proofs.YthfhpejpjiaikaaGreat
namespace Go.Proofs.YthfhpejpjiaikaaGreat
open Go.RowKit
/-- W' came behind W, and of what was there only blocks of F may have changed. -/
structure Off (F : Nat → Prop) (W W' : World) : Prop where
  os : W'.os = W.os
  tape : W'.tape = W.tape
  output : W'.output = W.output
  size : W.heap.size ≤ W'.heap.size
  block : ∀ b, b < W.heap.size → ¬ F b → W'.heap[b]? = W.heap[b]?
theorem Below.drewN {B : Nat} {W W' : World} (h : Below B W W') (n : Nat) : Below B W (W'.drewN n) := ⟨h.os, h.tape, h.output, h.size, h.block⟩
section
variable {F G : Nat → Prop} {W W' W2 : World}
theorem Off.refl (F : Nat → Prop) (W : World) : Off F W W := ⟨rfl, rfl, rfl, Nat.le_refl _, fun _ _ _ => rfl⟩
theorem Off.trans (h : Off F W W') (g : Off G W' W2) (hG : ∀ b, b < W.heap.size → G b → F b) : Off F W W2 :=
  ⟨g.os.trans h.os, g.tape.trans h.tape, g.output.trans h.output, Nat.le_trans h.size g.size,
    fun b hb hf => (g.block b (Nat.lt_of_lt_of_le hb h.size) (fun z => hf (hG b hb z))).trans (h.block b hb hf)⟩
theorem Since.off (h : Since W W') (F : Nat → Prop) : Off F W W' := ⟨h.os, h.tape, h.output, h.size, fun b hb _ => h.block b hb⟩
theorem Off.since (h : Off F W W') (g : Since W' W2) : Off F W W2 := h.trans (g.off F) (fun _ _ z => z)
theorem Off.below {B : Nat} (h : Off F W W') (hB : B ≤ W.heap.size) (hF : ∀ b, F b → B ≤ b) : Below B W W' :=
  ⟨h.os, h.tape, h.output, h.size, fun b hb => h.block b (Nat.lt_of_lt_of_le hb hB) (fun z => Nat.not_lt.2 (hF b z) hb)⟩
theorem Below.off {B : Nat} (h : Below B W W') (hF : ∀ b, b < W.heap.size → B ≤ b → F b) : Off F W W' :=
  ⟨h.os, h.tape, h.output, h.size, fun b hb hf => h.block b (by
    rcases Nat.lt_or_ge b B with c | c
    · exact c
    · exact absurd (hF b hb c) hf)⟩
theorem Off.whole {g : Nat} {t : TypeId} {cs : Array Value} (h : Off F W W') (hc : Whole W g t cs) (hg : ¬ F g) : Whole W' g t cs := (h.block g hc.lt hg).trans hc
theorem Off.named {w : World} (h : Off F W W') (e : w = W') : Off F W w := e ▸ h
theorem Off.mono (h : Off F W W') (hFG : ∀ b, b < W.heap.size → F b → G b) : Off G W W' := ⟨h.os, h.tape, h.output, h.size, fun b hb hg => h.block b hb (fun z => hg (hFG b hb z))⟩
theorem Off.alloc (h : Off F W W') (o : Obj) : Off F W (W'.alloc o) := h.since ((Since.refl W').alloc o)
theorem Off.drew (h : Off F W W') : Off F W W'.drew := h.since (Since.refl W').drew
theorem Off.setCell (h : Off F W W') {p : Addr} (hp : W.heap.size ≤ p.block ∨ F p.block) (v : Value) : Off F W (W'.setCell p v) :=
  ⟨h.os, h.tape, h.output, by simpa using h.size, fun b hb hf => (Below.heap_setCell W' p v b (fun e => by
    rcases hp with hp | hp
    · omega
    · exact hf (e ▸ hp))).trans (h.block b hb hf)⟩
/-- The cells of a box that is none of F's, at any world behind. -/
theorem off_cell {g : Nat} {t : TypeId} {cs : Array Value} (hc : Whole W g t cs) (hg : ¬ F g) (i : Nat) (v : Value) (hv : cs[i]? = some v) : ∀ W', Off F W W' → W'.cell? ⟨g, i, none⟩ = some v :=
  fun _ h => ((h.whole hc hg).cell i).trans hv
variable {α : Type} {enc : α → List Value} {n : Nat} {v : Value} {l : List α}
theorem ListE.off {B : Nat} (h : ListE enc n B W v l) (hB : B ≤ W.heap.size) (ho : Off F W W') (hF : ∀ a, v.ownBlock = some a → ¬ F a) : ListE enc n B W' v l := by
  rcases h with h | ⟨g, cap, rfl, hlt, hc⟩
  · exact .inl h
  · have e : ∀ j, W'.cell? ⟨g, j, none⟩ = W.cell? ⟨g, j, none⟩ := fun j => World.cell?_of_block (ho.block g (Nat.lt_of_lt_of_le hlt hB) (hF g rfl))
    exact .inr ⟨g, cap, rfl, hlt, fun i hi j u hu => (e _).trans (hc i hi j u hu)⟩
theorem RowE.own {base : Nat} {T : TypeId} (h : RowE enc n W base T v l) : ∀ a, v.ownBlock = some a → base ≤ a ∧ a < W.heap.size := fun a ha => World.ownsRow.lt h a ha
theorem RowE.off {base : Nat} {T : TypeId} (h : RowE enc n W base T v l) (ho : Off F W W') (hF : ∀ a, v.ownBlock = some a → ¬ F a) : RowE enc n W' base T v l := by
  rcases h with ⟨h1, h2⟩
  refine ⟨h1, ?_⟩
  rcases h2 with h2 | ⟨g, cap, cur, rfl, hg, hh, rest⟩
  · exact .inl h2
  · refine .inr ⟨g, cap, cur, rfl, hg, ?_, rest⟩
    have hlt : g < W.heap.size := by
      rcases Nat.lt_or_ge g W.heap.size with c | c
      · exact c
      · rw [Array.getElem?_eq_none c] at hh; cases hh
    exact (ho.block g hlt (hF g rfl)).trans hh
end
/-- append(s, x) of one element x, s a list of the call's own: only its own block may have changed. -/
theorem wpList_append_off {α : Type} {enc : α → List Value} {n : Nat} {W : World} {ops : Array Oper} {rest : List Oper} {o : Oper} {a : Act} {Q : Exit → Act → World → Prop} (hgd : o.guard = none) (s x : Operand) (TS : TypeId)
    (ho : o.op = .call { callee := .builtin .append, args := #[s, x], argTypes := #[TS, TS] })
    (base : Nat) (T : TypeId) (z : Value) (bytes : Nat) (ht : Tryz.prog.underlying TS = some (.slice T)) (hi : (Tryz.prog.info? T).map (fun i => (i.zero, i.size, i.bytes)) = some (some z, n, bytes)) (hzs : z.cells.size = n) (hsz : 0 < n)
    {v : Value} {l : List α} (hrow : RowE enc n W base T v l) (r : α) {cs : Array Value} (hcs : cs = (enc r).toArray) (hlen : (enc r).length = n) (h1 : ∀ u ∈ enc r, u.oneCell' = true)
    (hs : a.eval s = v) (hx : a.eval x = .slice (some ⟨W.heap.size, 0, none⟩) 1 1)
    (hmax : l.length ≤ 100000) (hbytes : bytes ≤ 1000) (hbW : base ≤ W.heap.size)
    (h : ∀ v' w', RowE enc n w' base T v' (l ++ [r]) → Off (fun b => v.ownBlock = some b) W w' → (v'.ownBlock = v.ownBlock ∨ ∃ g, v'.ownBlock = some g ∧ W.heap.size ≤ g) → wpList Tryz.prog ops Q rest (a.put o.dst v') w') :
    wpList Tryz.prog ops Q (o :: rest) a (W.alloc (.cells cs T)) := by
  obtain ⟨i0, hi, hz0, hz1, hz2⟩ := info_parts hi
  subst hcs
  have hl : (l.length + 1) * bytes ≤ 140737488355328 := Nat.le_trans (Nat.mul_le_mul (show l.length + 1 ≤ 100001 by omega) hbytes) (by decide)
  refine wpList_append_own_at _ hgd s x TS ho base T i0 z n bytes ht hi hz0 hz1 hz2 hzs hsz v l.length _ hs (hrow.alloc _) ⟨W.heap.size, 0, none⟩ 1 1 (enc r) hx (by rw [hlen, Nat.one_mul]) (enc_new _ _ _) h1 (Nat.le_trans (show _ ≤ 100001 by omega) (by decide)) hl (by simp; omega) ?_
  intro v' w1 hown hgrow _ hob
  have ha := (Since.refl W).alloc (.cells (enc r).toArray T)
  refine h v' w1 (RowE.more hown) ⟨hgrow.os.trans ha.os, hgrow.tape.trans ha.tape, hgrow.output.trans ha.output, Nat.le_trans ha.size hgrow.size, fun b hb hn => (hgrow.block b (Nat.lt_of_lt_of_le hb ha.size) (fun e => hn e.symm)).trans (ha.block b hb)⟩ (hob.imp id fun e => ⟨_, e, ha.size⟩)
end Go.Proofs.YthfhpejpjiaikaaGreat
