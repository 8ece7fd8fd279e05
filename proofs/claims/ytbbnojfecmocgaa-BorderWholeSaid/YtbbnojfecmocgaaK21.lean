/- Deepest pairs of tiles; a split and a merge of a list of tiles. Nothing of the program. Objects behind pointers: what a call may change of memory, and what stays. A tiling in memory: what its calls are to do, as premises; the laws' own num. The laws' own made: a tiling that acts made of the whole torus, by premises. -/
import Derived.Test.YtbbnojfecmocgaaK10
import Derived.Test.YtbbnojfecmocgaaK19
import Derived.StillTailTactics
import Derived.Deep.AppendLies
namespace Go.Proofs.Ytbbnojfecmocgaa
open Go.RowKit
/-- Is the path a tile's? -/
def hasT (L : List Tl) (d b : Int) : Bool := L.any fun s => s.d == d && s.b == b
theorem hasT_iff (L : List Tl) (d b : Int) : hasT L d b = true ↔ ∃ s ∈ L, s.d = d ∧ s.b = b := by
  unfold hasT
  rw [List.any_eq_true]
  constructor
  · rintro ⟨s, h1, h2⟩
    rw [Bool.and_eq_true, beq_iff_eq, beq_iff_eq] at h2
    exact ⟨s, h1, h2.1, h2.2⟩
  · rintro ⟨s, h1, h2, h3⟩
    exact ⟨s, h1, by rw [h2, h3]; simp⟩
/-- A tile that becomes its two halves; two halves that become one tile. -/
def splT (L : List Tl) (d b who : Int) : List Tl := L.flatMap fun s => if s.d = d ∧ s.b = b then [⟨d + 1, 2 * b, s.who⟩, ⟨d + 1, 2 * b + 1, who⟩] else [s]
theorem flat_self {α : Type} : ∀ (L : List α) (f : α → List α), (∀ s ∈ L, f s = [s]) → L.flatMap f = L
  | [], _, _ => rfl
  | x :: L, f, h => by rw [List.flatMap_cons, h x List.mem_cons_self, flat_self L f (fun s hs => h s (List.mem_cons_of_mem _ hs))]; rfl
end Go.Proofs.Ytbbnojfecmocgaa
namespace Go.Proofs.Ytbbnojfecmocgaa
open Go.RowKit
/-- W' came behind W, and of what was there only blocks of F may have changed. -/
structure Off (F : Nat → Prop) (W W' : World) : Prop where
  os : W'.os = W.os
  tape : W'.tape = W.tape
  output : W'.output = W.output
  size : W.heap.size ≤ W'.heap.size
  block : ∀ b, b < W.heap.size → ¬ F b → W'.heap[b]? = W.heap[b]?
theorem Below.drewN {B : Nat} {W W' : World} (h : Below B W W') (n : Nat) : Below B W (W'.drewN n) := ⟨h.os, h.tape, h.output, h.size, h.block⟩
theorem heap_set2 (W : World) (g : Nat) (u v : Value) (b : Nat) (h : b ≠ g) : ((W.setCell ⟨g, 0, none⟩ u).setCell ⟨g, 1, none⟩ v).heap[b]? = W.heap[b]? :=
  (Below.heap_setCell _ ⟨g, 1, none⟩ v b h).trans (Below.heap_setCell W ⟨g, 0, none⟩ u b h)
section
variable {F G : Nat → Prop} {W W' W2 : World}
theorem Off.refl (F : Nat → Prop) (W : World) : Off F W W := ⟨rfl, rfl, rfl, Nat.le_refl _, fun _ _ _ => rfl⟩
theorem Off.trans (h : Off F W W') (g : Off G W' W2) (hG : ∀ b, b < W.heap.size → G b → F b) : Off F W W2 :=
  ⟨g.os.trans h.os, g.tape.trans h.tape, g.output.trans h.output, Nat.le_trans h.size g.size,
    fun b hb hf => (g.block b (Nat.lt_of_lt_of_le hb h.size) (fun z => hf (hG b hb z))).trans (h.block b hb hf)⟩
theorem Since.off (h : Since W W') (F : Nat → Prop) : Off F W W' := ⟨h.os, h.tape, h.output, h.size, fun b hb _ => h.block b hb⟩
theorem Off.since (h : Off F W W') (g : Since W' W2) : Off F W W2 := h.trans (g.off F) (fun _ _ z => z)
theorem Off.below {B : Nat} (h : Off F W W') (hB : B ≤ W.heap.size) (hF : ∀ b, F b → B ≤ b) : Below B W W' :=
  ⟨h.os, h.tape, h.output, h.size, fun b hb => h.block b (Nat.lt_of_lt_of_le hb hB) (fun z => Nat.not_lt.2 (hF b z) hb)⟩
theorem Below.off {B : Nat} (h : Below B W W') (hF : ∀ b, b < W.heap.size → B ≤ b → F b) : Off F W W' :=
  ⟨h.os, h.tape, h.output, h.size, fun b hb hf => h.block b (by
    rcases Nat.lt_or_ge b B with c | c
    · exact c
    · exact absurd (hF b hb c) hf)⟩
theorem Off.whole {g : Nat} {t : TypeId} {cs : Array Value} (h : Off F W W') (hc : Whole W g t cs) (hg : ¬ F g) : Whole W' g t cs := (h.block g hc.lt hg).trans hc
theorem Off.named {w : World} (h : Off F W W') (e : w = W') : Off F W w := e ▸ h
theorem Off.mono (h : Off F W W') (hFG : ∀ b, b < W.heap.size → F b → G b) : Off G W W' := ⟨h.os, h.tape, h.output, h.size, fun b hb hg => h.block b hb (fun z => hg (hFG b hb z))⟩
theorem Off.alloc (h : Off F W W') (o : Obj) : Off F W (W'.alloc o) := h.since ((Since.refl W').alloc o)
theorem Off.drew (h : Off F W W') : Off F W W'.drew := h.since (Since.refl W').drew
theorem Off.setCell (h : Off F W W') {p : Addr} (hp : W.heap.size ≤ p.block ∨ F p.block) (v : Value) : Off F W (W'.setCell p v) :=
  ⟨h.os, h.tape, h.output, by simpa using h.size, fun b hb hf => (Below.heap_setCell W' p v b (fun e => by
    rcases hp with hp | hp
    · omega
    · exact hf (e ▸ hp))).trans (h.block b hb hf)⟩
/-- The cells of a box that is none of F's, at any world behind. -/
theorem off_cell {g : Nat} {t : TypeId} {cs : Array Value} (hc : Whole W g t cs) (hg : ¬ F g) (i : Nat) (v : Value) (hv : cs[i]? = some v) : ∀ W', Off F W W' → W'.cell? ⟨g, i, none⟩ = some v :=
  fun _ h => ((h.whole hc hg).cell i).trans hv
variable {α : Type} {enc : α → List Value} {n : Nat} {v : Value} {l : List α}
theorem ListE.off {B : Nat} (h : ListE enc n B W v l) (hB : B ≤ W.heap.size) (ho : Off F W W') (hF : ∀ a, v.ownBlock = some a → ¬ F a) : ListE enc n B W' v l := by
  rcases h with h | ⟨g, cap, rfl, hlt, hc⟩
  · exact .inl h
  · have e : ∀ j, W'.cell? ⟨g, j, none⟩ = W.cell? ⟨g, j, none⟩ := fun j => World.cell?_of_block (ho.block g (Nat.lt_of_lt_of_le hlt hB) (hF g rfl))
    exact .inr ⟨g, cap, rfl, hlt, fun i hi j u hu => (e _).trans (hc i hi j u hu)⟩
theorem RowE.own {base : Nat} {T : TypeId} (h : RowE enc n W base T v l) : ∀ a, v.ownBlock = some a → base ≤ a ∧ a < W.heap.size := fun a ha => World.ownsRow.lt h a ha
theorem RowE.off {base : Nat} {T : TypeId} (h : RowE enc n W base T v l) (ho : Off F W W') (hF : ∀ a, v.ownBlock = some a → ¬ F a) : RowE enc n W' base T v l := by
  rcases h with ⟨h1, h2⟩
  refine ⟨h1, ?_⟩
  rcases h2 with h2 | ⟨g, cap, cur, rfl, hg, hh, rest⟩
  · exact .inl h2
  · refine .inr ⟨g, cap, cur, rfl, hg, ?_, rest⟩
    have hlt : g < W.heap.size := by
      rcases Nat.lt_or_ge g W.heap.size with c | c
      · exact c
      · rw [Array.getElem?_eq_none c] at hh; cases hh
    exact (ho.block g hlt (hF g rfl)).trans hh
end
/-- append(s, x) of one element at a step of a region that draws its order (on the goal as AllReadyH.cons leaves it). -/
theorem step_append_off {α : Type} {enc : α → List Value} {n : Nat} {W : World} {ops : Array Oper} {o : Oper} {a : Act} {K : Act → World → Prop} {Q : Exit → Act → World → Prop} {E : Prop} (hgd : o.guard = none) (s x : Operand) (TS : TypeId)
    (ho : o.op = .call { callee := .builtin .append, args := #[s, x], argTypes := #[TS, TS] })
    (base : Nat) (T : TypeId) (z : Value) (bytes : Nat) (ht : Try.prog.underlying TS = some (.slice T)) (hi : (Try.prog.info? T).map (fun i => (i.zero, i.size, i.bytes)) = some (some z, n, bytes)) (hzs : z.cells.size = n) (hsz : 0 < n)
    {v : Value} {l : List α} (hrow : RowE enc n W base T v l) (r : α) {cs : Array Value} (hcs : cs = (enc r).toArray) (hlen : (enc r).length = n) (h1 : ∀ u ∈ enc r, u.oneCell' = true)
    (hs : a.eval s = v) (hx : a.eval x = .slice (some ⟨W.heap.size, 0, none⟩) 1 1)
    (hmax : l.length ≤ 100000) (hbytes : bytes ≤ 1000) (hbW : base ≤ W.heap.size)
    (h : ∀ g cap w', RowE enc n w' base T (.slice (some ⟨g, 0, none⟩) (l.length + 1) cap) (l ++ [r]) → Off (fun b => v.ownBlock = some b) W w' → (v.ownBlock = some g ∨ W.heap.size ≤ g) → K (a.put o.dst (.slice (some ⟨g, 0, none⟩) (l.length + 1) cap)) w') :
    if Region.wanted o (yielded ops a.tmps) = true then Oper.wp Try.prog o a (W.alloc (.cells cs T)) K Q else E := by
  obtain ⟨i0, hi, hz0, hz1, hz2⟩ := info_parts hi
  subst hcs
  have hl : (l.length + 1) * bytes ≤ 140737488355328 := Nat.le_trans (Nat.mul_le_mul (show l.length + 1 ≤ 100001 by omega) hbytes) (by decide)
  refine Go.step_append_lies _ hgd s x TS ho base T i0 z n bytes ht hi hz0 hz1 hz2 hzs hsz v l.length _ hs (hrow.alloc _) ⟨W.heap.size, 0, none⟩ 1 1 (enc r) hx (by rw [hlen, Nat.one_mul]) (enc_new _ _ _) h1 (by decide) (Nat.le_trans (show _ ≤ 100001 by omega) (by decide)) hl (by simp; omega) _ rfl ?_
  intro g cap w1 hown hgrow hob _
  have ha := (Since.refl W).alloc (.cells (enc r).toArray T)
  refine h g cap w1 (RowE.more hown) ⟨hgrow.os.trans ha.os, hgrow.tape.trans ha.tape, hgrow.output.trans ha.output, Nat.le_trans ha.size hgrow.size, fun b hb hn => (hgrow.block b (Nat.lt_of_lt_of_le hb ha.size) (fun e => hn e.symm)).trans (ha.block b hb)⟩ (hob.imp id fun e => by rw [e]; exact ha.size)
end Go.Proofs.Ytbbnojfecmocgaa
namespace Go.Proofs.Ytbbnojfecmocgaa
open Go.RowKit
/-- A tile's cells; a path's. -/
def encT (s : Tl) : List Value := [.int .i64 s.d, .int .i64 s.b, .int .i64 s.who]
theorem encT_len (s : Tl) : (encT s).length = 3 := rfl
def splitT (k : Int) (L : List Tl) (d b who : Int) : Int × List Tl := if hasT L d b = true then if d = 2 * k then (30, L) else if 64 ≤ L.length then (7, L) else (0, splT L d b who) else (3, L)
/-- The tile that has a cell. -/
def findT (k : Int) (L : List Tl) (x y : Int) : Option Tl := if hasB k x y = true then L.find? (fun s => hitB k x y s.d s.b) else none
def tlV : Option Tl → Value
  | none => .tuple #[.agg #[.int .i64 0, .int .i64 0, .int .i64 0], .bool false]
  | some s => .tuple #[.agg #[.int .i64 s.d, .int .i64 s.b, .int .i64 s.who], .bool true]
section
variable (Obj : (Nat → Prop) → World → Value → Int → Tr → Prop)
/-- A call that changes a tiling: its error, its tiles. -/
def Changes (F : Nat → Prop) (W : World) (v : Value) (k : Int) (r : Int × List Tl) (e : Ending) (W' : World) : Prop :=
  e = .returned (.int .i64 r.1) ∧ ∃ F' t', Obj F' W' v k t' ∧ t'.tiles 0 0 = r.2 ∧ Off F W W' ∧ ∀ b, F' b → F b ∨ W.heap.size ≤ b
/-- New: a tiling of its own. -/
def Makes (W : World) (k : Int) (L : List Tl) (e : Ending) (W' : World) : Prop :=
  ∃ v F t, e = .returned (.tuple #[v, .int .i64 0]) ∧ Obj F W' v k t ∧ t.tiles 0 0 = L ∧ (∀ b, F b → W.heap.size ≤ b) ∧ Below W.heap.size W W' ∧ v ≠ .pointer none
end
end Go.Proofs.Ytbbnojfecmocgaa
namespace Go.Proofs.Ytbbnojfecmocgaa
open Go.RowKit
/-- An act. -/
structure Ac where
  kind : Int
  d : Int
  b : Int
  who : Int
def encA (a : Ac) : List Value := [.int .i64 a.kind, .int .i64 a.d, .int .i64 a.b, .int .i64 a.who]
theorem corner5 {k d b p q r s : Int} (w : World) (h : okP k d b = true) (he : corF (side k) (ups d b (cnt d b)) = (p, q, r, s)) : Calls Try.prog 30 #[.agg #[.int .i64 k], .agg #[.int .i64 d, .int .i64 b]] w fun e w' => e = .returned (.tuple #[.agg #[.int .i64 p, .int .i64 q], .int .i64 r, .int .i64 s]) ∧ Below w.heap.size w w' := by
  have h1 := corner_raw k d b w h
  rw [he] at h1
  exact h1
end Go.Proofs.Ytbbnojfecmocgaa
