/- Objects behind pointers: what a call may change of memory, and what stays. Readers of both kinds, by what is still to come and the error. glebelaw07's own Rec, Op, Ans, RefRec, RefOp, RefAns, num, long. -/
import Derived.Test.YtimmnmidhjbanaaDoorK03
import Derived.Test.YtimmnmidhjbanaaDoorK05
import Derived.Test.YtimmnmidhjbanaaDoorK06
import Derived.Test.YtimmnmidhjbanaaDoorK13
import Derived.Deep.AppendLies
namespace Go.Proofs.YtimmnmidhjbanaaDoor
open Go.RowKit
/-- W' came behind W, and of what was there only blocks of F may have changed. -/
structure Off (F : Nat → Prop) (W W' : World) : Prop where
  os : W'.os = W.os
  tape : W'.tape = W.tape
  output : W'.output = W.output
  size : W.heap.size ≤ W'.heap.size
  block : ∀ b, b < W.heap.size → ¬ F b → W'.heap[b]? = W.heap[b]?
theorem Below.drewN {B : Nat} {W W' : World} (h : Below B W W') (n : Nat) : Below B W (W'.drewN n) := ⟨h.os, h.tape, h.output, h.size, h.block⟩
section
variable {F G : Nat → Prop} {W W' W2 : World}
theorem Off.refl (F : Nat → Prop) (W : World) : Off F W W := ⟨rfl, rfl, rfl, Nat.le_refl _, fun _ _ _ => rfl⟩
theorem Off.trans (h : Off F W W') (g : Off G W' W2) (hG : ∀ b, b < W.heap.size → G b → F b) : Off F W W2 :=
  ⟨g.os.trans h.os, g.tape.trans h.tape, g.output.trans h.output, Nat.le_trans h.size g.size,
    fun b hb hf => (g.block b (Nat.lt_of_lt_of_le hb h.size) (fun z => hf (hG b hb z))).trans (h.block b hb hf)⟩
theorem Since.off (h : Since W W') (F : Nat → Prop) : Off F W W' := ⟨h.os, h.tape, h.output, h.size, fun b hb _ => h.block b hb⟩
theorem Off.since (h : Off F W W') (g : Since W' W2) : Off F W W2 := h.trans (g.off F) (fun _ _ z => z)
theorem Off.below {B : Nat} (h : Off F W W') (hB : B ≤ W.heap.size) (hF : ∀ b, F b → B ≤ b) : Below B W W' :=
  ⟨h.os, h.tape, h.output, h.size, fun b hb => h.block b (Nat.lt_of_lt_of_le hb hB) (fun z => Nat.not_lt.2 (hF b z) hb)⟩
theorem Below.off {B : Nat} (h : Below B W W') (hF : ∀ b, b < W.heap.size → B ≤ b → F b) : Off F W W' :=
  ⟨h.os, h.tape, h.output, h.size, fun b hb hf => h.block b (by
    rcases Nat.lt_or_ge b B with c | c
    · exact c
    · exact absurd (hF b hb c) hf)⟩
theorem Off.whole {g : Nat} {t : TypeId} {cs : Array Value} (h : Off F W W') (hc : Whole W g t cs) (hg : ¬ F g) : Whole W' g t cs := (h.block g hc.lt hg).trans hc
theorem Off.mono (h : Off F W W') (hFG : ∀ b, b < W.heap.size → F b → G b) : Off G W W' := ⟨h.os, h.tape, h.output, h.size, fun b hb hg => h.block b hb (fun z => hg (hFG b hb z))⟩
theorem Off.alloc (h : Off F W W') (o : Obj) : Off F W (W'.alloc o) := h.since ((Since.refl W').alloc o)
theorem Off.drew (h : Off F W W') : Off F W W'.drew := h.since (Since.refl W').drew
theorem Off.setCell (h : Off F W W') {p : Addr} (hp : W.heap.size ≤ p.block ∨ F p.block) (v : Value) : Off F W (W'.setCell p v) :=
  ⟨h.os, h.tape, h.output, by simpa using h.size, fun b hb hf => (Below.heap_setCell W' p v b (fun e => by
    rcases hp with hp | hp
    · omega
    · exact hf (e ▸ hp))).trans (h.block b hb hf)⟩
variable {α : Type} {enc : α → List Value} {n : Nat} {v : Value} {l : List α}
theorem ListE.off {B : Nat} (h : ListE enc n B W v l) (hB : B ≤ W.heap.size) (ho : Off F W W') (hF : ∀ a, v.ownBlock = some a → ¬ F a) : ListE enc n B W' v l := by
  rcases h with h | ⟨g, cap, rfl, hlt, hc⟩
  · exact .inl h
  · have e : ∀ j, W'.cell? ⟨g, j, none⟩ = W.cell? ⟨g, j, none⟩ := fun j => World.cell?_of_block (ho.block g (Nat.lt_of_lt_of_le hlt hB) (hF g rfl))
    exact .inr ⟨g, cap, rfl, hlt, fun i hi j u hu => (e _).trans (hc i hi j u hu)⟩
theorem RowE.own {base : Nat} {T : TypeId} (h : RowE enc n W base T v l) : ∀ a, v.ownBlock = some a → base ≤ a ∧ a < W.heap.size := fun a ha => World.ownsRow.lt h a ha
theorem RowE.off {base : Nat} {T : TypeId} (h : RowE enc n W base T v l) (ho : Off F W W') (hF : ∀ a, v.ownBlock = some a → ¬ F a) : RowE enc n W' base T v l := by
  rcases h with ⟨h1, h2⟩
  refine ⟨h1, ?_⟩
  rcases h2 with h2 | ⟨g, cap, cur, rfl, hg, hh, rest⟩
  · exact .inl h2
  · refine .inr ⟨g, cap, cur, rfl, hg, ?_, rest⟩
    have hlt : g < W.heap.size := by
      rcases Nat.lt_or_ge g W.heap.size with c | c
      · exact c
      · rw [Array.getElem?_eq_none c] at hh; cases hh
    exact (ho.block g hlt (hF g rfl)).trans hh
end
end Go.Proofs.YtimmnmidhjbanaaDoor
namespace Go.Proofs.YtimmnmidhjbanaaDoor
open Go.RowKit
set_option linter.unusedVariables false
/-- What is still to come, and the error. -/
abbrev RSt := List UInt8 × Int
/-- The program's reader. -/
def RdS (w : World) (base g : Nat) (s : RSt) : Prop := ∃ A n c, Rdr w base g A n c s.1 s.2
/-- The document's. -/
def DcS (w : World) (B q : Nat) (A : Option Addr) (n c : Nat) (b : List UInt8) (s : RSt) : Prop := ∃ k, RAt w B q A n c b k s.1 s.2
section
variable {F : Nat → Prop} {w w' : World} {base g B q n c : Nat} {A : Option Addr} {b : List UInt8} {s s1 : RSt}
theorem Only.off (h : Only g w w') : Off (fun b => b = g) w w' := ⟨h.os, h.tape, h.output, Nat.le_of_eq h.size.symm, fun b _ hb => h.block b hb⟩
theorem Off.cellAt (h : Off F w w') {p : Addr} (hp : p.block < w.heap.size) (hf : ¬ F p.block) : w'.cell? p = w.cell? p := by
  have := h.block p.block hp hf
  unfold World.cell?
  rw [this]
theorem RdS.lt (h : RdS w base g s) : g < w.heap.size := by obtain ⟨A, n, c, h⟩ := h; exact h.whole.lt
theorem RdS.off (h : RdS w base g s) (ho : Off F w w') (hF : ∀ b, F b → g < b) : RdS w' base g s := by
  obtain ⟨A, n, c, h⟩ := h
  have hlt := h.whole.lt
  exact ⟨A, n, c, ⟨(ho.block g hlt (fun z => Nat.lt_irrefl _ (hF _ z))).trans h.whole, h.rd.keep fun p hp => ho.cellAt (Nat.lt_trans hp hlt) (fun z => by have := hF _ z; omega), h.len, h.cap, h.lie, h.form⟩⟩
theorem RdS.since (h : RdS w base g s) (ho : Since w w') : RdS w' base g s := h.off (ho.off fun _ => False) (fun _ z => z.elim)
theorem RdS.set_ (h : RdS w base g s) (p : Addr) (hp : g < p.block) (v : Value) : RdS (w.setCell p v) base g s :=
  h.off ((Off.refl (fun b => b = p.block) w).setCell (.inr rfl) v) (fun b z => z ▸ hp)
theorem DcS.lt (h : DcS w B q A n c b s) : q < w.heap.size := by obtain ⟨k, h⟩ := h; exact h.rd.whole.lt
theorem DcS.off (h : DcS w B q A n c b s) (ho : Off F w w') (hF : ∀ b, F b → B ≤ b ∧ b ≠ q) : DcS w' B q A n c b s := by
  obtain ⟨k, h⟩ := h
  have hlt := h.rd.whole.lt
  have hl := h.rd.lie
  exact ⟨k, ⟨⟨(ho.block q hlt (fun z => (hF _ z).2 rfl)).trans h.rd.whole, h.rd.rd.keep fun p hp => ho.cellAt (by omega) (fun z => by have := (hF _ z).1; omega), h.rd.len, h.rd.cap, h.rd.le, h.rd.lie⟩, h.at_, h.small, h.form⟩⟩
theorem DcS.since (h : DcS w B q A n c b s) (ho : Since w w') : DcS w' B q A n c b s := h.off (ho.off fun _ => False) (fun _ z => z.elim)
theorem DcS.lie (h : DcS w B q A n c b s) : B ≤ q := by obtain ⟨k, h⟩ := h; exact h.rd.lie
theorem DcS.set_ (h : DcS w B q A n c b s) (p : Addr) (hp : q < p.block) (v : Value) : DcS (w.setCell p v) B q A n c b s :=
  h.off ((Off.refl (fun b => b = p.block) w).setCell (.inr rfl) v) (fun b z => by have := h.lie; rw [z]; omega)
theorem DcS.c2 (h : DcS w B q A n c b s) : w.cell? ⟨q, 2, none⟩ = some (.int .i64 s.2) := by obtain ⟨k, h⟩ := h; exact h.rd.c2
end
end Go.Proofs.YtimmnmidhjbanaaDoor
namespace Go.Proofs.YtimmnmidhjbanaaDoor
open Go.RowKit
set_option linter.unusedVariables false
theorem lawOp_any (kind : Int) (x : Int) (y : Int) (key : ByteArray) (val : ByteArray) (cl : Int) (seq : Int) (w : World) : Calls Tryd.prog 43 #[.agg #[.int .i64 kind, .int .i64 x, .int .i64 y, .string key, .string val, .int .i64 cl, .int .i64 seq]] w fun e w' => e = .returned (.agg #[.int .i64 kind, .int .i64 x, .int .i64 y, .string key, .string val, .int .i64 cl, .int .i64 seq]) ∧ Below w.heap.size w w' := by
  go_enter Tryd.func43, Tryd.ntmps43
  go_wp2
  exact bodyPost_ret (results_cell_row rfl _ _ (w.heap.size + 1) 35 _ (0, 0) _ rfl ((Whole.new (w.alloc _) _ _).at_ (by simp)) Tryd.underlying35 rfl (by kernel_rfl)) rfl ⟨rfl, ((Since.refl w).alloc _).alloc _⟩
theorem lawRefOp_any (kind : Int) (x : Int) (y : Int) (key : ByteArray) (val : ByteArray) (cl : Int) (seq : Int) (w : World) : Calls Tryd.prog 56 #[.agg #[.int .i64 kind, .int .i64 x, .int .i64 y, .string key, .string val, .int .i64 cl, .int .i64 seq]] w fun e w' => e = .returned (.agg #[.int .i64 kind, .int .i64 x, .int .i64 y, .string key, .string val, .int .i64 cl, .int .i64 seq]) ∧ Below w.heap.size w w' := by
  go_enter Tryd.func56, Tryd.ntmps56
  go_wp2
  exact bodyPost_ret (results_cell_row rfl _ _ (w.heap.size + 1) 25 _ (0, 0) _ rfl ((Whole.new (w.alloc _) _ _).at_ (by simp)) Tryd.underlying25 rfl (by kernel_rfl)) rfl ⟨rfl, ((Since.refl w).alloc _).alloc _⟩
end Go.Proofs.YtimmnmidhjbanaaDoor
