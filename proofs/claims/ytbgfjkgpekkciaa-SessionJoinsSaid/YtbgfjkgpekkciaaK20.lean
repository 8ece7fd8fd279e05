/- Readers of both kinds, by what is still to come and the error. -/
import Derived.Test.YtbgfjkgpekkciaaK04
import Derived.Test.YtbgfjkgpekkciaaK08
import Derived.Test.YtbgfjkgpekkciaaK19
namespace Go.Proofs.Ytbgfjkgpekkciaa
open Go.RowKit
set_option linter.unusedVariables false
/-- What is still to come, and the error. -/
abbrev RSt := List UInt8 × Int
/-- The program's reader. -/
def RdS (w : World) (base g : Nat) (s : RSt) : Prop := ∃ A n c, Rdr w base g A n c s.1 s.2
/-- The document's. -/
def DcS (w : World) (B q : Nat) (A : Option Addr) (n c : Nat) (b : List UInt8) (s : RSt) : Prop := ∃ k, RAt w B q A n c b k s.1 s.2
section
variable {F : Nat → Prop} {w w' : World} {base g B q n c : Nat} {A : Option Addr} {b : List UInt8} {s s1 : RSt}
theorem Only.off (h : Only g w w') : Off (fun b => b = g) w w' := ⟨h.os, h.tape, h.output, Nat.le_of_eq h.size.symm, fun b _ hb => h.block b hb⟩
theorem Off.cellAt (h : Off F w w') {p : Addr} (hp : p.block < w.heap.size) (hf : ¬ F p.block) : w'.cell? p = w.cell? p := by
  have := h.block p.block hp hf
  unfold World.cell?
  rw [this]
theorem RdS.lt (h : RdS w base g s) : g < w.heap.size := by obtain ⟨A, n, c, h⟩ := h; exact h.whole.lt
theorem RdS.off (h : RdS w base g s) (ho : Off F w w') (hF : ∀ b, F b → g < b) : RdS w' base g s := by
  obtain ⟨A, n, c, h⟩ := h
  have hlt := h.whole.lt
  exact ⟨A, n, c, ⟨(ho.block g hlt (fun z => Nat.lt_irrefl _ (hF _ z))).trans h.whole, h.rd.keep fun p hp => ho.cellAt (Nat.lt_trans hp hlt) (fun z => by have := hF _ z; omega), h.len, h.cap, h.lie, h.form⟩⟩
theorem RdS.since (h : RdS w base g s) (ho : Since w w') : RdS w' base g s := h.off (ho.off fun _ => False) (fun _ z => z.elim)
theorem RdS.set_ (h : RdS w base g s) (p : Addr) (hp : g < p.block) (v : Value) : RdS (w.setCell p v) base g s :=
  h.off ((Off.refl (fun b => b = p.block) w).setCell (.inr rfl) v) (fun b z => z ▸ hp)
theorem DcS.lt (h : DcS w B q A n c b s) : q < w.heap.size := by obtain ⟨k, h⟩ := h; exact h.rd.whole.lt
theorem DcS.off (h : DcS w B q A n c b s) (ho : Off F w w') (hF : ∀ b, F b → B ≤ b ∧ b ≠ q) : DcS w' B q A n c b s := by
  obtain ⟨k, h⟩ := h
  have hlt := h.rd.whole.lt
  have hl := h.rd.lie
  exact ⟨k, ⟨⟨(ho.block q hlt (fun z => (hF _ z).2 rfl)).trans h.rd.whole, h.rd.rd.keep fun p hp => ho.cellAt (by omega) (fun z => by have := (hF _ z).1; omega), h.rd.len, h.rd.cap, h.rd.le, h.rd.lie⟩, h.at_, h.small, h.form⟩⟩
theorem DcS.since (h : DcS w B q A n c b s) (ho : Since w w') : DcS w' B q A n c b s := h.off (ho.off fun _ => False) (fun _ z => z.elim)
theorem DcS.lie (h : DcS w B q A n c b s) : B ≤ q := by obtain ⟨k, h⟩ := h; exact h.rd.lie
theorem DcS.set_ (h : DcS w B q A n c b s) (p : Addr) (hp : q < p.block) (v : Value) : DcS (w.setCell p v) B q A n c b s :=
  h.off ((Off.refl (fun b => b = p.block) w).setCell (.inr rfl) v) (fun b z => by have := h.lie; rw [z]; omega)
theorem DcS.c2 (h : DcS w B q A n c b s) : w.cell? ⟨q, 2, none⟩ = some (.int .i64 s.2) := by obtain ⟨k, h⟩ := h; exact h.rd.c2
end
end Go.Proofs.Ytbgfjkgpekkciaa
