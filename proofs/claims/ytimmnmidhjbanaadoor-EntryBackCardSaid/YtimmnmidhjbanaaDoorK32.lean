/- Readers of both kinds, by what is still to come and the error. The walk of the law WireReads. The walk of the law WireReads, whole. Left, of both readers; a region's condition, strengthened. -/
import Derived.Test.YtimmnmidhjbanaaDoorK06
import Derived.Test.YtimmnmidhjbanaaDoorK17
import Derived.Test.YtimmnmidhjbanaaDoorK18
import Derived.Test.YtimmnmidhjbanaaDoorK20
import Derived.Test.YtimmnmidhjbanaaDoorK31
import Derived.Deep.RegionHeld3
namespace Go.Proofs.YtimmnmidhjbanaaDoor
open Go.RowKit
set_option linter.unusedVariables false
/-- What is still to come, and the error. -/
abbrev RSt := List UInt8 × Int
def numS (s : RSt) : Int × RSt := (((numR s.1 s.2).1 : Int), (s.1.drop (numR s.1 s.2).2.1, (numR s.1 s.2).2.2))
def txS (s : RSt) : ByteArray × RSt := (⟨(txR 32 s.1 s.2).1.toArray⟩, (s.1.drop (txR 32 s.1 s.2).2.1, (txR 32 s.1 s.2).2.2))
def failS (ok : Bool) (s : RSt) : RSt := if ok then s else (s.1, failR s.2 21)
/-- The program's reader. -/
def RdS (w : World) (base g : Nat) (s : RSt) : Prop := ∃ A n c, Rdr w base g A n c s.1 s.2
/-- The document's. -/
def DcS (w : World) (B q : Nat) (A : Option Addr) (n c : Nat) (b : List UInt8) (s : RSt) : Prop := ∃ k, RAt w B q A n c b k s.1 s.2
section
variable {F : Nat → Prop} {w w' : World} {base g B q n c : Nat} {A : Option Addr} {b : List UInt8} {s s1 : RSt}
theorem Only.off (h : Only g w w') : Off (fun b => b = g) w w' := ⟨h.os, h.tape, h.output, Nat.le_of_eq h.size.symm, fun b _ hb => h.block b hb⟩
theorem Off.cellAt (h : Off F w w') {p : Addr} (hp : p.block < w.heap.size) (hf : ¬ F p.block) : w'.cell? p = w.cell? p := by
  have := h.block p.block hp hf
  unfold World.cell?
  rw [this]
theorem RdS.lt (h : RdS w base g s) : g < w.heap.size := by obtain ⟨A, n, c, h⟩ := h; exact h.whole.lt
theorem RdS.off (h : RdS w base g s) (ho : Off F w w') (hF : ∀ b, F b → g < b) : RdS w' base g s := by
  obtain ⟨A, n, c, h⟩ := h
  have hlt := h.whole.lt
  exact ⟨A, n, c, ⟨(ho.block g hlt (fun z => Nat.lt_irrefl _ (hF _ z))).trans h.whole, h.rd.keep fun p hp => ho.cellAt (Nat.lt_trans hp hlt) (fun z => by have := hF _ z; omega), h.len, h.cap, h.lie, h.form⟩⟩
theorem RdS.since (h : RdS w base g s) (ho : Since w w') : RdS w' base g s := h.off (ho.off fun _ => False) (fun _ z => z.elim)
theorem RdS.set_ (h : RdS w base g s) (p : Addr) (hp : g < p.block) (v : Value) : RdS (w.setCell p v) base g s :=
  h.off ((Off.refl (fun b => b = p.block) w).setCell (.inr rfl) v) (fun b z => z ▸ hp)
theorem DcS.lt (h : DcS w B q A n c b s) : q < w.heap.size := by obtain ⟨k, h⟩ := h; exact h.rd.whole.lt
theorem DcS.off (h : DcS w B q A n c b s) (ho : Off F w w') (hF : ∀ b, F b → B ≤ b ∧ b ≠ q) : DcS w' B q A n c b s := by
  obtain ⟨k, h⟩ := h
  have hlt := h.rd.whole.lt
  have hl := h.rd.lie
  exact ⟨k, ⟨⟨(ho.block q hlt (fun z => (hF _ z).2 rfl)).trans h.rd.whole, h.rd.rd.keep fun p hp => ho.cellAt (by omega) (fun z => by have := (hF _ z).1; omega), h.rd.len, h.rd.cap, h.rd.le, h.rd.lie⟩, h.at_, h.small, h.form⟩⟩
theorem DcS.since (h : DcS w B q A n c b s) (ho : Since w w') : DcS w' B q A n c b s := h.off (ho.off fun _ => False) (fun _ z => z.elim)
theorem DcS.lie (h : DcS w B q A n c b s) : B ≤ q := by obtain ⟨k, h⟩ := h; exact h.rd.lie
theorem DcS.set_ (h : DcS w B q A n c b s) (p : Addr) (hp : q < p.block) (v : Value) : DcS (w.setCell p v) B q A n c b s :=
  h.off ((Off.refl (fun b => b = p.block) w).setCell (.inr rfl) v) (fun b z => by have := h.lie; rw [z]; omega)
theorem DcS.c2 (h : DcS w B q A n c b s) : w.cell? ⟨q, 2, none⟩ = some (.int .i64 s.2) := by obtain ⟨k, h⟩ := h; exact h.rd.c2
/-- What a call of the program's reader leaves. -/
def RPs (base g : Nat) (s1 : RSt) (v : Value) (w : World) (y : Ending) (w' : World) : Prop := y = .returned v ∧ RdS w' base g s1 ∧ Off (fun b => b = g) w w'
theorem numP (h : RdS w base g s) {x : Int} (hx : numS s = (x, s1)) : Calls Tryd.prog 64 #[.pointer (some ⟨g, 0, none⟩)] w (RPs base g s1 (.int .i64 x) w) := by
  obtain ⟨A, n, c, h⟩ := h
  refine (wnum h).mono ?_
  rintro y w' ⟨rfl, A', n', c', h1, ho⟩
  unfold numS at hx
  injection hx with e1 e2
  subst e1; subst e2
  exact ⟨rfl, ⟨A', n', c', h1⟩, ho.off⟩
theorem failP (h : RdS w base g s) : Calls Tryd.prog 81 #[.pointer (some ⟨g, 0, none⟩), .int .i64 21] w (RPs base g (s.1, failR s.2 21) (.tuple #[]) w) := by
  obtain ⟨A, n, c, h⟩ := h
  refine (wfail h 21).mono ?_
  rintro y w' ⟨rfl, A', n', c', h1, ho⟩
  exact ⟨rfl, ⟨A', n', c', h1⟩, ho.off⟩
theorem errP (h : RdS w base g s) : Calls Tryd.prog 33 #[.pointer (some ⟨g, 0, none⟩)] w fun y w' => y = .returned (.int .i64 s.2) ∧ w = w' := by
  obtain ⟨A, n, c, h⟩ := h
  exact made_err h
theorem textP (h : RdS w base g s) {x : ByteArray} (hx : txS s = (x, s1)) : Calls Tryd.prog 92 #[.pointer (some ⟨g, 0, none⟩)] w (RPs base g s1 (.string x) w) := by
  obtain ⟨A, n, c, h⟩ := h
  have T := Lib.hid (wtext h 32)
  unfold txS at hx
  injection hx with e1 e2
  subst e1; subst e2
  clear h
  go_enter Tryd.func92, Tryd.ntmps92
  go_wp2_with fail
  refine T.out.mono ?_
  rintro y w' ⟨rfl, A', n', c', h1, ho⟩
  go_wp2
  go_ret
  exact ⟨rfl, ⟨A', n', c', h1⟩, ho.off⟩
/-- takeCell: two numbers. -/
theorem cellP (h : RdS w base g s) {x y : Int} {s2 : RSt} (hx : numS s = (x, s1)) (hy : numS s1 = (y, s2)) : Calls Tryd.prog 91 #[.pointer (some ⟨g, 0, none⟩)] w (RPs base g s2 (.agg #[.int .i64 x, .int .i64 y]) w) := by
  have HX := Lib.hid hx
  have HY := Lib.hid hy
  have hg := h.lt
  clear hx hy
  go_enter Tryd.func91, Tryd.ntmps91
  go_wp2_with fail
  obtain ⟨w1, hw1⟩ : ∃ w1, w1 = w.alloc (.cells #[.int .i64 0, .int .i64 0] 23) := ⟨_, rfl⟩
  have hs1 : Since w w1 := by rw [hw1]; exact (Since.refl w).alloc _
  have hw2 : Whole w1 w.heap.size 23 #[.int .i64 0, .int .i64 0] := by rw [hw1]; exact Whole.new w _ _
  rw [← hw1]
  refine (numP (h.since hs1) HX.out).mono ?_
  rintro e w2 ⟨rfl, h2, ho2⟩
  clear hw1
  go_wp2_with fail
  refine (numP h2 HY.out).mono ?_
  rintro e w3 ⟨rfl, h3, ho3⟩
  have hw3 := (ho2.trans ho3 (fun _ _ z => z)).whole hw2 (by omega)
  have c0 := hw3.cell 0
  have c1 := hw3.cell 1
  have f0 := hw3.frozen 0
  have f1 := hw3.frozen 1
  go_wp2
  refine bodyPost_ret (v := .agg #[.int .i64 x, .int .i64 y]) (by simp [results, Tryd.results91, go_sem, c0, c1]) rfl ?_
  refine ⟨rfl, (h3.set_ ⟨w.heap.size, 0, none⟩ hg _).set_ ⟨w.heap.size, 1, none⟩ hg _, ?_⟩
  have ho := (hs1.off _).trans (ho2.trans ho3 (fun _ _ z => z)) (fun _ _ z => z)
  exact (ho.setCell (p := ⟨w.heap.size, 0, none⟩) (.inl (Nat.le_refl _)) _).setCell (p := ⟨w.heap.size, 1, none⟩) (.inl (Nat.le_refl _)) _
end
end Go.Proofs.YtimmnmidhjbanaaDoor
namespace Go.Proofs.YtimmnmidhjbanaaDoor
open Go.RowKit
/-- A slice of calls: the kind and the number of each. -/
def CRd (w : World) (B : Nat) (A : Option Addr) (z : List (Int × Int)) : Prop :=
  z = [] ∨ ∃ b off, A = some ⟨b, off, none⟩ ∧ b < B ∧ ∀ i, (h : i < z.length) → w.cell? ⟨b, off + i * 2, none⟩ = some (.int .i64 z[i].1) ∧ w.cell? ⟨b, off + i * 2 + 1, none⟩ = some (.int .i64 z[i].2)
theorem CRd.at_ {w : World} {B : Nat} {A : Option Addr} {z : List (Int × Int)} (h : CRd w B A z) {k : Nat} (hk : k < z.length) :
    ∃ b off, A = some ⟨b, off, none⟩ ∧ b < B ∧ w.cell? ⟨b, off + k * 2, none⟩ = some (.int .i64 z[k].1) ∧ w.cell? ⟨b, off + k * 2 + 1, none⟩ = some (.int .i64 z[k].2) := by
  rcases h with rfl | ⟨b, off, h1, h2, h3⟩
  · simp at hk
  · exact ⟨b, off, h1, h2, h3 k hk⟩
theorem CRd.below {w w' : World} {B C : Nat} {A : Option Addr} {z : List (Int × Int)} (h : CRd w B A z) (hb : Below C w w') (hC : B ≤ C) : CRd w' B A z := by
  rcases h with rfl | ⟨b, off, h1, h2, h3⟩
  · exact .inl rfl
  · refine .inr ⟨b, off, h1, h2, fun i hi => ⟨?_, ?_⟩⟩
    · exact (hb.cell (p := ⟨b, off + i * 2, none⟩) (Nat.lt_of_lt_of_le h2 hC)).trans (h3 i hi).1
    · exact (hb.cell (p := ⟨b, off + i * 2 + 1, none⟩) (Nat.lt_of_lt_of_le h2 hC)).trans (h3 i hi).2
theorem CRd.more {w : World} {B B' : Nat} {A : Option Addr} {z : List (Int × Int)} (h : CRd w B A z) (hB : B ≤ B') : CRd w B' A z := by
  rcases h with rfl | ⟨b, off, h1, h2, h3⟩
  · exact .inl rfl
  · exact .inr ⟨b, off, h1, by omega, h3⟩
end Go.Proofs.YtimmnmidhjbanaaDoor
namespace Go.Proofs.YtimmnmidhjbanaaDoor
open Go.RowKit
theorem seen_of_row {w : World} {a : Option Addr} {len cap : Nat} {zs : List Int} (h : RowIn .u8 w a len cap zs) : Seen a len cap := by
  rcases h with ⟨rfl, rfl, rfl, rfl⟩ | ⟨x, rfl, hl, hm, hz, hcell, hwz⟩
  · exact .inl ⟨rfl, rfl, rfl⟩
  · refine .inr ⟨x, rfl, ?_⟩
    by_cases h0 : cap = 0
    · exact .inl h0
    · obtain ⟨b, off, spot⟩ := x
      have hc0 := hcell 0 (by omega)
      have hspot : spot = none := by simpa [Addr.add] using World.cell?_spot hc0
      subst hspot
      exact .inr ⟨b, off, rfl⟩
end Go.Proofs.YtimmnmidhjbanaaDoor
namespace Go.Proofs.YtimmnmidhjbanaaDoor
open Go.RowKit
set_option linter.unusedVariables false
theorem leftP {w : World} {base g : Nat} {s : RSt} (h : RdS w base g s) : Calls Tryd.prog 34 #[.pointer (some ⟨g, 0, none⟩)] w fun x w' => x = .returned (.int .i64 (leftOf s.1.length s.2)) ∧ w = w' := by
  obtain ⟨A, n, c, h⟩ := h
  exact (wleft h).mono fun _ _ h => ⟨h.1, h.2.symm⟩
end Go.Proofs.YtimmnmidhjbanaaDoor
