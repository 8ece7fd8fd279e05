/- Readers of both kinds, by what is still to come and the error. The walk of the law WireReads. The walk of the law WireSums: the sum of any bytes is the document's; with one bit turned it is another one. Left, of both readers; a region's condition, strengthened. -/
import Derived.Test.YtbgfjkgpekkciaaDoorK03
import Derived.Test.YtbgfjkgpekkciaaDoorK05
import Derived.Test.YtbgfjkgpekkciaaDoorK06
import Derived.Test.YtbgfjkgpekkciaaDoorK09
import Derived.Test.YtbgfjkgpekkciaaDoorK14
import Derived.Deep.RegionHeld3
import Derived.Lib.SlBytesConst
namespace Go.Proofs.YtbgfjkgpekkciaaDoor
open Go.RowKit
set_option linter.unusedVariables false
/-- What is still to come, and the error. -/
abbrev RSt := List UInt8 × Int
def numS (s : RSt) : Int × RSt := (((numR s.1 s.2).1 : Int), (s.1.drop (numR s.1 s.2).2.1, (numR s.1 s.2).2.2))
def txS (s : RSt) : ByteArray × RSt := (⟨(txR 32 s.1 s.2).1.toArray⟩, (s.1.drop (txR 32 s.1 s.2).2.1, (txR 32 s.1 s.2).2.2))
def failS (ok : Bool) (s : RSt) : RSt := if ok then s else (s.1, failR s.2 21)
theorem numS_pos (s : RSt) : 0 ≤ (numS s).1 := Int.natCast_nonneg _
/-- The program's reader. -/
def RdS (w : World) (base g : Nat) (s : RSt) : Prop := ∃ A n c, Rdr w base g A n c s.1 s.2
section
variable {F : Nat → Prop} {w w' : World} {base g B q n c : Nat} {A : Option Addr} {b : List UInt8} {s s1 : RSt}
theorem Only.off (h : Only g w w') : Off (fun b => b = g) w w' := ⟨h.os, h.tape, h.output, Nat.le_of_eq h.size.symm, fun b _ hb => h.block b hb⟩
theorem Off.cellAt (h : Off F w w') {p : Addr} (hp : p.block < w.heap.size) (hf : ¬ F p.block) : w'.cell? p = w.cell? p := by
  have := h.block p.block hp hf
  unfold World.cell?
  rw [this]
theorem RdS.lt (h : RdS w base g s) : g < w.heap.size := by obtain ⟨A, n, c, h⟩ := h; exact h.whole.lt
theorem RdS.off (h : RdS w base g s) (ho : Off F w w') (hF : ∀ b, F b → g < b) : RdS w' base g s := by
  obtain ⟨A, n, c, h⟩ := h
  have hlt := h.whole.lt
  exact ⟨A, n, c, ⟨(ho.block g hlt (fun z => Nat.lt_irrefl _ (hF _ z))).trans h.whole, h.rd.keep fun p hp => ho.cellAt (Nat.lt_trans hp hlt) (fun z => by have := hF _ z; omega), h.len, h.cap, h.lie, h.form⟩⟩
theorem RdS.since (h : RdS w base g s) (ho : Since w w') : RdS w' base g s := h.off (ho.off fun _ => False) (fun _ z => z.elim)
theorem RdS.set_ (h : RdS w base g s) (p : Addr) (hp : g < p.block) (v : Value) : RdS (w.setCell p v) base g s :=
  h.off ((Off.refl (fun b => b = p.block) w).setCell (.inr rfl) v) (fun b z => z ▸ hp)
/-- What a call of the program's reader leaves. -/
def RPs (base g : Nat) (s1 : RSt) (v : Value) (w : World) (y : Ending) (w' : World) : Prop := y = .returned v ∧ RdS w' base g s1 ∧ Off (fun b => b = g) w w'
theorem numP (h : RdS w base g s) {x : Int} (hx : numS s = (x, s1)) : Calls Tryd.prog 54 #[.pointer (some ⟨g, 0, none⟩)] w (RPs base g s1 (.int .i64 x) w) := by
  obtain ⟨A, n, c, h⟩ := h
  refine (wnum h).mono ?_
  rintro y w' ⟨rfl, A', n', c', h1, ho⟩
  unfold numS at hx
  injection hx with e1 e2
  subst e1; subst e2
  exact ⟨rfl, ⟨A', n', c', h1⟩, ho.off⟩
theorem failP (h : RdS w base g s) : Calls Tryd.prog 53 #[.pointer (some ⟨g, 0, none⟩), .int .i64 21] w (RPs base g (s.1, failR s.2 21) (.tuple #[]) w) := by
  obtain ⟨A, n, c, h⟩ := h
  refine (wfail h 21).mono ?_
  rintro y w' ⟨rfl, A', n', c', h1, ho⟩
  exact ⟨rfl, ⟨A', n', c', h1⟩, ho.off⟩
theorem errP (h : RdS w base g s) : Calls Tryd.prog 38 #[.pointer (some ⟨g, 0, none⟩)] w fun y w' => y = .returned (.int .i64 s.2) ∧ w = w' := by
  obtain ⟨A, n, c, h⟩ := h
  exact made_err h
theorem textP (h : RdS w base g s) {x : ByteArray} (hx : txS s = (x, s1)) : Calls Tryd.prog 56 #[.pointer (some ⟨g, 0, none⟩)] w (RPs base g s1 (.string x) w) := by
  obtain ⟨A, n, c, h⟩ := h
  have T := Lib.hid (wtext h 32)
  unfold txS at hx
  injection hx with e1 e2
  subst e1; subst e2
  clear h
  go_enter Tryd.func56, Tryd.ntmps56
  go_wp2_with fail
  refine T.out.mono ?_
  rintro y w' ⟨rfl, A', n', c', h1, ho⟩
  go_wp2
  go_ret
  exact ⟨rfl, ⟨A', n', c', h1⟩, ho.off⟩
end
end Go.Proofs.YtbgfjkgpekkciaaDoor
namespace Go.Proofs.YtbgfjkgpekkciaaDoor
open Go.RowKit
/-- A slice of calls: the kind and the number of each. -/
def CRd (w : World) (B : Nat) (A : Option Addr) (z : List (Int × Int)) : Prop :=
  z = [] ∨ ∃ b off, A = some ⟨b, off, none⟩ ∧ b < B ∧ ∀ i, (h : i < z.length) → w.cell? ⟨b, off + i * 2, none⟩ = some (.int .i64 z[i].1) ∧ w.cell? ⟨b, off + i * 2 + 1, none⟩ = some (.int .i64 z[i].2)
theorem CRd.at_ {w : World} {B : Nat} {A : Option Addr} {z : List (Int × Int)} (h : CRd w B A z) {k : Nat} (hk : k < z.length) :
    ∃ b off, A = some ⟨b, off, none⟩ ∧ b < B ∧ w.cell? ⟨b, off + k * 2, none⟩ = some (.int .i64 z[k].1) ∧ w.cell? ⟨b, off + k * 2 + 1, none⟩ = some (.int .i64 z[k].2) := by
  rcases h with rfl | ⟨b, off, h1, h2, h3⟩
  · simp at hk
  · exact ⟨b, off, h1, h2, h3 k hk⟩
theorem CRd.below {w w' : World} {B C : Nat} {A : Option Addr} {z : List (Int × Int)} (h : CRd w B A z) (hb : Below C w w') (hC : B ≤ C) : CRd w' B A z := by
  rcases h with rfl | ⟨b, off, h1, h2, h3⟩
  · exact .inl rfl
  · refine .inr ⟨b, off, h1, h2, fun i hi => ⟨?_, ?_⟩⟩
    · exact (hb.cell (p := ⟨b, off + i * 2, none⟩) (Nat.lt_of_lt_of_le h2 hC)).trans (h3 i hi).1
    · exact (hb.cell (p := ⟨b, off + i * 2 + 1, none⟩) (Nat.lt_of_lt_of_le h2 hC)).trans (h3 i hi).2
theorem CRd.more {w : World} {B B' : Nat} {A : Option Addr} {z : List (Int × Int)} (h : CRd w B A z) (hB : B ≤ B') : CRd w B' A z := by
  rcases h with rfl | ⟨b, off, h1, h2, h3⟩
  · exact .inl rfl
  · exact .inr ⟨b, off, h1, by omega, h3⟩
end Go.Proofs.YtbgfjkgpekkciaaDoor
namespace Go.Proofs.YtbgfjkgpekkciaaDoor
open Go.RowKit
/-- A slice of bytes that came in. -/
def RowIn (k : IntKind) (w : World) (a : Option Addr) (len cap : Nat) (zs : List Int) : Prop :=
  (a = none ∧ len = 0 ∧ cap = 0 ∧ zs = []) ∨
  ∃ x, a = some x ∧ len ≤ cap ∧ cap ≤ maxLen ∧ zs.length = cap ∧ (∀ i, i < zs.length → w.cell? (x.add i) = some (.int k (zs.getD i 0))) ∧ ∀ n ∈ zs, (Lit.int k n).wf = true
theorem wf_byte {n : Int} (h : (Lit.int .u8 n).wf = true) : 0 ≤ n ∧ n < 256 := by
  simp [Lit.wf, IntKind.min, IntKind.max, IntKind.signed, IntKind.bits] at h
  omega
theorem rd_of_row {w : World} {a : Option Addr} {len cap : Nat} {zs : List Int} (h : RowIn .u8 w a len cap zs) : ∃ l : List UInt8, l.length = len ∧ Rd w w.heap.size a l ∧ len ≤ cap := by
  rcases h with ⟨rfl, rfl, rfl, rfl⟩ | ⟨x, rfl, hl, hm, hz, hcell, hwz⟩
  · exact ⟨[], rfl, .inl rfl, Nat.le_refl _⟩
  · refine ⟨(zs.take len).map fun z => UInt8.ofNat z.toNat, by simp [hz, hl], ?_, hl⟩
    by_cases h0 : len = 0
    · subst h0
      exact .inl rfl
    · obtain ⟨b, off, spot⟩ := x
      have hc0 := hcell 0 (by omega)
      have hspot : spot = none := by simpa [Addr.add] using World.cell?_spot hc0
      subst hspot
      refine .inr ⟨b, off, rfl, World.block_lt_of_cell? w _ hc0, fun i hi => ?_⟩
      have hi2 : i < len := by
        have := hi
        simp only [List.length_map, List.length_take] at this
        omega
      have hc := hcell i (by omega)
      rw [Addr.add_lit] at hc
      rw [hc]
      have hg : zs.getD i 0 = zs[i]'(by omega) := by simp [List.getD, show i < zs.length by omega]
      have hw := wf_byte (hwz _ (List.getElem_mem (show i < zs.length by omega)))
      rw [hg]
      simp only [List.getElem_map, List.getElem_take]
      rw [ofNat_toNat (by omega)]
      congr 2
      omega
theorem Rd.set_ {w : World} {B g off i : Nat} {l : List UInt8} (h : Rd w B (some ⟨g, off, none⟩) l) (hi : i < l.length) (y : UInt8) :
    Rd (w.setCell ⟨g, off + i, none⟩ (.int .u8 (y.toNat : Int))) B (some ⟨g, off, none⟩) (l.set i y) := by
  obtain ⟨b, o, he, hb, hc⟩ := h.at_ hi
  injection he with he
  injection he with e1 e2
  subst e1; subst e2
  refine .inr ⟨g, off, rfl, hb, fun k hk => ?_⟩
  rw [List.length_set] at hk
  by_cases e : i = k
  · subst e
    have hx := hc i hi
    rw [World.cell?_setCell_same w _ _ hx]
    simp
  · rw [World.cell?_setCell_other w _ _ _ (fun h => by injection h with _ h; omega), hc k hk]
    simp [e]
end Go.Proofs.YtbgfjkgpekkciaaDoor
namespace Go.Proofs.YtbgfjkgpekkciaaDoor
open Go.RowKit
set_option linter.unusedVariables false
theorem leftP {w : World} {base g : Nat} {s : RSt} (h : RdS w base g s) : Calls Tryd.prog 25 #[.pointer (some ⟨g, 0, none⟩)] w fun x w' => x = .returned (.int .i64 (leftOf s.1.length s.2)) ∧ w = w' := by
  obtain ⟨A, n, c, h⟩ := h
  exact (wleft h).mono fun _ _ h => ⟨h.1, h.2.symm⟩
/-- Within a region, what is shown of the world at each step may be strengthened from here on. -/
theorem wpAnyH_mono {P : Program} {md : Region.Mode} {ops : Array Oper} {Q : Exit → Act → World → Prop} {S S' : World → Prop} (hS : ∀ w, S' w → S w) :
    ∀ (fuel : Nat) (listed : Array Bool) (a : Act) (w : World), wpAnyH P md ops Q S' fuel listed a w → wpAnyH P md ops Q S fuel listed a w
  | 0, _, _, _, h => h
  | fuel + 1, _, _, _, h => ⟨h.1, fun i hi => wpOp_mono (fun a' w' h' => ⟨hS _ h'.1, wpAnyH_mono hS fuel _ a' w' h'.2⟩) (h.2 i hi)⟩
end Go.Proofs.YtbgfjkgpekkciaaDoor
