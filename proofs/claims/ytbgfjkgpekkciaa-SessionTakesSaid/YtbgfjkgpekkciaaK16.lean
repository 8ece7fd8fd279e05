/- The law's own Stays: what was lent is as it was. The walk of the law WireReads. The walk of the law WireSums: the sum of any bytes is the document's; with one bit turned it is another one. The walk of the law WireReads, whole. Left, of both readers; a region's condition, strengthened. -/
import Derived.Test.YtbgfjkgpekkciaaK07
import Derived.Test.YtbgfjkgpekkciaaK14
import Derived.Test.YtbgfjkgpekkciaaK15
import Derived.Deep.RegionHeld3
import Derived.Lib.SlBytesConst
namespace Go.Proofs.Ytbgfjkgpekkciaa
open Go.RowKit
set_option maxRecDepth 100000 in
set_option maxHeartbeats 800000 in
theorem stays_any (g n c : Nat) (A : Option Addr) (ca : Nat) (l : List UInt8) (w : World) (hx : Rd w w.heap.size (some ⟨g, 0, none⟩) (l ++ [71, 72])) (hb : Rd w w.heap.size A l) (hn : l.length = n) (hc : n + 2 ≤ c) (hl : n ≤ 1000000000) :
    Calls Try.prog 17 #[.slice (some ⟨g, 0, none⟩) n c, .slice A n ca] w fun e w' => e = .returned (.bool true) ∧ ∃ k, w' = w.drewN k := by
  have t1 := fun k => text_of (w.drewN k) n c (show Rd (w.drewN k) w.heap.size (some ⟨g, 0, none⟩) l from hx.pre) hn
  have t2 := fun k => text_of (w.drewN k) n ca (show Rd (w.drewN k) w.heap.size A l from hb) hn
  obtain ⟨b, off, he, hlt, hcell⟩ := hx.at_ (k := n) (by simp; omega)
  injection he with he
  injection he with he1 he2
  subst he1
  subst he2
  have c1 : w.cell? ⟨g, n, none⟩ = some (.int .u8 71) := by
    have := hcell n (by simp; omega)
    rw [List.getElem_append_right (by omega)] at this
    simpa [hn] using this
  have c2 : w.cell? ⟨g, n + 1, none⟩ = some (.int .u8 72) := by
    have := hcell (n + 1) (by simp; omega)
    rw [List.getElem_append_right (by omega)] at this
    simpa [hn, show n + 1 - l.length = 1 by omega] using this
  have hc1 : (n : Int) + 2 ≤ c := by omega
  have hc2 : (n : Int) ≤ c := by omega
  clear hx hb hn hcell hlt
  go_enter Try.func17, Try.ntmps17
  go_wp2
  go_quiet (fail)
  go_wp2
  go_ret
  exact ⟨rfl, _, rfl⟩
end Go.Proofs.Ytbgfjkgpekkciaa
namespace Go.Proofs.Ytbgfjkgpekkciaa
open Go.RowKit
/-- A slice of calls: the kind and the number of each. -/
def CRd (w : World) (B : Nat) (A : Option Addr) (z : List (Int × Int)) : Prop :=
  z = [] ∨ ∃ b off, A = some ⟨b, off, none⟩ ∧ b < B ∧ ∀ i, (h : i < z.length) → w.cell? ⟨b, off + i * 2, none⟩ = some (.int .i64 z[i].1) ∧ w.cell? ⟨b, off + i * 2 + 1, none⟩ = some (.int .i64 z[i].2)
theorem CRd.at_ {w : World} {B : Nat} {A : Option Addr} {z : List (Int × Int)} (h : CRd w B A z) {k : Nat} (hk : k < z.length) :
    ∃ b off, A = some ⟨b, off, none⟩ ∧ b < B ∧ w.cell? ⟨b, off + k * 2, none⟩ = some (.int .i64 z[k].1) ∧ w.cell? ⟨b, off + k * 2 + 1, none⟩ = some (.int .i64 z[k].2) := by
  rcases h with rfl | ⟨b, off, h1, h2, h3⟩
  · simp at hk
  · exact ⟨b, off, h1, h2, h3 k hk⟩
theorem CRd.below {w w' : World} {B C : Nat} {A : Option Addr} {z : List (Int × Int)} (h : CRd w B A z) (hb : Below C w w') (hC : B ≤ C) : CRd w' B A z := by
  rcases h with rfl | ⟨b, off, h1, h2, h3⟩
  · exact .inl rfl
  · refine .inr ⟨b, off, h1, h2, fun i hi => ⟨?_, ?_⟩⟩
    · exact (hb.cell (p := ⟨b, off + i * 2, none⟩) (Nat.lt_of_lt_of_le h2 hC)).trans (h3 i hi).1
    · exact (hb.cell (p := ⟨b, off + i * 2 + 1, none⟩) (Nat.lt_of_lt_of_le h2 hC)).trans (h3 i hi).2
theorem CRd.more {w : World} {B B' : Nat} {A : Option Addr} {z : List (Int × Int)} (h : CRd w B A z) (hB : B ≤ B') : CRd w B' A z := by
  rcases h with rfl | ⟨b, off, h1, h2, h3⟩
  · exact .inl rfl
  · exact .inr ⟨b, off, h1, by omega, h3⟩
end Go.Proofs.Ytbgfjkgpekkciaa
namespace Go.Proofs.Ytbgfjkgpekkciaa
open Go.RowKit
/-- A slice of bytes that came in. -/
def RowIn (k : IntKind) (w : World) (a : Option Addr) (len cap : Nat) (zs : List Int) : Prop :=
  (a = none ∧ len = 0 ∧ cap = 0 ∧ zs = []) ∨
  ∃ x, a = some x ∧ len ≤ cap ∧ cap ≤ maxLen ∧ zs.length = cap ∧ (∀ i, i < zs.length → w.cell? (x.add i) = some (.int k (zs.getD i 0))) ∧ ∀ n ∈ zs, (Lit.int k n).wf = true
theorem wf_byte {n : Int} (h : (Lit.int .u8 n).wf = true) : 0 ≤ n ∧ n < 256 := by
  simp [Lit.wf, IntKind.min, IntKind.max, IntKind.signed, IntKind.bits] at h
  omega
theorem rd_of_row {w : World} {a : Option Addr} {len cap : Nat} {zs : List Int} (h : RowIn .u8 w a len cap zs) : ∃ l : List UInt8, l.length = len ∧ Rd w w.heap.size a l ∧ len ≤ cap := by
  rcases h with ⟨rfl, rfl, rfl, rfl⟩ | ⟨x, rfl, hl, hm, hz, hcell, hwz⟩
  · exact ⟨[], rfl, .inl rfl, Nat.le_refl _⟩
  · refine ⟨(zs.take len).map fun z => UInt8.ofNat z.toNat, by simp [hz, hl], ?_, hl⟩
    by_cases h0 : len = 0
    · subst h0
      exact .inl rfl
    · obtain ⟨b, off, spot⟩ := x
      have hc0 := hcell 0 (by omega)
      have hspot : spot = none := by simpa [Addr.add] using World.cell?_spot hc0
      subst hspot
      refine .inr ⟨b, off, rfl, World.block_lt_of_cell? w _ hc0, fun i hi => ?_⟩
      have hi2 : i < len := by
        have := hi
        simp only [List.length_map, List.length_take] at this
        omega
      have hc := hcell i (by omega)
      rw [Addr.add_lit] at hc
      rw [hc]
      have hg : zs.getD i 0 = zs[i]'(by omega) := by simp [List.getD, show i < zs.length by omega]
      have hw := wf_byte (hwz _ (List.getElem_mem (show i < zs.length by omega)))
      rw [hg]
      simp only [List.getElem_map, List.getElem_take]
      rw [ofNat_toNat (by omega)]
      congr 2
      omega
theorem Rd.set_ {w : World} {B g off i : Nat} {l : List UInt8} (h : Rd w B (some ⟨g, off, none⟩) l) (hi : i < l.length) (y : UInt8) :
    Rd (w.setCell ⟨g, off + i, none⟩ (.int .u8 (y.toNat : Int))) B (some ⟨g, off, none⟩) (l.set i y) := by
  obtain ⟨b, o, he, hb, hc⟩ := h.at_ hi
  injection he with he
  injection he with e1 e2
  subst e1; subst e2
  refine .inr ⟨g, off, rfl, hb, fun k hk => ?_⟩
  rw [List.length_set] at hk
  by_cases e : i = k
  · subst e
    have hx := hc i hi
    rw [World.cell?_setCell_same w _ _ hx]
    simp
  · rw [World.cell?_setCell_other w _ _ _ (fun h => by injection h with _ h; omega), hc k hk]
    simp [e]
end Go.Proofs.Ytbgfjkgpekkciaa
namespace Go.Proofs.Ytbgfjkgpekkciaa
open Go.RowKit
theorem seen_of_row {w : World} {a : Option Addr} {len cap : Nat} {zs : List Int} (h : RowIn .u8 w a len cap zs) : Seen a len cap := by
  rcases h with ⟨rfl, rfl, rfl, rfl⟩ | ⟨x, rfl, hl, hm, hz, hcell, hwz⟩
  · exact .inl ⟨rfl, rfl, rfl⟩
  · refine .inr ⟨x, rfl, ?_⟩
    by_cases h0 : cap = 0
    · exact .inl h0
    · obtain ⟨b, off, spot⟩ := x
      have hc0 := hcell 0 (by omega)
      have hspot : spot = none := by simpa [Addr.add] using World.cell?_spot hc0
      subst hspot
      exact .inr ⟨b, off, rfl⟩
end Go.Proofs.Ytbgfjkgpekkciaa
namespace Go.Proofs.Ytbgfjkgpekkciaa
open Go.RowKit
set_option linter.unusedVariables false
theorem leftP {w : World} {base g : Nat} {s : RSt} (h : RdS w base g s) : Calls Try.prog 14 #[.pointer (some ⟨g, 0, none⟩)] w fun x w' => x = .returned (.int .i64 (leftOf s.1.length s.2)) ∧ w = w' := by
  obtain ⟨A, n, c, h⟩ := h
  exact (wleft h).mono fun _ _ h => ⟨h.1, h.2.symm⟩
theorem leftD {w : World} {B q n c : Nat} {A : Option Addr} {b : List UInt8} {s : RSt} (h : DcS w B q A n c b s) : Calls Try.prog 15 #[.pointer (some ⟨q, 0, none⟩)] w fun x w' => x = .returned (.int .i64 (leftOf s.1.length s.2)) ∧ ∃ m, w' = w.drewN m := by
  obtain ⟨k, h⟩ := h
  exact rleft h
end Go.Proofs.Ytbgfjkgpekkciaa
