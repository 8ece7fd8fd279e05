/- The walk of the law WireSums: the sum of any bytes is the document's; with one bit turned it is another one. -/
import Derived.Test.YthgcmcdacejelaaDoorUStays
import Derived.Test.YthgcmcdacejelaaDoorUKnows
namespace Go.Proofs.YthgcmcdacejelaaDoor
open Go.RowKit
/-- A slice of bytes that came in. -/
def RowIn (k : IntKind) (w : World) (a : Option Addr) (len cap : Nat) (zs : List Int) : Prop :=
  (a = none ∧ len = 0 ∧ cap = 0 ∧ zs = []) ∨
  ∃ x, a = some x ∧ len ≤ cap ∧ cap ≤ maxLen ∧ zs.length = cap ∧ (∀ i, i < zs.length → w.cell? (x.add i) = some (.int k (zs.getD i 0))) ∧ ∀ n ∈ zs, (Lit.int k n).wf = true
theorem wf_byte {n : Int} (h : (Lit.int .u8 n).wf = true) : 0 ≤ n ∧ n < 256 := by
  simp [Lit.wf, IntKind.min, IntKind.max, IntKind.signed, IntKind.bits] at h
  omega
theorem rd_of_row {w : World} {a : Option Addr} {len cap : Nat} {zs : List Int} (h : RowIn .u8 w a len cap zs) : ∃ l : List UInt8, l.length = len ∧ Rd w w.heap.size a l ∧ len ≤ cap := by
  rcases h with ⟨rfl, rfl, rfl, rfl⟩ | ⟨x, rfl, hl, hm, hz, hcell, hwz⟩
  · exact ⟨[], rfl, .inl rfl, Nat.le_refl _⟩
  · refine ⟨(zs.take len).map fun z => UInt8.ofNat z.toNat, by simp [hz, hl], ?_, hl⟩
    by_cases h0 : len = 0
    · subst h0
      exact .inl rfl
    · obtain ⟨b, off, spot⟩ := x
      have hc0 := hcell 0 (by omega)
      have hspot : spot = none := by simpa [Addr.add] using World.cell?_spot hc0
      subst hspot
      refine .inr ⟨b, off, rfl, World.block_lt_of_cell? w _ hc0, fun i hi => ?_⟩
      have hi2 : i < len := by
        have := hi
        simp only [List.length_map, List.length_take] at this
        omega
      have hc := hcell i (by omega)
      rw [Addr.add_lit] at hc
      rw [hc]
      have hg : zs.getD i 0 = zs[i]'(by omega) := by simp [List.getD, show i < zs.length by omega]
      have hw := wf_byte (hwz _ (List.getElem_mem (show i < zs.length by omega)))
      rw [hg]
      simp only [List.getElem_map, List.getElem_take]
      rw [ofNat_toNat (by omega)]
      congr 2
      omega
theorem wf_i64 {n : Int} (h : (Lit.int .i64 n).wf = true) : -9223372036854775808 ≤ n ∧ n ≤ 9223372036854775807 := by
  simp [Lit.wf, IntKind.min, IntKind.max, IntKind.signed, IntKind.bits] at h
  omega
/-- Which bit the law turns. -/
theorem wbit_at (k : Int) (n : Nat) (h0 : 0 < n) (h : n ≤ 20000) : ∃ j : Nat, j < 8 * n ∧ (wrap64 (k.tmod (8 * (n : Int)) + 8 * (n : Int))).tmod (8 * (n : Int)) = (j : Int) := by
  have h1 : k.tmod (8 * (n : Int)) < 8 * (n : Int) := Int.tmod_lt_of_pos k (by omega)
  have h2 : -(8 * (n : Int)) < k.tmod (8 * (n : Int)) := by
    have := Int.lt_tmod_of_pos k (show (0 : Int) < 8 * (n : Int) by omega)
    exact this
  generalize k.tmod (8 * (n : Int)) = r at h1 h2
  rw [IntWalk.wrap64_in _ ⟨by omega, by omega⟩, Int.tmod_eq_emod_of_nonneg (by omega)]
  have h3 := Int.emod_nonneg (r + 8 * (n : Int)) (show 8 * (n : Int) ≠ 0 by omega)
  have h4 := Int.emod_lt_of_pos (r + 8 * (n : Int)) (show 0 < 8 * (n : Int) by omega)
  exact ⟨((r + 8 * (n : Int)) % (8 * (n : Int))).toNat, by omega, by omega⟩
theorem u8_turn (x : Nat) (t : Nat) (hx : x < 256) (ht : t < 8) : bits .xor .u8 (x : Int) (2 ^ t % 256) = ((UInt8.ofNat (x ^^^ 2 ^ t)).toNat : Int) ∧ UInt8.ofNat (x ^^^ 2 ^ t) ≠ UInt8.ofNat x := by
  have hp : 2 ^ t < 256 := Nat.lt_of_lt_of_le (Nat.pow_lt_pow_right (by omega) ht) (by decide)
  have hl : x ^^^ 2 ^ t < 256 := Nat.xor_lt_two_pow (n := 8) hx hp
  have h1 := u8_xor_nat x (2 ^ t) hx hp
  have e : (2 : Int) ^ t % 256 = ((2 ^ t : Nat) : Int) := by
    have : ((2 ^ t : Nat) : Int) = (2 : Int) ^ t := by rw [Int.natCast_pow]; rfl
    rw [← this]
    generalize 2 ^ t = q at hp
    omega
  refine ⟨by rw [e, h1, ofNat_toNat hl], fun h => ?_⟩
  have h2 := congrArg UInt8.toNat h
  rw [ofNat_toNat hl, ofNat_toNat hx] at h2
  have h3 := congrArg (fun z => x ^^^ z) h2
  simp only [← Nat.xor_assoc, Nat.xor_self, Nat.zero_xor] at h3
  have := Nat.two_pow_pos t
  omega
theorem Rd.set_ {w : World} {B g off i : Nat} {l : List UInt8} (h : Rd w B (some ⟨g, off, none⟩) l) (hi : i < l.length) (y : UInt8) :
    Rd (w.setCell ⟨g, off + i, none⟩ (.int .u8 (y.toNat : Int))) B (some ⟨g, off, none⟩) (l.set i y) := by
  obtain ⟨b, o, he, hb, hc⟩ := h.at_ hi
  injection he with he
  injection he with e1 e2
  subst e1; subst e2
  refine .inr ⟨g, off, rfl, hb, fun k hk => ?_⟩
  rw [List.length_set] at hk
  by_cases e : i = k
  · subst e
    have hx := hc i hi
    rw [World.cell?_setCell_same w _ _ hx]
    simp
  · rw [World.cell?_setCell_other w _ _ _ (fun h => by injection h with _ h; omega), hc k hk]
    simp [e]
end Go.Proofs.YthgcmcdacejelaaDoor
