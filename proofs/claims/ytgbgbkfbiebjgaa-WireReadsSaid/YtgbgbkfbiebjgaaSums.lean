/- The walk of the law WireSums: the sum of any bytes is the document's; with one bit turned it is another one. -/
import Derived.Test.YtgbgbkfbiebjgaaStays
import Derived.Test.YtgbgbkfbiebjgaaKnows
namespace Go.Proofs.Ytgbgbkfbiebjgaa
open Go.RowKit
/-- A slice of bytes that came in. -/
def RowIn (k : IntKind) (w : World) (a : Option Addr) (len cap : Nat) (zs : List Int) : Prop :=
  (a = none ∧ len = 0 ∧ cap = 0 ∧ zs = []) ∨
  ∃ x, a = some x ∧ len ≤ cap ∧ cap ≤ maxLen ∧ zs.length = cap ∧ (∀ i, i < zs.length → w.cell? (x.add i) = some (.int k (zs.getD i 0))) ∧ ∀ n ∈ zs, (Lit.int k n).wf = true
theorem wf_byte {n : Int} (h : (Lit.int .u8 n).wf = true) : 0 ≤ n ∧ n < 256 := by
  simp [Lit.wf, IntKind.min, IntKind.max, IntKind.signed, IntKind.bits] at h
  omega
theorem rd_of_row {w : World} {a : Option Addr} {len cap : Nat} {zs : List Int} (h : RowIn .u8 w a len cap zs) : ∃ l : List UInt8, l.length = len ∧ Rd w w.heap.size a l ∧ len ≤ cap := by
  rcases h with ⟨rfl, rfl, rfl, rfl⟩ | ⟨x, rfl, hl, hm, hz, hcell, hwz⟩
  · exact ⟨[], rfl, .inl rfl, Nat.le_refl _⟩
  · refine ⟨(zs.take len).map fun z => UInt8.ofNat z.toNat, by simp [hz, hl], ?_, hl⟩
    by_cases h0 : len = 0
    · subst h0
      exact .inl rfl
    · obtain ⟨b, off, spot⟩ := x
      have hc0 := hcell 0 (by omega)
      have hspot : spot = none := by simpa [Addr.add] using World.cell?_spot hc0
      subst hspot
      refine .inr ⟨b, off, rfl, World.block_lt_of_cell? w _ hc0, fun i hi => ?_⟩
      have hi2 : i < len := by
        have := hi
        simp only [List.length_map, List.length_take] at this
        omega
      have hc := hcell i (by omega)
      rw [Addr.add_lit] at hc
      rw [hc]
      have hg : zs.getD i 0 = zs[i]'(by omega) := by simp [List.getD, show i < zs.length by omega]
      have hw := wf_byte (hwz _ (List.getElem_mem (show i < zs.length by omega)))
      rw [hg]
      simp only [List.getElem_map, List.getElem_take]
      rw [ofNat_toNat (by omega)]
      congr 2
      omega
theorem wf_i64 {n : Int} (h : (Lit.int .i64 n).wf = true) : -9223372036854775808 ≤ n ∧ n ≤ 9223372036854775807 := by
  simp [Lit.wf, IntKind.min, IntKind.max, IntKind.signed, IntKind.bits] at h
  omega
/-- Which bit the law turns. -/
theorem bit_at (k : Int) (n : Nat) (h0 : 0 < n) (h : n ≤ 20000) : ∃ j : Nat, j < 8 * n ∧ (wrap64 (k.tmod (8 * (n : Int)) + 8 * (n : Int))).tmod (8 * (n : Int)) = (j : Int) := by
  have h1 : k.tmod (8 * (n : Int)) < 8 * (n : Int) := Int.tmod_lt_of_pos k (by omega)
  have h2 : -(8 * (n : Int)) < k.tmod (8 * (n : Int)) := by
    have := Int.lt_tmod_of_pos k (show (0 : Int) < 8 * (n : Int) by omega)
    exact this
  generalize k.tmod (8 * (n : Int)) = r at h1 h2
  rw [IntWalk.wrap64_in _ ⟨by omega, by omega⟩, Int.tmod_eq_emod_of_nonneg (by omega)]
  have h3 := Int.emod_nonneg (r + 8 * (n : Int)) (show 8 * (n : Int) ≠ 0 by omega)
  have h4 := Int.emod_lt_of_pos (r + 8 * (n : Int)) (show 0 < 8 * (n : Int) by omega)
  exact ⟨((r + 8 * (n : Int)) % (8 * (n : Int))).toNat, by omega, by omega⟩
theorem u8_turn (x : Nat) (t : Nat) (hx : x < 256) (ht : t < 8) : bits .xor .u8 (x : Int) (2 ^ t % 256) = ((UInt8.ofNat (x ^^^ 2 ^ t)).toNat : Int) ∧ UInt8.ofNat (x ^^^ 2 ^ t) ≠ UInt8.ofNat x := by
  have hp : 2 ^ t < 256 := Nat.lt_of_lt_of_le (Nat.pow_lt_pow_right (by omega) ht) (by decide)
  have hl : x ^^^ 2 ^ t < 256 := Nat.xor_lt_two_pow (n := 8) hx hp
  have h1 := u8_xor_nat x (2 ^ t) hx hp
  have e : (2 : Int) ^ t % 256 = ((2 ^ t : Nat) : Int) := by
    have : ((2 ^ t : Nat) : Int) = (2 : Int) ^ t := by rw [Int.natCast_pow]; rfl
    rw [← this]
    generalize 2 ^ t = q at hp
    omega
  refine ⟨by rw [e, h1, ofNat_toNat hl], fun h => ?_⟩
  have h2 := congrArg UInt8.toNat h
  rw [ofNat_toNat hl, ofNat_toNat hx] at h2
  have h3 := congrArg (fun z => x ^^^ z) h2
  simp only [← Nat.xor_assoc, Nat.xor_self, Nat.zero_xor] at h3
  have := Nat.two_pow_pos t
  omega
theorem Rd.set_ {w : World} {B g off i : Nat} {l : List UInt8} (h : Rd w B (some ⟨g, off, none⟩) l) (hi : i < l.length) (y : UInt8) :
    Rd (w.setCell ⟨g, off + i, none⟩ (.int .u8 (y.toNat : Int))) B (some ⟨g, off, none⟩) (l.set i y) := by
  obtain ⟨b, o, he, hb, hc⟩ := h.at_ hi
  injection he with he
  injection he with e1 e2
  subst e1; subst e2
  refine .inr ⟨g, off, rfl, hb, fun k hk => ?_⟩
  rw [List.length_set] at hk
  by_cases e : i = k
  · subst e
    have hx := hc i hi
    rw [World.cell?_setCell_same w _ _ hx]
    simp
  · rw [World.cell?_setCell_other w _ _ _ (fun h => by injection h with _ h; omega), hc k hk]
    simp [e]
theorem sums_long (A : Option Addr) (n c : Nat) (k : Int) (w : World) (h : 20000 < n) :
    Calls Try.prog 3 #[.slice A n c, .int .i64 k] w fun e w' => e = .returned (.bool true) ∧ Below w.heap.size w w' := by
  go_enter Try.func3, Try.ntmps3
  go_wp2_with (go_at_call 11; (with_reducible refine (knows_any _).mono ?_); rintro e w1 ⟨rfl, hb1⟩)
  go_ret
  exact ⟨rfl, hb1⟩
set_option maxRecDepth 100000 in
set_option maxHeartbeats 800000 in
theorem sums_short (A : Option Addr) (n c : Nat) (l : List UInt8) (k : Int) (w : World) (hr : Rd w w.heap.size A l) (hn : l.length = n) (h : n ≤ 20000) :
    Calls Try.prog 3 #[.slice A n c, .int .i64 k] w fun e w' => e = .returned (.bool true) ∧ Below w.heap.size w w' := by
  go_enter Try.func3, Try.ntmps3
  go_wp2_with fail
  refine (lent_any A n c l w hr hn (by omega)).mono ?_
  rintro e w1 ⟨g, c1, rfl, h1, hg1, hg2, hb1⟩
  have hc1 := h1.cap
  have hs1 := hb1.size
  go_wp2_with fail
  refine (sum_at _ _ _ l w1 h1.rd.pre hn (by omega)).mono ?_
  rintro e w2 ⟨rfl, hb2⟩
  have h2 := h1.below hb2
  have hbw2 : Below w.heap.size w w2 := hb1.trans (hb2.mono hs1)
  have hs2 := hb2.size
  clear hb1 h1
  go_wp2_with fail
  refine (refsum_at A n c l w2 ((hr.below hbw2 (Nat.le_refl _)).more hbw2.size) hn (by omega)).mono ?_
  rintro e w2 ⟨rfl, rfl⟩
  obtain ⟨s, hs⟩ : ∃ s, s = Crc.sum l := ⟨_, rfl⟩
  rw [← hs]
  have HS := Lib.hid hs
  clear hs
  go_wp2_with fail
  refine (stays_any g n c1 A c l w2 h2.rd ((hr.below hbw2 (Nat.le_refl _)).more hbw2.size) hn hc1 (by omega)).mono ?_
  rintro e w3 ⟨rfl, kd, rfl⟩
  have h3 : Has (w2.drewN kd) w.heap.size (some ⟨g, 0, none⟩) (n + 2) c1 (l ++ [71, 72]) := h2.drewN kd
  have hbw3 : Below w.heap.size w (w2.drewN kd) := ⟨hbw2.os, hbw2.tape, hbw2.output, hbw2.size, hbw2.block⟩
  obtain ⟨w3, hw3⟩ : ∃ w3, w3 = w2.drewN kd := ⟨_, rfl⟩
  rw [← hw3] at h3 hbw3 ⊢
  have hs3 : w2.heap.size = w3.heap.size := by rw [hw3]; rfl
  clear hw3 h2 hbw2
  by_cases h0 : n = 0
  · have hz : ((n : Int) == 0) = true := by rw [beq_iff_eq]; omega
    have hse : ((s : Int) == 0) = true := by
      have hl : l = [] := List.eq_nil_of_length_eq_zero (by omega)
      rw [HS.out, hl]
      rfl
    clear h0
    go_wp2_with (go_at_call 11; (with_reducible refine (knows_any _).mono ?_); rintro e w4 ⟨rfl, hb4⟩)
    go_ret
    exact ⟨rfl, hbw3.trans (hb4.mono (by have := hbw3.size; omega))⟩
  · have hz : ((n : Int) == 0) = false := by rw [beq_eq_false_iff_ne]; omega
    have hz8 : ¬ 8 * (n : Int) = 0 := by omega
    obtain ⟨j, hj, he⟩ := bit_at k n (by omega) h
    have hjd : j / 8 < n := by omega
    have hjl : j / 8 < l.length := by omega
    have hj0 : (0 : Int) ≤ (j : Int) := by omega
    obtain ⟨x, hx⟩ : ∃ x, x = (l[j / 8]'hjl).toNat := ⟨_, rfl⟩
    have hx8 : x < 256 := by rw [hx]; exact (l[j / 8]'hjl).toNat_lt
    obtain ⟨hv, hne⟩ := u8_turn x (j % 8) hx8 (by omega)
    obtain ⟨y, hy⟩ : ∃ y, y = UInt8.ofNat (x ^^^ 2 ^ (j % 8)) := ⟨_, rfl⟩
    rw [← hy] at hv hne
    have hne2 : y ≠ l[j / 8]'hjl := by
      intro e
      apply hne
      rw [e, hx]
      simp
    have hsum : ((Crc.sum (l.set (j / 8) y) : Int) != (s : Int)) = true := by
      have := Crc.sum_set_ne l (j / 8) hjl y hne2
      rw [HS.out, bne_iff_ne]
      omega
    have hf : ∀ W : World, Below w3.heap.size w3 W → W.cell? ⟨g, j / 8, none⟩ = some (.int .u8 (x : Int)) ∧ W.frozen? ⟨g, j / 8, none⟩ = false ∧
        Rd (W.setCell ⟨g, j / 8, none⟩ (.int .u8 (y.toNat : Int))) (W.setCell ⟨g, j / 8, none⟩ (.int .u8 (y.toNat : Int))).heap.size (some ⟨g, 0, none⟩) (l.set (j / 8) y) := by
      intro W hW
      have h4 := h3.below hW
      refine ⟨?_, ?_, ?_⟩
      · obtain ⟨b, o, he', _, hc⟩ := h4.rd.pre.at_ hjl
        injection he' with he'
        injection he' with e1 e2
        subst e1; subst e2
        have := hc (j / 8) hjl
        rw [← hx] at this
        simpa using this
      · exact World.ownsRow.frozenAt (by have := h4.own; unfold Own at this; rw [h4.len] at this; exact this) _
      · have := (h4.rd.pre).set_ hjl y
        simpa using this
    have HF := Lib.hid hf
    have hlen : (l.set (j / 8) y).length = n := by rw [List.length_set]; exact hn
    have HL := Lib.hid hlen
    clear h0 hf hne hne2 hx hy hlen h3 hn
    go_wp2_with (first | (go_at_call 11; (with_reducible refine (knows_any _).mono ?_); rintro e w4 ⟨rfl, hb4⟩; obtain ⟨hc4, hf4, hr4⟩ := HF.out _ hb4) | (go_at_call 13; (with_reducible refine (sum_at _ _ _ _ _ hr4 HL.out (by omega)).mono ?_); rintro e w5 ⟨rfl, hb5⟩))
    go_ret
    have hs4 := hb4.size
    have hbw4 : Below w.heap.size w w4 := hbw3.trans (hb4.mono (by have := hbw3.size; omega))
    exact ⟨rfl, (hbw4.setCell (p := ⟨g, j / 8, none⟩) hg1 _).trans (hb5.mono (by have := hbw4.size; simp; omega))⟩
theorem sums_walk (a0 : Option Addr) (len0 cap0 : Nat) (z0 : List Int) (a1 : Int) (w : World) (w0 : RowIn .u8 w a0 len0 cap0 z0) :
    Calls Try.prog 3 #[.slice a0 len0 cap0, .int .i64 a1] w fun e w' => e = .returned (.bool true) ∧ Below w.heap.size w w' := by
  obtain ⟨l, hl, hr, hc⟩ := rd_of_row w0
  by_cases h : 20000 < len0
  · exact sums_long a0 len0 cap0 a1 w h
  · exact sums_short a0 len0 cap0 l a1 w hr hl (by omega)
end Go.Proofs.Ytgbgbkfbiebjgaa
