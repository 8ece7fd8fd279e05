/- Families of paths, in numbers; contracts with their values named. -/
import Derived.Test.YtilkifjdonafnaaPSome
namespace Go.Proofs.Ytilkifjdonafnaa
open Go.RowKit
section
variable {d b e c : Int}
theorem half_fine {h : Int} (hf : fine d b = true) (hd : d < 32) (h0 : 0 ≤ h) (h1 : h ≤ 1) : fine (d + 1) (2 * b + h) = true := by
  obtain ⟨g1, g2, g3, g4⟩ := (fine_iff d b).1 hf
  refine (fine_iff _ _).2 ⟨by omega, by omega, by omega, ?_⟩
  rw [show (d + 1).toNat = d.toNat + 1 by omega, p2_add]
  omega
theorem half_pv {h : Int} (h0 : 0 ≤ h) (h1 : h ≤ 1) : pv (d + 1) (2 * b + h) d = b := by
  rw [pv_half (by omega), pv_all]
  omega
theorem half_bit {h : Int} (hf : fine d b = true) (hd : d < 32) (h0 : 0 ≤ h) (h1 : h ≤ 1) : bitI (d + 1) (2 * b + h) d = h := by
  have hd0 := (fine_iff d b).1 hf
  rw [bitI_yes (half_fine hf hd h0 h1) (by omega) (by omega), pv_all]
  omega
theorem cpl_spec (hf : fine d b = true) (hg : fine e c = true) : ((cpl d b e c : Nat) : Int) ≤ d ∧ ((cpl d b e c : Nat) : Int) ≤ e ∧ (∀ j : Nat, j < cpl d b e c → bitI d b j = bitI e c j) ∧ ((cpl d b e c : Int) = d ∨ bitI d b (cpl d b e c) ≠ bitI e c (cpl d b e c)) ∧ pv d b (cpl d b e c) = pv e c (cpl d b e c) := by
  have hd := (fine_iff d b).1 hf
  have he := (fine_iff e c).1 hg
  obtain ⟨h1, h2, h3⟩ := cplN_spec (fun j => bitI e c j) (fun j => bitI d b j) (cnt d b)
  rw [cnt_yes hf] at h1 h2 h3
  have h4 : cpl d b e c = cplN (fun j => bitI e c j) (fun j => bitI d b j) d.toNat := by unfold cpl; rw [cnt_yes hf]
  rw [← h4] at h1 h2 h3
  have h5 : ((cpl d b e c : Nat) : Int) ≤ e := by
    rcases Int.lt_or_le e (cpl d b e c : Nat) with h | h
    · have h6 := h2 e.toNat (by omega)
      rw [show ((e.toNat : Nat) : Int) = e by omega, bitI_no (by omega), bitI_yes hf (by omega) (by omega)] at h6
      omega
    · exact h
  refine ⟨by omega, h5, fun j hj => (h2 j hj).symm, ?_, ?_⟩
  · rcases h3 with h3 | h3
    · exact .inl (by omega)
    · exact .inr (fun e => h3 e.symm)
  · exact pv_same hf hg _ (by omega) h5 (fun j hj => (h2 j hj).symm)
theorem cpl_uniq {k : Nat} (hf : fine d b = true) (h1 : (k : Int) ≤ d) (h2 : ∀ j : Nat, j < k → bitI d b j = bitI e c j) (h3 : (k : Int) = d ∨ bitI d b k ≠ bitI e c k) : cpl d b e c = k := by
  have hd := (fine_iff d b).1 hf
  unfold cpl
  rw [cnt_yes hf]
  refine (cplN_uniq (by omega) (fun j hj => (h2 j hj).symm) ?_).symm
  rcases h3 with h3 | h3
  · exact .inl (by omega)
  · exact .inr (fun e => h3 e.symm)
theorem comB_yes (hf : fine d b = true) : comB d b e c = pv d b (cpl d b e c) := if_pos hf
/-- A path's first halves are above it. -/
theorem abv_pv {m : Int} (hf : fine d b = true) (h0 : 0 ≤ m) (h1 : m ≤ d) : abvB m (pv d b m) d b = true := (abvB_iff _ _ _ _).2 ⟨pv_fine hf h0 h1, hf, h1, rfl⟩
theorem abv_half {h : Int} (hf : fine d b = true) (hd : d < 32) (h0 : 0 ≤ h) (h1 : h ≤ 1) : abvB d b (d + 1) (2 * b + h) = true :=
  (abvB_iff _ _ _ _).2 ⟨hf, half_fine hf hd h0 h1, by omega, half_pv h0 h1⟩
theorem met_halves (d b : Int) : metB (d + 1) (2 * b) (d + 1) (2 * b + 1) = false := by
  apply Bool.eq_false_iff.2
  intro h
  unfold metB at h
  rw [Bool.or_eq_true, abvB_iff, abvB_iff, pv_all, pv_all] at h
  omega
theorem cpl_halves (hf : fine d b = true) (hd : d < 32) : (cpl (d + 1) (2 * b) (d + 1) (2 * b + 1) : Int) = d ∧ comB (d + 1) (2 * b) (d + 1) (2 * b + 1) = b := by
  have hd0 := (fine_iff d b).1 hf
  have f0 := half_fine (h := 0) hf hd (by omega) (by omega)
  have f1 := half_fine (h := 1) hf hd (by omega) (by omega)
  have p0 := half_pv (d := d) (b := b) (h := 0) (by omega) (by omega)
  have p1 := half_pv (d := d) (b := b) (h := 1) (by omega) (by omega)
  have b0 := half_bit (h := 0) hf hd (by omega) (by omega)
  have b1 := half_bit (h := 1) hf hd (by omega) (by omega)
  rw [Int.add_zero] at f0 p0 b0
  have h1 : cpl (d + 1) (2 * b) (d + 1) (2 * b + 1) = d.toNat := by
    refine cpl_uniq f0 (by omega) (fun j hj => bit_same f0 f1 (m := d) (by omega) (by omega) (by rw [p0, p1]) j (by omega) (by omega)) (.inr ?_)
    rw [show ((d.toNat : Nat) : Int) = d by omega, b0, b1]
    omega
  refine ⟨by rw [h1]; omega, ?_⟩
  rw [comB_yes f0, h1, show ((d.toNat : Nat) : Int) = d by omega, p0]
theorem abv_com (hf : fine d b = true) (hg : fine e c = true) : abvB (cpl d b e c) (comB d b e c) d b = true ∧ abvB (cpl d b e c) (comB d b e c) e c = true ∧ fine (cpl d b e c) (comB d b e c) = true := by
  obtain ⟨h1, h2, h3, h4, h5⟩ := cpl_spec hf hg
  rw [comB_yes hf]
  refine ⟨abv_pv hf (by omega) h1, ?_, pv_fine hf (by omega) h1⟩
  rw [h5]
  exact abv_pv hg (by omega) h2
/-- Where p is above q it is what both begin with. -/
theorem com_above (h : abvB d b e c = true) : (cpl d b e c : Int) = d ∧ comB d b e c = b := by
  obtain ⟨hf, hg, h1, h2⟩ := (abvB_iff _ _ _ _).1 h
  have hd := (fine_iff d b).1 hf
  have hp := cpl_spec hf hg
  have h3 : (cpl d b e c : Int) = d := by
    rcases hp.2.2.2.1 with h3 | h3
    · exact h3
    · rcases Int.lt_or_le (cpl d b e c : Nat) d with h4 | h4
      · exact absurd (bit_same hf hg (m := d) (by omega) h1 (by rw [pv_all, h2]) _ (by omega) h4) h3
      · omega
  exact ⟨h3, by rw [comB_yes hf, h3, pv_all]⟩
theorem com_below (h : abvB e c d b = true) : (cpl d b e c : Int) = e ∧ comB d b e c = c := by
  obtain ⟨hg, hf, h1, h2⟩ := (abvB_iff _ _ _ _).1 h
  have he := (fine_iff e c).1 hg
  have hp := cpl_spec hf hg
  have h3 : (cpl d b e c : Int) = e := by
    rcases Int.lt_or_le (cpl d b e c : Nat) e with h4 | h4
    · rcases hp.2.2.2.1 with h3 | h3
      · omega
      · exact absurd (bit_same hf hg (m := e) (by omega) (by omega) (by rw [pv_all, h2]) _ (by omega) h4) h3
    · omega
  exact ⟨h3, by rw [comB_yes hf, h3, h2]⟩
/-- Two that do not meet lie below unlike halves. -/
theorem unlike (hf : fine d b = true) (hg : fine e c = true) (hm : metB d b e c = false) :
    (cpl d b e c : Int) < d ∧ (cpl d b e c : Int) < e ∧
    ((abvB (cpl d b e c + 1) (2 * comB d b e c) d b = true ∧ abvB (cpl d b e c + 1) (2 * comB d b e c + 1) e c = true) ∨
     (abvB (cpl d b e c + 1) (2 * comB d b e c) d b = false ∧ abvB (cpl d b e c + 1) (2 * comB d b e c + 1) d b = true ∧ abvB (cpl d b e c + 1) (2 * comB d b e c) e c = true)) := by
  obtain ⟨h1, h2, h3, h4, h5⟩ := cpl_spec hf hg
  unfold metB at hm
  rw [Bool.or_eq_false_iff] at hm
  obtain ⟨m1, m2⟩ := hm
  have l1 : (cpl d b e c : Int) < d := by
    rcases Int.lt_or_le (cpl d b e c : Nat) d with h | h
    · exact h
    · have e1 : ((cpl d b e c : Nat) : Int) = d := by omega
      rw [e1] at h5 h2
      rw [(abvB_iff _ _ _ _).2 ⟨hf, hg, h2, by rw [← h5, pv_all]⟩] at m1
      cases m1
  have l2 : (cpl d b e c : Int) < e := by
    rcases Int.lt_or_le (cpl d b e c : Nat) e with h | h
    · exact h
    · have e1 : ((cpl d b e c : Nat) : Int) = e := by omega
      rw [e1] at h5 h1
      rw [(abvB_iff _ _ _ _).2 ⟨hg, hf, h1, by rw [h5, pv_all]⟩] at m2
      cases m2
  refine ⟨l1, l2, ?_⟩
  rcases h4 with h4 | h4
  · omega
  rw [comB_yes hf]
  have s1 := pv_succ hf (Int.natCast_nonneg (cpl d b e c)) l1
  have s2 := pv_succ hg (Int.natCast_nonneg (cpl d b e c)) l2
  rw [← h5] at s2
  have b1 := bitI_yes hf (Int.natCast_nonneg (cpl d b e c)) l1
  have b2 := bitI_yes hg (Int.natCast_nonneg (cpl d b e c)) l2
  have a1 := abv_pv (m := (cpl d b e c : Int) + 1) hf (by omega) (by omega)
  have a2 := abv_pv (m := (cpl d b e c : Int) + 1) hg (by omega) (by omega)
  rw [s1] at a1
  rw [s2] at a2
  generalize bitI d b (cpl d b e c) = x at *
  generalize bitI e c (cpl d b e c) = y at *
  rcases (show x = 0 ∧ y = 1 ∨ x = 1 ∧ y = 0 by omega) with ⟨rfl, rfl⟩ | ⟨rfl, rfl⟩
  · rw [Int.add_zero] at a1
    exact .inl ⟨a1, a2⟩
  · rw [Int.add_zero] at a2
    refine .inr ⟨?_, a1, a2⟩
    apply Bool.eq_false_iff.2
    intro h
    have := ((abvB_iff _ _ _ _).1 h).2.2.2
    omega
end
/-! ### Contracts with their values named -/
theorem child_at {d b h D B : Int} (w : World) (hf : fine d b = true) (hd : d < 32) (h0 : 0 ≤ h) (h1 : h ≤ 1) (e1 : d + 1 = D) (e2 : 2 * b + h = B) : Calls Try.prog 24 #[.agg #[.int .i64 d, .int .i64 b], .int .i64 h] w fun e w' => e = .returned (.tuple #[.agg #[.int .i64 D, .int .i64 B], .int .i64 0]) ∧ Below w.heap.size w w' := e1 ▸ e2 ▸ child_ok d b h w hf hd h0 h1
theorem parent_at {d b D B : Int} (w : World) (hf : fine d b = true) (hd : 0 < d) (e1 : d - 1 = D) (e2 : b / 2 = B) : Calls Try.prog 26 #[.agg #[.int .i64 d, .int .i64 b]] w fun e w' => e = .returned (.tuple #[.agg #[.int .i64 D, .int .i64 B], .bool true]) ∧ Below w.heap.size w w' := e1 ▸ e2 ▸ parent_ok d b w hf hd
theorem sibling_at {d b B : Int} (w : World) (hf : fine d b = true) (hd : 0 < d) (e : b + 1 - 2 * (b % 2) = B) : Calls Try.prog 25 #[.agg #[.int .i64 d, .int .i64 b]] w fun e w' => e = .returned (.tuple #[.agg #[.int .i64 d, .int .i64 B], .bool true]) ∧ Below w.heap.size w w' := e ▸ sibling_ok d b w hf hd
theorem common_at {dp bp dq bq M C : Int} (w : World) (e1 : (cpl dp bp dq bq : Int) = M) (e2 : comB dp bp dq bq = C) : Calls Try.prog 13 #[.agg #[.int .i64 dp, .int .i64 bp], .agg #[.int .i64 dq, .int .i64 bq]] w fun e w' => e = .returned (.agg #[.int .i64 M, .int .i64 C]) ∧ Below w.heap.size w w' := e1 ▸ e2 ▸ common_any dp bp dq bq w
theorem meet_at {dp bp dq bq : Int} {r : Bool} (h : metB dp bp dq bq = r) (w : World) : Calls Try.prog 11 #[.agg #[.int .i64 dp, .int .i64 bp], .agg #[.int .i64 dq, .int .i64 bq]] w fun e w' => e = .returned (.bool r) ∧ Below w.heap.size w w' := h ▸ meet_any dp bp dq bq w
theorem last_at {d b v : Int} (h : bitI d b (d - 1) = v) (w : World) : Calls Try.prog 27 #[.agg #[.int .i64 d, .int .i64 b]] w fun e w' => e = .returned (.int .i64 v) ∧ Below w.heap.size w w' := h ▸ last_any d b w
theorem some_at {k d b D B : Int} (w : World) (hk0 : 0 ≤ k) (hk : k ≤ 16) (e1 : smD k d = D) (e2 : smB k d b = B) : Calls Try.prog 23 #[.int .i64 k, .agg #[.int .i64 d, .int .i64 b]] w fun e w' => e = .returned (.agg #[.int .i64 D, .int .i64 B]) ∧ Below w.heap.size w w' := e1 ▸ e2 ▸ some_any k d b w hk0 hk
end Go.Proofs.Ytilkifjdonafnaa
