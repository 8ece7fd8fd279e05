/- The order of paths, in numbers. -/
import Derived.Test.YtilkifjdonafnaaPFamM
namespace Go.Proofs.Ytilkifjdonafnaa
open Go.RowKit
section
variable {d b e c f a : Int}
/-- The first place at which the halves of two paths differ, if they are not the same. -/
theorem first_diff (hf : fine d b = true) (hg : fine e c = true) (hne : ¬ (d = e ∧ b = c)) : (∀ j : Nat, j < cpl d b e c → bitI d b j = bitI e c j) ∧ bitI d b (cpl d b e c) ≠ bitI e c (cpl d b e c) := by
  obtain ⟨h1, h2, h3, h4, h5⟩ := cpl_spec hf hg
  refine ⟨h3, ?_⟩
  rcases h4 with h4 | h4
  · intro h
    rw [h4, pv_all] at h5
    rw [bitI_no (d := d) (by omega)] at h
    have he := (fine_iff e c).1 hg
    have h6 : (cpl d b e c : Int) = e := by
      rcases Int.lt_or_le (cpl d b e c : Nat) e with h7 | h7
      · rw [bitI_yes hg (by omega) h7] at h
        omega
      · omega
    rw [← h4, h6, pv_all] at h5
    exact hne ⟨by omega, h5⟩
  · exact h4
theorem cmpI_anti (x y : Int) : cmpI y x = - cmpI x y := by unfold cmpI; split <;> split <;> omega
theorem cmpI_bd (x y : Int) : -1 ≤ cmpI x y ∧ cmpI x y ≤ 1 := by unfold cmpI; split <;> (try split) <;> omega
theorem cmpI_zero (x y : Int) : cmpI x y = 0 ↔ x = y := by unfold cmpI; split <;> (try split) <;> omega
theorem cmpI_neg (x y : Int) : cmpI x y ≤ 0 ↔ x ≤ y := by unfold cmpI; split <;> (try split) <;> omega
theorem cmpP_same (hf : fine d b = true) : cmpP d b d b = 0 := by rw [cmpP_yes hf hf]; exact (cmpI_zero _ _).2 rfl
/-- Where the halves first differ, they tell. -/
theorem cmpP_first {m : Nat} (hf : fine d b = true) (hg : fine e c = true) (h1 : ∀ j : Nat, j < m → bitI d b j = bitI e c j) (h2 : bitI d b m ≠ bitI e c m) : cmpP d b e c = cmpI (bitI d b m) (bitI e c m) := by
  have hne : ¬ (d = e ∧ b = c) := fun h => h2 (by rw [h.1, h.2])
  obtain ⟨g1, g2⟩ := first_diff hf hg hne
  have hm : m = cpl d b e c := by
    rcases Nat.lt_trichotomy m (cpl d b e c) with h | h | h
    · exact absurd (g1 m h) h2
    · exact h
    · exact absurd (h1 _ h) g2
  rw [cmpP_yes hf hg, hm]
theorem cmpP_zero (hf : fine d b = true) (hg : fine e c = true) : cmpP d b e c = 0 ↔ d = e ∧ b = c := by
  constructor
  · intro h
    by_cases hne : d = e ∧ b = c
    · exact hne
    · obtain ⟨g1, g2⟩ := first_diff hf hg hne
      rw [cmpP_first hf hg g1 g2, cmpI_zero] at h
      exact absurd h g2
  · rintro ⟨rfl, rfl⟩; exact cmpP_same hf
theorem cmpP_anti (hf : fine d b = true) (hg : fine e c = true) : cmpP e c d b = - cmpP d b e c := by
  by_cases hne : d = e ∧ b = c
  · obtain ⟨rfl, rfl⟩ := hne
    rw [cmpP_same hf]; rfl
  · obtain ⟨g1, g2⟩ := first_diff hf hg hne
    rw [cmpP_first hf hg g1 g2, cmpP_first hg hf (fun j hj => (g1 j hj).symm) (fun h => g2 h.symm), cmpI_anti]
theorem cmpP_bd (hf : fine d b = true) (hg : fine e c = true) : -1 ≤ cmpP d b e c ∧ cmpP d b e c ≤ 1 := by
  rw [cmpP_yes hf hg]; exact cmpI_bd _ _
/-- p stands ahead of q, or is it: it is it, or its half where they first differ is the lesser. -/
theorem cmpP_le (hf : fine d b = true) (hg : fine e c = true) : cmpP d b e c ≤ 0 ↔ (d = e ∧ b = c) ∨ ∃ m : Nat, (∀ j : Nat, j < m → bitI d b j = bitI e c j) ∧ bitI d b m < bitI e c m := by
  constructor
  · intro h
    by_cases hne : d = e ∧ b = c
    · exact .inl hne
    · obtain ⟨g1, g2⟩ := first_diff hf hg hne
      rw [cmpP_first hf hg g1 g2, cmpI_neg] at h
      exact .inr ⟨_, g1, by omega⟩
  · rintro (⟨rfl, rfl⟩ | ⟨m, g1, g2⟩)
    · rw [cmpP_same hf]; omega
    · rw [cmpP_first hf hg g1 (by omega), cmpI_neg]; omega
theorem cmpP_trans (hf : fine d b = true) (hg : fine e c = true) (hh : fine f a = true) (h1 : cmpP d b e c ≤ 0) (h2 : cmpP e c f a ≤ 0) : cmpP d b f a ≤ 0 := by
  rcases (cmpP_le hf hg).1 h1 with ⟨rfl, rfl⟩ | ⟨m, m1, m2⟩
  · exact h2
  · rcases (cmpP_le hg hh).1 h2 with ⟨rfl, rfl⟩ | ⟨n, n1, n2⟩
    · exact h1
    · refine (cmpP_le hf hh).2 (.inr ?_)
      rcases Nat.lt_trichotomy m n with h | h | h
      · exact ⟨m, fun j hj => (m1 j hj).trans (n1 j (by omega)), by rw [← n1 m h]; exact m2⟩
      · subst h
        exact ⟨m, fun j hj => (m1 j hj).trans (n1 j hj), by omega⟩
      · exact ⟨n, fun j hj => (m1 j (by omega)).trans (n1 j hj), by rw [m1 n h]; exact n2⟩
theorem abv_bits (h : abvB d b e c = true) : fine d b = true ∧ fine e c = true ∧ d ≤ e ∧ ∀ j : Nat, (j : Int) < d → bitI d b j = bitI e c j := by
  obtain ⟨h1, h2, h3, h4⟩ := (abvB_iff _ _ _ _).1 h
  exact ⟨h1, h2, h3, fun j hj => bit_same h1 h2 (m := d) (by omega) h3 (by rw [pv_all, h4]) j (by omega) hj⟩
theorem abv_le (h : abvB d b e c = true) : cmpP d b e c ≤ 0 := by
  obtain ⟨h1, h2, h3, h4⟩ := abv_bits h
  have hd := (fine_iff d b).1 h1
  refine (cmpP_le h1 h2).2 ?_
  by_cases hde : d = e
  · left
    refine ⟨hde, ?_⟩
    have := ((abvB_iff _ _ _ _).1 h).2.2.2
    rw [hde, pv_all] at this
    exact this.symm
  · right
    refine ⟨d.toNat, fun j hj => h4 j (by omega), ?_⟩
    rw [bitI_no (d := d) (by omega), bitI_yes h2 (by omega) (by omega)]
    omega
/-- What is below a path stands behind it, without others between. -/
theorem abv_run (hg : fine e c = true) (hh : abvB d b f a = true) (hn : abvB d b e c = false) (h1 : cmpP d b e c ≤ 0) : 0 < cmpP e c f a := by
  obtain ⟨hf, h2, h3, h4⟩ := abv_bits hh
  have hd := (fine_iff d b).1 hf
  rcases (cmpP_le hf hg).1 h1 with ⟨rfl, rfl⟩ | ⟨m, m1, m2⟩
  · rw [(abvB_iff _ _ _ _).2 ⟨hf, hg, Int.le_refl _, pv_all _ _⟩] at hn
    cases hn
  · have hm : (m : Int) < d := by
      rcases Int.lt_or_le (m : Int) d with h | h
      · exact h
      · exfalso
        have he := (fine_iff e c).1 hg
        have h5 : d ≤ e := by
          rcases Int.lt_or_le e d with h6 | h6
          · have := m1 e.toNat (by omega)
            rw [show ((e.toNat : Nat) : Int) = e by omega, bitI_no (d := e) (by omega), bitI_yes hf (by omega) (by omega)] at this
            omega
          · exact h6
        have h6 := pv_same hf hg d.toNat (by omega) (by omega) (fun j hj => m1 j (by omega))
        rw [show ((d.toNat : Nat) : Int) = d by omega, pv_all] at h6
        rw [(abvB_iff _ _ _ _).2 ⟨hf, hg, h5, h6.symm⟩] at hn
        cases hn
    have h5 : cmpP f a e c ≤ 0 := (cmpP_le h2 hg).2 (.inr ⟨m, fun j hj => (h4 j (by omega)).symm.trans (m1 j hj), by rw [← h4 m hm]; exact m2⟩)
    have h6 := cmpP_anti h2 hg
    have h7 : cmpP e c f a ≠ 0 := by
      intro h
      obtain ⟨rfl, rfl⟩ := (cmpP_zero hg h2).1 h
      rw [hh] at hn
      cases hn
    omega
end
theorem compare_at {dp bp dq bq v : Int} (h : cmpP dp bp dq bq = v) (w : World) : Calls Try.prog 15 #[.agg #[.int .i64 dp, .int .i64 bp], .agg #[.int .i64 dq, .int .i64 bq]] w fun e w' => e = .returned (.int .i64 v) ∧ Below w.heap.size w w' := h ▸ compare_any dp bp dq bq w
end Go.Proofs.Ytilkifjdonafnaa
