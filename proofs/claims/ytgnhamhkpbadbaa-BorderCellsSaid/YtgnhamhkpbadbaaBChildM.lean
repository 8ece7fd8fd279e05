/- What is beside a half. Pure. -/
import Derived.Test.YtgnhamhkpbadbaaBMath
namespace Go.Proofs.Ytgnhamhkpbadbaa
set_option linter.unusedSimpArgs false
/-- Two spans lie beside each other. -/
def adj (s a n b m : Int) : Prop := ov a n b m = 0 ∧ (a + n = b ∨ (a + n = s ∧ b = 0) ∨ b + m = a ∨ (b + m = s ∧ a = 0))
theorem ov_nn (a n b m : Int) : 0 ≤ ov a n b m := by unfold ov; omega
theorem tou_pos {k a n b m : Int} (hs : 2 ≤ side k) (ha : 0 ≤ a ∧ 0 < n ∧ a + n ≤ side k) (hb : 0 ≤ b ∧ 0 < m ∧ b + m ≤ side k) (ho : ov a n b m = 0) : 0 ≤ tou k a (a + n - 1) b (b + m - 1) ∧ (0 < tou k a (a + n - 1) b (b + m - 1) ↔ adj (side k) a n b m) := by
  have n1 := nxt_cases (s := side k) ha (b := b) (by omega)
  have n2 := nxt_cases (s := side k) hb (b := a) (by omega)
  have ht : twc (side k) a n b m = true → (nxt (side k) a n b = true ∧ nxt (side k) b m a = true) := by unfold twc; simp only [Bool.and_eq_true]; exact fun z => z.1
  rw [tou_eq hs ha hb ho]
  unfold adj
  by_cases c : nxt (side k) a n b = true ∨ nxt (side k) b m a = true
  · rw [if_pos c]
    refine ⟨by split <;> omega, ⟨fun _ => ⟨ho, ?_⟩, fun _ => by split <;> omega⟩⟩
    rcases c with c | c
    · rcases n1 with n1 | n1
      · omega
      · rw [c] at n1; exact absurd n1.1 (by decide)
    · rcases n2 with n2 | n2
      · omega
      · rw [c] at n2; exact absurd n2.1 (by decide)
  · rw [if_neg c, if_neg (fun z => c (.inl (ht z).1))]
    refine ⟨by omega, ⟨fun z => absurd z (by omega), fun z => ?_⟩⟩
    rcases n1 with n1 | n1
    · exact absurd (.inl n1.1) c
    · rcases n2 with n2 | n2
      · exact absurd (.inr n2.1) c
      · omega
theorem len_met {k d b e c : Int} (m : metB d b e c = true) : lenP k d b e c = 0 := if_neg (by unfold apz; rw [m]; simp)
theorem len_pos {k d b e c : Int} (h : okP k d b = true) (g : okP k e c = true) (m : metB d b e c = false) : 0 < lenP k d b e c ↔
    (adj (side k) (zoneR k d b).x (zoneR k d b).w (zoneR k e c).x (zoneR k e c).w ∧ 0 < ov (zoneR k d b).y (zoneR k d b).h (zoneR k e c).y (zoneR k e c).h) ∨
    (adj (side k) (zoneR k d b).y (zoneR k d b).h (zoneR k e c).y (zoneR k e c).h ∧ 0 < ov (zoneR k d b).x (zoneR k d b).w (zoneR k e c).x (zoneR k e c).w) := by
  have hz := (zones_ov h g).1 m
  have b1 := zone_bd h
  have b2 := zone_bd g
  have hs := ok_side h
  have l : ∀ {T u : Int} {P : Prop}, 0 ≤ T → (0 < T ↔ P) → 0 ≤ u → (0 ≤ T * u ∧ (0 < T * u ↔ P ∧ 0 < u)) := by
    intro T u P hT hP hu
    refine ⟨Int.mul_nonneg hT hu, ⟨fun z => ?_, fun z => Int.mul_pos (hP.2 z.1) z.2⟩⟩
    rcases Int.lt_or_le 0 T with c1 | c1
    · rcases Int.lt_or_le 0 u with c2 | c2
      · exact ⟨hP.1 c1, c2⟩
      · rw [show u = 0 by omega, Int.mul_zero] at z; omega
    · rw [show T = 0 by omega, Int.zero_mul] at z; omega
  have ax : ∀ {a n b m u : Int}, (0 ≤ a ∧ 0 < n ∧ a + n ≤ side k) → (0 ≤ b ∧ 0 < m ∧ b + m ≤ side k) → (ov a n b m = 0 ∨ u = 0) → 0 ≤ u → (0 ≤ tou k a (a + n - 1) b (b + m - 1) * u ∧ (0 < tou k a (a + n - 1) b (b + m - 1) * u ↔ adj (side k) a n b m ∧ 0 < u)) := by
    intro a n b m u ha hb ho hu
    by_cases h0 : ov a n b m = 0
    · have := tou_pos hs ha hb h0
      exact l this.1 this.2 hu
    · obtain rfl : u = 0 := by omega
      rw [Int.mul_zero]
      exact ⟨by omega, ⟨fun z => absurd z (by omega), fun z => absurd z.2 (by omega)⟩⟩
  unfold lenP
  rw [if_pos (by unfold apz; rw [h, g, m]; rfl)]
  unfold zx0 zx1 zy0 zy1
  rw [shd_ov, shd_ov]
  have a1 := ax b1.1 b2.1 (u := ov (zoneR k d b).y (zoneR k d b).h (zoneR k e c).y (zoneR k e c).h) (by omega) (ov_nn _ _ _ _)
  have a2 := ax b1.2 b2.2 (u := ov (zoneR k d b).x (zoneR k d b).w (zoneR k e c).x (zoneR k e c).w) (by omega) (ov_nn _ _ _ _)
  rw [← a1.2, ← a2.2]
  omega
/-- Along one axis: what lies beside a half, or shares with it. -/
theorem half_axis {s x r b m : Int} {P Q : Prop} (hx : 0 ≤ x ∧ 0 < r ∧ x + 2 * r ≤ s) (hb : 0 ≤ b ∧ 0 < m ∧ b + m ≤ s) (ho : ov x (2 * r) b m = 0 ∨ ¬ Q) :
    (((adj s x r b m ∧ Q) ∨ (P ∧ 0 < ov x r b m)) ∨ ((adj s (x + r) r b m ∧ Q) ∨ (P ∧ 0 < ov (x + r) r b m))) ↔ ((adj s x (2 * r) b m ∧ Q) ∨ (P ∧ 0 < ov x (2 * r) b m)) := by
  unfold adj ov at *
  by_cases hP : P <;> by_cases hQ : Q <;> simp only [hP, hQ, not_true_eq_false, not_false_eq_true, or_false, or_true, and_true, and_false, true_and, false_and, false_or, true_or] at ho ⊢ <;> omega
/-- A zone's two halves are beside each other. -/
theorem sib_beside {k d b : Int} (h : okP k d b = true) (hd : d < 2 * k) : 0 < lenP k (d + 1) (2 * b) (d + 1) (2 * b + 1) := by
  obtain ⟨o0, c0⟩ := zone_child (t := 0) h hd (by omega) (by omega)
  obtain ⟨o1, c1⟩ := zone_child (t := 1) h hd (by omega) (by omega)
  rw [Int.add_zero] at o0 c0
  have bd := zone_bd h
  rw [len_pos o0 o1 (met_halves d b)]
  rcases c0 with ⟨r, e1, e2, e3⟩ | ⟨r, e1, e2, e3⟩
  · rcases c1 with ⟨r', f1, f2, f3⟩ | ⟨r', f1, f2, f3⟩
    · obtain rfl : r' = r := by omega
      rw [e2, f2]; dsimp only; unfold adj ov; omega
    · exact absurd e3 f3
  · rcases c1 with ⟨r', f1, f2, f3⟩ | ⟨r', f1, f2, f3⟩
    · exact absurd f3 e3
    · obtain rfl : r' = r := by omega
      rw [e2, f2]; dsimp only; unfold adj ov; omega
/-- What is beside a half, and does not meet the zone, is beside the zone. -/
theorem half_beside {k d b e c : Int} (h : okP k d b = true) (g : okP k e c = true) (hd : d < 2 * k) (m : metB d b e c = false) (m0 : metB (d + 1) (2 * b) e c = false) (m1 : metB (d + 1) (2 * b + 1) e c = false) :
    (0 < lenP k (d + 1) (2 * b) e c ∨ 0 < lenP k (d + 1) (2 * b + 1) e c) ↔ 0 < lenP k d b e c := by
  obtain ⟨o0, c0⟩ := zone_child (t := 0) h hd (by omega) (by omega)
  obtain ⟨o1, c1⟩ := zone_child (t := 1) h hd (by omega) (by omega)
  rw [Int.add_zero] at o0 c0
  have bd := zone_bd h
  have bg := zone_bd g
  have hz := (zones_ov h g).1 m
  rw [len_pos o0 g m0, len_pos o1 g m1, len_pos h g m]
  rcases c0 with ⟨r, e1, e2, e3⟩ | ⟨r, e1, e2, e3⟩
  · rcases c1 with ⟨r', f1, f2, f3⟩ | ⟨r', f1, f2, f3⟩
    · obtain rfl : r' = r := by omega
      rw [e2, f2, e1]; dsimp only
      rw [e1] at hz
      rw [Int.zero_mul, Int.one_mul, Int.add_zero]
      exact half_axis ⟨bd.1.1, by omega, by omega⟩ bg.1 (by omega)
    · exact absurd e3 f3
  · rcases c1 with ⟨r', f1, f2, f3⟩ | ⟨r', f1, f2, f3⟩
    · exact absurd f3 e3
    · obtain rfl : r' = r := by omega
      rw [e2, f2, e1]; dsimp only
      rw [e1] at hz
      rw [Int.zero_mul, Int.one_mul, Int.add_zero]
      have z := half_axis (P := adj (side k) (zoneR k d b).x (zoneR k d b).w (zoneR k e c).x (zoneR k e c).w) (Q := 0 < ov (zoneR k d b).x (zoneR k d b).w (zoneR k e c).x (zoneR k e c).w) (s := side k) (x := (zoneR k d b).y) (r := r') (b := (zoneR k e c).y) (m := (zoneR k e c).h) ⟨bd.2.1, by omega, by omega⟩ bg.2 (by omega)
      rw [Or.comm (a := adj (side k) (zoneR k d b).x (zoneR k d b).w (zoneR k e c).x (zoneR k e c).w ∧ _), Or.comm (a := adj (side k) (zoneR k d b).x (zoneR k d b).w (zoneR k e c).x (zoneR k e c).w ∧ _), Or.comm (a := adj (side k) (zoneR k d b).x (zoneR k d b).w (zoneR k e c).x (zoneR k e c).w ∧ _)]
      exact z
end Go.Proofs.Ytgnhamhkpbadbaa
