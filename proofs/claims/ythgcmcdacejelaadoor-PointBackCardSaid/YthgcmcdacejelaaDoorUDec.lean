/- What number answers, of a number's own bytes and of any: plain lists. -/
import Derived.Test.YthgcmcdacejelaaDoorUNumber
import Derived.Test.YthgcmcdacejelaaDoorUText
namespace Go.Proofs.YthgcmcdacejelaaDoor
theorem dec_good (most : Nat) (hmost : most ≤ 9007199254740992) (r : List UInt8) : ∀ N i n : Nat, i ≤ 7 → n + N * 128 ^ i ≤ most → (0 < i → 0 < N) → dec most i n (numB N ++ r) = (n + N * 128 ^ i, i + (numB N).length, 0) := by
  intro N
  induction N using Nat.strongRecOn with
  | _ N ih =>
    intro i n hi hN h0
    by_cases hs : N < 128
    · rw [numB_small hs, List.singleton_append, dec, ofNat_toNat (by omega), Nat.mod_eq_of_lt hs, if_neg (by omega), if_neg (by omega), if_neg (by omega), if_pos hs]
      rfl
    · have hp : N % 128 * 128 ^ i ≤ N * 128 ^ i := Nat.mul_le_mul_right _ (Nat.mod_le _ _)
      have h7 : i ≠ 7 := by
        rintro rfl
        have : (128 : Nat) ^ 7 = 562949953421312 := rfl
        omega
      have e1 : (N % 128 + 128) % 128 = N % 128 := by omega
      have hsum : N % 128 * 128 ^ i + N / 128 * 128 ^ (i + 1) = N * 128 ^ i := by
        rw [Nat.pow_succ, ← Nat.mul_assoc, Nat.mul_right_comm, ← Nat.add_mul]
        congr 1
        omega
      rw [numB_great hs, List.cons_append, dec, ofNat_toNat (by omega), e1, if_neg (by omega), if_neg (by omega), if_neg (by omega), if_neg (by omega),
        ih (N / 128) (by omega) (i + 1) _ (by omega) (by omega) (by intro _; omega)]
      simp only [List.length_cons, Prod.mk.injEq, and_true]
      omega
theorem dec_numB (most N : Nat) (hmost : most ≤ 9007199254740992) (hN : N ≤ most) (r : List UInt8) : dec most 0 0 (numB N ++ r) = (N, (numB N).length, 0) := by
  rw [dec_good most hmost r N 0 0 (by omega) (by simpa using hN) (by omega)]
  simp
/-- What a number that was read came from. -/
def Came (most i m : Nat) (l : List UInt8) (d : Nat × Nat × Int) : Prop :=
  (d.1 = 0 ∧ d.2.1 = 0 ∧ (d.2.2 = 20 ∨ d.2.2 = 21)) ∨ ∃ t N, d.2.2 = 0 ∧ d.2.1 = i + t ∧ t ≤ l.length ∧ d.1 = m + N * 128 ^ i ∧ numB N = l.take t ∧ d.1 ≤ most ∧ (0 < i → 0 < N)
theorem dec_came (most : Nat) : ∀ (l : List UInt8) (i m : Nat), Came most i m l (dec most i m l) := by
  intro l
  induction l with
  | nil => intro i m; exact .inl ⟨rfl, rfl, .inl rfl⟩
  | cons c r ih =>
    intro i m
    have hc := c.toNat_lt
    rw [dec]
    by_cases h1 : most < m + c.toNat % 128 * 128 ^ i
    · rw [if_pos h1]; exact .inl ⟨rfl, rfl, .inr rfl⟩
    · rw [if_neg h1]
      by_cases h2 : 0 < i ∧ c.toNat = 0
      · rw [if_pos h2]; exact .inl ⟨rfl, rfl, .inr rfl⟩
      · rw [if_neg h2]
        by_cases h3 : i = 7 ∧ 128 ≤ c.toNat
        · rw [if_pos h3]; exact .inl ⟨rfl, rfl, .inr rfl⟩
        · rw [if_neg h3]
          by_cases h4 : c.toNat < 128
          · rw [if_pos h4]
            refine .inr ⟨1, c.toNat, rfl, rfl, by simp, by simp only [Nat.mod_eq_of_lt h4], ?_, by simp only; omega, fun h => by omega⟩
            rw [numB_small h4]
            simp
          · rw [if_neg h4]
            rcases ih (i + 1) (m + c.toNat % 128 * 128 ^ i) with h | ⟨t, N, q1, q2, q3, q4, q5, q6, q7⟩
            · exact .inl h
            · have hN := q7 (by omega)
              refine .inr ⟨t + 1, c.toNat % 128 + 128 * N, q1, by omega, by simp; omega, ?_, ?_, q6, fun _ => by omega⟩
              · rw [q4, Nat.pow_succ, Nat.add_mul, ← Nat.mul_assoc, Nat.mul_right_comm N, Nat.mul_comm 128 N, Nat.add_assoc, Nat.mul_right_comm N 128]
              · rw [numB_great (by omega), show (c.toNat % 128 + 128 * N) / 128 = N from by omega, q5, show (c.toNat % 128 + 128 * N) % 128 + 128 = c.toNat from by omega]
                simp
theorem dec_size (most : Nat) (l : List UInt8) : (dec most 0 0 l).2.1 ≤ l.length := by
  rcases dec_came most l 0 0 with ⟨_, h, _⟩ | ⟨t, N, _, h, h3, _⟩
  · omega
  · omega
theorem dec_zero (most : Nat) (l : List UInt8) (h : (dec most 0 0 l).2.2 ≠ 0) : (dec most 0 0 l).1 = 0 ∧ (dec most 0 0 l).2.1 = 0 := by
  rcases dec_came most l 0 0 with ⟨h1, h2, _⟩ | ⟨t, N, h1, _⟩
  · exact ⟨h1, h2⟩
  · exact absurd h1 h
theorem dec_most (most : Nat) (l : List UInt8) : (dec most 0 0 l).1 ≤ most := by
  rcases dec_came most l 0 0 with ⟨h1, _⟩ | ⟨t, N, _, _, _, _, _, h6, _⟩
  · omega
  · exact h6
/-- What Upto answers: the number, its bytes, the error. -/
def up (most : Int) (l : List UInt8) : Nat × Nat × Int :=
  if (dec 9007199254740992 0 0 l).2.2 = 0 ∧ most < ((dec 9007199254740992 0 0 l).1 : Int) then (0, 0, 21) else dec 9007199254740992 0 0 l
theorem up_most (l : List UInt8) : up 9007199254740992 l = dec 9007199254740992 0 0 l := by
  have := dec_most 9007199254740992 l
  unfold up
  rw [if_neg (by omega)]
theorem up_numB (most : Int) (N : Nat) (h1 : (N : Int) ≤ most) (h2 : N ≤ 9007199254740992) (r : List UInt8) : up most (numB N ++ r) = (N, (numB N).length, 0) := by
  unfold up
  rw [dec_numB _ N (Nat.le_refl _) h2, if_neg (by simp only; omega)]
theorem up_size (most : Int) (l : List UInt8) : (up most l).2.1 ≤ l.length := by
  unfold up
  split
  · exact Nat.zero_le _
  · exact dec_size _ l
theorem up_zero (most : Int) (l : List UInt8) (h : (up most l).2.2 ≠ 0) : (up most l).1 = 0 ∧ (up most l).2.1 = 0 := by
  unfold up at h ⊢
  split
  · exact ⟨rfl, rfl⟩
  · rename_i hn
    rw [if_neg hn] at h
    exact dec_zero _ l h
/-- What Text answers: the text, how many bytes have gone, the error. -/
def tx (most : Int) (l : List UInt8) : List UInt8 × Nat × Int :=
  if (up most l).2.2 = 0 then
    (if l.length < (up most l).2.1 + (up most l).1 then ([], (up most l).2.1, 20) else ((l.drop (up most l).2.1).take (up most l).1, (up most l).2.1 + (up most l).1, 0))
  else ([], 0, (up most l).2.2)
theorem tx_textB (m : List UInt8) (most : Int) (h1 : (m.length : Int) ≤ most) (h2 : m.length ≤ 9007199254740992) : tx most (textB m) = (m, (textB m).length, 0) := by
  unfold tx textB
  rw [up_numB most m.length h1 h2 m]
  simp
end Go.Proofs.YthgcmcdacejelaaDoor
