/- Orders of texts and of lists of comparisons, pure. -/
import Derived.Lib.Bytealg
import Derived.Lib.Hide
import GoSem.Op.String
namespace Go.Proofs.YthgcmcdacejelaaDoor
/-- Texts, held against each other. -/
theorem cb_three : ∀ a b : List UInt8, Lib.compareBytes a b = -1 ∨ Lib.compareBytes a b = 0 ∨ Lib.compareBytes a b = 1 := by
  intro a
  induction a with
  | nil => intro b; cases b <;> simp [Lib.compareBytes]
  | cons x a ih =>
    intro b
    cases b with
    | nil => simp [Lib.compareBytes]
    | cons y b =>
      rw [Lib.compareBytes]
      by_cases h1 : x < y
      · rw [if_pos h1]; simp
      · rw [if_neg h1]
        by_cases h2 : y < x
        · rw [if_pos h2]; simp
        · rw [if_neg h2]; exact ih b
theorem cb_anti : ∀ a b : List UInt8, Lib.compareBytes b a = -Lib.compareBytes a b := by
  intro a
  induction a with
  | nil => intro b; cases b <;> simp [Lib.compareBytes]
  | cons x a ih =>
    intro b
    cases b with
    | nil => simp [Lib.compareBytes]
    | cons y b =>
      rw [Lib.compareBytes, Lib.compareBytes]
      by_cases h1 : x < y
      · have h2 : ¬ y < x := fun h => UInt8.lt_irrefl _ (UInt8.lt_trans h h1)
        simp [h1, h2]
      · by_cases h2 : y < x
        · simp [h1, h2]
        · simp [h1, h2, ih b]
theorem u8_eq {x y : UInt8} (h1 : ¬ x < y) (h2 : ¬ y < x) : x = y := by
  have a := UInt8.not_lt.1 h1
  have b := UInt8.not_lt.1 h2
  exact UInt8.le_antisymm b a
theorem cb_zero : ∀ a b : List UInt8, Lib.compareBytes a b = 0 ↔ a = b := by
  intro a
  induction a with
  | nil => intro b; cases b <;> simp [Lib.compareBytes]
  | cons x a ih =>
    intro b
    cases b with
    | nil => simp [Lib.compareBytes]
    | cons y b =>
      rw [Lib.compareBytes, List.cons.injEq]
      by_cases h1 : x < y
      · rw [if_pos h1]
        exact ⟨fun h => by omega, fun h => absurd h1 (h.1 ▸ UInt8.lt_irrefl _)⟩
      · rw [if_neg h1]
        by_cases h2 : y < x
        · rw [if_pos h2]
          exact ⟨fun h => by omega, fun h => absurd h2 (h.1 ▸ UInt8.lt_irrefl _)⟩
        · rw [if_neg h2, ih b]
          exact ⟨fun h => ⟨u8_eq h1 h2, h⟩, fun h => h.2⟩
theorem cb_less : ∀ a b : List UInt8, Op.bytesLess a b = decide (Lib.compareBytes a b = -1) := by
  intro a
  induction a with
  | nil => intro b; cases b <;> simp [Lib.compareBytes, Op.bytesLess]
  | cons x a ih =>
    intro b
    cases b with
    | nil => simp [Lib.compareBytes, Op.bytesLess]
    | cons y b =>
      rw [Lib.compareBytes, Op.bytesLess]
      by_cases h1 : x < y
      · simp [h1]
      · rw [if_neg h1]
        by_cases h2 : y < x
        · rw [if_pos h2]
          have : (x == y) = false := by
            rw [beq_eq_false_iff_ne]
            intro h
            exact UInt8.lt_irrefl _ (h ▸ h2)
          simp [h1, this]
        · rw [if_neg h2, ih b, u8_eq h1 h2]
          simp [UInt8.lt_irrefl]
theorem cb_trans : ∀ a b c : List UInt8, Lib.compareBytes a b ≤ 0 → Lib.compareBytes b c ≤ 0 → Lib.compareBytes a c ≤ 0 := by
  intro a
  induction a with
  | nil => intro b c _ _; cases c <;> simp [Lib.compareBytes]
  | cons x a ih =>
    intro b c
    cases b with
    | nil => intro h; simp [Lib.compareBytes] at h
    | cons y b =>
      cases c with
      | nil => intro _ h; simp [Lib.compareBytes] at h
      | cons z c =>
        simp only [Lib.compareBytes]
        intro h1 h2
        by_cases q1 : x < y
        · by_cases q2 : y < z
          · rw [if_pos (UInt8.lt_trans q1 q2)]; decide
          · rw [if_neg q2] at h2
            by_cases q3 : z < y
            · rw [if_pos q3] at h2; omega
            · rw [← u8_eq q2 q3, if_pos q1]; decide
        · rw [if_neg q1] at h1
          by_cases q2 : y < x
          · rw [if_pos q2] at h1; omega
          · rw [if_neg q2] at h1
            have e := u8_eq q1 q2
            subst e
            by_cases q3 : x < z
            · rw [if_pos q3]; decide
            · rw [if_neg q3] at h2 ⊢
              by_cases q4 : z < x
              · rw [if_pos q4] at h2; omega
              · rw [if_neg q4] at h2 ⊢
                exact ih b c h1 h2
/-- Numbers, held against each other. -/
def cmpN (x y : Int) : Int := if x < y then -1 else if y < x then 1 else 0
theorem cmpN_cases (x y : Int) : (x < y ∧ cmpN x y = -1) ∨ (x = y ∧ cmpN x y = 0) ∨ (y < x ∧ cmpN x y = 1) := by
  unfold cmpN
  split
  · exact .inl ⟨by assumption, rfl⟩
  · split
    · exact .inr (.inr ⟨by assumption, rfl⟩)
    · exact .inr (.inl ⟨by omega, rfl⟩)
/-- The first that is not 0. -/
def orL (l : List Int) : Int := (l.find? (· != 0)).getD 0
def cmpR (ax ay : Int) (ak : List UInt8) (bx b_y : Int) (bk : List UInt8) : Int := orL [cmpN ay b_y, cmpN ax bx, Lib.compareBytes ak bk]
theorem cmpR_eq (ax ay : Int) (ak : List UInt8) (bx b_y : Int) (bk : List UInt8) :
    cmpR ax ay ak bx b_y bk = if ay < b_y then -1 else if b_y < ay then 1 else if ax < bx then -1 else if bx < ax then 1 else Lib.compareBytes ak bk := by
  unfold cmpR orL
  rcases cmpN_cases ay b_y with ⟨h, e⟩ | ⟨h, e⟩ | ⟨h, e⟩
  · rw [e, if_pos h]; rfl
  · rw [e, if_neg (by omega), if_neg (by omega)]
    rcases cmpN_cases ax bx with ⟨g, f⟩ | ⟨g, f⟩ | ⟨g, f⟩
    · rw [f, if_pos g]; rfl
    · rw [f, if_neg (by omega), if_neg (by omega)]
      rcases cb_three ak bk with c | c | c <;> rw [c] <;> rfl
    · rw [f, if_neg (by omega), if_pos g]; rfl
  · rw [e, if_neg (by omega), if_pos h]; rfl
theorem cmpR_three (ax ay : Int) (ak : List UInt8) (bx b_y : Int) (bk : List UInt8) : -1 ≤ cmpR ax ay ak bx b_y bk ∧ cmpR ax ay ak bx b_y bk ≤ 1 := by
  rw [cmpR_eq]
  have := cb_three ak bk
  repeat' split
  all_goals omega
theorem cmpR_anti (ax ay : Int) (ak : List UInt8) (bx b_y : Int) (bk : List UInt8) : cmpR bx b_y bk ax ay ak = -cmpR ax ay ak bx b_y bk := by
  rw [cmpR_eq, cmpR_eq, cb_anti ak bk]
  repeat' split
  all_goals omega
theorem cmpR_zero (ax ay : Int) (ak : List UInt8) (bx b_y : Int) (bk : List UInt8) : cmpR ax ay ak bx b_y bk = 0 ↔ ax = bx ∧ ay = b_y ∧ ak = bk := by
  rw [cmpR_eq, ← cb_zero ak bk]
  repeat' split
  all_goals omega
theorem cmpR_trans (ax ay : Int) (ak : List UInt8) (bx b_y : Int) (bk : List UInt8) (cx cy : Int) (ck : List UInt8) (h1 : cmpR ax ay ak bx b_y bk ≤ 0) (h2 : cmpR bx b_y bk cx cy ck ≤ 0) : cmpR ax ay ak cx cy ck ≤ 0 := by
  rw [cmpR_eq] at h1 h2 ⊢
  have ht := cb_trans ak bk ck
  split at h1 <;> split at h2 <;> (repeat' split at h1) <;> (repeat' split at h2) <;> (repeat' split) <;> first | omega | exact ht (by omega) (by omega)
end Go.Proofs.YthgcmcdacejelaaDoor
