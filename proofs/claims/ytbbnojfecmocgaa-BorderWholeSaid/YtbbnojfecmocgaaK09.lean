/- Borders, in numbers: how many pairs of cells of two zones lie beside each other. -/
import Derived.Test.YtbbnojfecmocgaaK08
namespace Go.Proofs.Ytbbnojfecmocgaa
set_option linter.unusedSimpArgs false
/-- One, if it is a step. -/
def stp (k m n : Int) : Int := if apart k m n = 1 then 1 else 0
/-- How often two spans lie beside each other, told by their ends. -/
def tou (k a b c d : Int) : Int := if a = b ∧ c = d then stp k a c else stp k b c + stp k a d
/-- How many numbers they share, told by their ends. -/
def shd (a b c d : Int) : Int := max 0 (min b d - max a c + 1)
/-- Of a path's zone: the ends in X and in Y. -/
def zx0 (k d b : Int) : Int := (zoneR k d b).x
def zx1 (k d b : Int) : Int := (zoneR k d b).x + (zoneR k d b).w - 1
def zy0 (k d b : Int) : Int := (zoneR k d b).y
def zy1 (k d b : Int) : Int := (zoneR k d b).y + (zoneR k d b).h - 1
def apz (k d b e c : Int) : Bool := okP k d b && okP k e c && !metB d b e c
/-- A border's length. -/
def lenP (k d b e c : Int) : Int :=
  if apz k d b e c = true then tou k (zx0 k d b) (zx1 k d b) (zx0 k e c) (zx1 k e c) * shd (zy0 k d b) (zy1 k d b) (zy0 k e c) (zy1 k e c) + tou k (zy0 k d b) (zy1 k d b) (zy0 k e c) (zy1 k e c) * shd (zx0 k d b) (zx1 k d b) (zx0 k e c) (zx1 k e c) else 0
/-- As the document tells it. -/
def nxt (s a n b : Int) : Bool := Int.tmod (a + n) s == b
def twc (s a n b m : Int) : Bool := (nxt s a n b && nxt s b m a) && (decide (1 < n) || decide (1 < m))
theorem stp_cases {k a b : Int} (ha : 0 ≤ a ∧ a < side k) (hb : 0 ≤ b ∧ b < side k) : (stp k a b = 1 ∧ (a - b = 1 ∨ b - a = 1 ∨ a - b = side k - 1 ∨ b - a = side k - 1)) ∨ (stp k a b = 0 ∧ ¬ (a - b = 1 ∨ b - a = 1 ∨ a - b = side k - 1 ∨ b - a = side k - 1)) ∨ side k = 1 := by
  have h := apart_eq (k := k) ((inB_iff k a).2 ha) ((inB_iff k b).2 hb)
  unfold stp
  by_cases h1 : side k = 1
  · exact .inr (.inr h1)
  by_cases e : apart k a b = 1
  · rw [if_pos e]
    refine .inl ⟨rfl, ?_⟩
    rw [h] at e
    by_cases c1 : a ≤ b <;> by_cases c2 : b ≤ a <;> simp only [if_pos, if_neg, c1, c2, if_true, if_false] at e <;> omega
  · rw [if_neg e]
    refine .inr (.inl ⟨rfl, ?_⟩)
    rw [h] at e
    by_cases c1 : a ≤ b <;> by_cases c2 : b ≤ a <;> simp only [if_pos, if_neg, c1, c2, if_true, if_false] at e <;> omega
theorem nxt_cases {s a n b : Int} (ha : 0 ≤ a ∧ 0 < n ∧ a + n ≤ s) (hb : 0 ≤ b ∧ b < s) : (nxt s a n b = true ∧ (a + n = b ∨ (a + n = s ∧ b = 0))) ∨ (nxt s a n b = false ∧ ¬ (a + n = b ∨ (a + n = s ∧ b = 0))) := by
  have e : Int.tmod (a + n) s = if a + n = s then 0 else a + n := by
    rw [Int.tmod_eq_emod_of_nonneg (by omega)]
    split
    · next h => rw [h, Int.emod_self]
    · exact Int.emod_eq_of_lt (by omega) (by omega)
  unfold nxt
  rw [e]
  by_cases c : a + n = s
  · rw [if_pos c]
    by_cases c2 : b = 0
    · exact .inl ⟨by simp [c2], by omega⟩
    · exact .inr ⟨by simp; omega, by omega⟩
  · rw [if_neg c]
    by_cases c2 : a + n = b
    · exact .inl ⟨by simp [c2], by omega⟩
    · exact .inr ⟨by simp; omega, by omega⟩
theorem stp_one {k a b : Int} (hs : 2 ≤ side k) (ha : 0 ≤ a ∧ a < side k) (hb : 0 ≤ b ∧ b < side k) (h : a - b = 1 ∨ b - a = 1 ∨ a - b = side k - 1 ∨ b - a = side k - 1) : stp k a b = 1 := by
  rcases stp_cases ha hb with z | z | z
  · exact z.1
  · exact absurd h z.2
  · omega
theorem stp_zero {k a b : Int} (hs : 2 ≤ side k) (ha : 0 ≤ a ∧ a < side k) (hb : 0 ≤ b ∧ b < side k) (h : ¬ (a - b = 1 ∨ b - a = 1 ∨ a - b = side k - 1 ∨ b - a = side k - 1)) : stp k a b = 0 := by
  rcases stp_cases ha hb with z | z | z
  · exact absurd z.2 h
  · exact z.1
  · omega
theorem stp_comm {k a b : Int} (ha : 0 ≤ a ∧ a < side k) (hb : 0 ≤ b ∧ b < side k) : stp k a b = stp k b a := by
  unfold stp
  rw [apart_comm ((inB_iff k a).2 ha) ((inB_iff k b).2 hb)]
theorem nxt_yes {s a n b : Int} (ha : 0 ≤ a ∧ 0 < n ∧ a + n ≤ s) (hb : 0 ≤ b ∧ b < s) (h : a + n = b ∨ (a + n = s ∧ b = 0)) : nxt s a n b = true := by
  rcases nxt_cases ha hb with z | z
  · exact z.1
  · exact absurd h z.2
theorem nxt_no {s a n b : Int} (ha : 0 ≤ a ∧ 0 < n ∧ a + n ≤ s) (hb : 0 ≤ b ∧ b < s) (h : ¬ (a + n = b ∨ (a + n = s ∧ b = 0))) : nxt s a n b = false := by
  rcases nxt_cases ha hb with z | z
  · exact absurd z.2 h
  · exact z.1
theorem tou_before {k a n b m : Int} (hs : 2 ≤ side k) (ha : 0 ≤ a ∧ 0 < n ∧ a + n ≤ b) (hb : 0 < m ∧ b + m ≤ side k) : tou k a (a + n - 1) b (b + m - 1) = (if nxt (side k) a n b = true ∨ nxt (side k) b m a = true then 1 else 0) + (if twc (side k) a n b m = true then 1 else 0) := by
  have e1 : nxt (side k) a n b = decide (a + n = b) := by
    by_cases c : a + n = b
    · rw [nxt_yes (by omega) (by omega) (.inl c), decide_eq_true c]
    · rw [nxt_no (by omega) (by omega) (by omega), decide_eq_false c]
  have e2 : nxt (side k) b m a = decide (b + m = side k ∧ a = 0) := by
    by_cases c : b + m = side k ∧ a = 0
    · rw [nxt_yes (by omega) (by omega) (.inr c), decide_eq_true c]
    · rw [nxt_no (by omega) (by omega) (by omega), decide_eq_false c]
  have e3 : (decide (1 < n) || decide (1 < m)) = !decide (n = 1 ∧ m = 1) := by
    rw [Bool.eq_iff_iff]
    simp only [Bool.or_eq_true, decide_eq_true_eq, Bool.not_eq_true', decide_eq_false_iff_not]
    omega
  unfold tou twc
  rw [e1, e2, e3]
  by_cases c1 : a + n = b <;> by_cases c2 : b + m = side k ∧ a = 0 <;> by_cases c3 : n = 1 ∧ m = 1
  all_goals
    first | rw [decide_eq_true c1] | rw [decide_eq_false c1]
    first | rw [decide_eq_true c2] | rw [decide_eq_false c2]
    first | rw [if_pos (show a = a + n - 1 ∧ b = b + m - 1 by omega)] | rw [if_neg (show ¬ (a = a + n - 1 ∧ b = b + m - 1) by omega)]
    first | rw [decide_eq_true c3] | rw [decide_eq_false c3]
    first
      | (rw [stp_one hs (a := a) (b := b) (by omega) (by omega) (by omega)]; simp; done)
      | (rw [stp_zero hs (a := a) (b := b) (by omega) (by omega) (by omega)]; simp; done)
      | (first | rw [stp_one hs (a := a + n - 1) (b := b) (by omega) (by omega) (by omega)] | rw [stp_zero hs (a := a + n - 1) (b := b) (by omega) (by omega) (by omega)]
         first | rw [stp_one hs (a := a) (b := b + m - 1) (by omega) (by omega) (by omega)] | rw [stp_zero hs (a := a) (b := b + m - 1) (by omega) (by omega) (by omega)]
         simp)
theorem tou_comm {k a n b m : Int} (ha : 0 ≤ a ∧ 0 < n ∧ a + n ≤ side k) (hb : 0 ≤ b ∧ 0 < m ∧ b + m ≤ side k) : tou k a (a + n - 1) b (b + m - 1) = tou k b (b + m - 1) a (a + n - 1) := by
  unfold tou
  rw [stp_comm (k := k) (a := a) (b := b) (by omega) (by omega), stp_comm (k := k) (a := a + n - 1) (b := b) (by omega) (by omega), stp_comm (k := k) (a := a) (b := b + m - 1) (by omega) (by omega)]
  by_cases c : a = a + n - 1 ∧ b = b + m - 1
  · rw [if_pos c, if_pos ⟨c.2, c.1⟩]
  · rw [if_neg c, if_neg (fun z => c ⟨z.2, z.1⟩)]; exact Int.add_comm _ _
/-- Spans that share nothing: told by their ends as by their beginnings. -/
theorem tou_eq {k a n b m : Int} (hs : 2 ≤ side k) (ha : 0 ≤ a ∧ 0 < n ∧ a + n ≤ side k) (hb : 0 ≤ b ∧ 0 < m ∧ b + m ≤ side k) (ho : ov a n b m = 0) : tou k a (a + n - 1) b (b + m - 1) = (if nxt (side k) a n b = true ∨ nxt (side k) b m a = true then 1 else 0) + (if twc (side k) a n b m = true then 1 else 0) := by
  unfold ov at ho
  rcases (show a + n ≤ b ∨ b + m ≤ a by omega) with c | c
  · exact tou_before hs ⟨ha.1, ha.2.1, c⟩ ⟨hb.2.1, hb.2.2⟩
  · rw [tou_comm ha hb, tou_before hs ⟨hb.1, hb.2.1, c⟩ ⟨ha.2.1, ha.2.2⟩]
    have e1 : (nxt (side k) b m a = true ∨ nxt (side k) a n b = true) = (nxt (side k) a n b = true ∨ nxt (side k) b m a = true) := propext Or.comm
    have e2 : twc (side k) b m a n = twc (side k) a n b m := by unfold twc; rw [Bool.and_comm (nxt (side k) b m a), Bool.or_comm (decide (1 < m))]
    simp only [e1, e2]
theorem shd_ov (a n b m : Int) : shd a (a + n - 1) b (b + m - 1) = ov a n b m := by unfold shd ov; omega
theorem ok_side {k d b : Int} (h : okP k d b = true) : 2 ≤ side k := by
  obtain ⟨n, hk, hn1, hn16, hs⟩ := ok_nat h
  obtain ⟨m, h1, h2, h3⟩ := side_half (k := k) ((rgt_iff k).2 (by omega))
  omega
/-- What zones have in numbers. -/
theorem zone_bd {k d b : Int} (h : okP k d b = true) : (0 ≤ (zoneR k d b).x ∧ 0 < (zoneR k d b).w ∧ (zoneR k d b).x + (zoneR k d b).w ≤ side k) ∧ (0 ≤ (zoneR k d b).y ∧ 0 < (zoneR k d b).h ∧ (zoneR k d b).y + (zoneR k d b).h ≤ side k) := by
  obtain ⟨h1, h2, h3, _⟩ := zone_right h
  have := (rightR_iff k _).1 h1
  omega
theorem zone_is {k d b : Int} (h : okP k d b = true) : ∃ n : Nat, k = (n : Int) ∧ side k = 2 ^ n ∧ Zone n d b (zoneR k d b).x (zoneR k d b).y (zoneR k d b).w (zoneR k d b).h := by
  obtain ⟨n, hk, hn1, hn16, hs⟩ := ok_nat h
  obtain ⟨p, q, r, s, Z⟩ := zone_of (show okP n d b = true by rw [← hk]; exact h)
  have hz : zoneR k d b = ⟨p, q, r, s⟩ := by unfold zoneR; rw [hs, Z.val]
  rw [hz]
  exact ⟨n, hk, hs, Z⟩
/-- Zones that do not meet share no numbers in X, or none in Y. -/
theorem zones_ov {k d b e c : Int} (h : okP k d b = true) (g : okP k e c = true) : metB d b e c = false ↔ ov (zoneR k d b).x (zoneR k d b).w (zoneR k e c).x (zoneR k e c).w = 0 ∨ ov (zoneR k d b).y (zoneR k d b).h (zoneR k e c).y (zoneR k e c).h = 0 := by
  obtain ⟨n, hk, hs, Z⟩ := zone_is h
  obtain ⟨n', hk', hs', Z'⟩ := zone_is g
  obtain rfl : n' = n := by omega
  rw [zones_meet (okP_fine h) (okP_fine g) Z Z', decide_eq_false_iff_not]
  have := zone_bd h
  have := zone_bd g
  unfold ov
  omega
end Go.Proofs.Ytbbnojfecmocgaa
