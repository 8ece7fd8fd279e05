/- Rings and counts: in numbers. -/
import Derived.Test.YtgnligeiojdmhaaTDistM
import Derived.Test.YtgnligeiojdmhaaTRing
namespace Go.Proofs.Ytgnligeiojdmhaa
open Go.RowKit
/-- How many of the first n are so. -/
def cntI (f : Nat → Bool) : Nat → Nat
  | 0 => 0
  | n + 1 => cntI f n + (f n).toNat
theorem cntI_congr {f g : Nat → Bool} {n : Nat} (h : ∀ i, i < n → f i = g i) : cntI f n = cntI g n := by
  induction n with
  | zero => rfl
  | succ n ih => simp only [cntI]; rw [ih (fun i hi => h i (by omega)), h n (by omega)]
theorem cntI_le (f : Nat → Bool) (n : Nat) : cntI f n ≤ n := by
  induction n with
  | zero => exact Nat.le_refl _
  | succ n ih => simp only [cntI]; cases f n <;> simp <;> omega
theorem cntI_add (f : Nat → Bool) (a b : Nat) : cntI f (a + b) = cntI f a + cntI (fun i => f (a + i)) b := by
  induction b with
  | zero => rfl
  | succ b ih => rw [← Nat.add_assoc]; simp only [cntI]; rw [ih]; omega
def sumN (f : Nat → Nat) : Nat → Nat
  | 0 => 0
  | n + 1 => sumN f n + f n
theorem sumN_congr {f g : Nat → Nat} {n : Nat} (h : ∀ i, i < n → f i = g i) : sumN f n = sumN g n := by
  induction n with
  | zero => rfl
  | succ n ih => simp only [sumN]; rw [ih (fun i hi => h i (by omega)), h n (by omega)]
theorem cntI_rows (f : Nat → Bool) (s r : Nat) : cntI f (s * r) = sumN (fun q => cntI (fun i => f (s * q + i)) s) r := by
  induction r with
  | zero => rfl
  | succ r ih => rw [Nat.mul_succ, cntI_add, ih]; rfl
/-- How far apart, in naturals. -/
def apN (s x i : Nat) : Nat := min ((x - i) + (i - x)) (s - ((x - i) + (i - x)))
theorem apart_nat {k : Int} {s x i : Nat} (hs : side k = (s : Int)) (hx : x < s) (hi : i < s) : apart k x i = ((apN s x i : Nat) : Int) := by
  have h1 : inB k x = true := (inB_iff _ _).2 (by omega)
  have h2 : inB k i = true := (inB_iff _ _).2 (by omega)
  rw [apart_eq h1 h2, hs]
  unfold apN
  split <;> split <;> omega
/-- How many numbers of the side are so far from one of them. -/
def farN (s e : Nat) : Nat := if s < 2 * e then 0 else if e = 0 ∨ 2 * e = s then 1 else 2
def rowOk (s : Nat) : Bool := (List.range s).all fun x => (List.range 20).all fun d => (List.range (s / 2 + 1)).all fun a => Nat.beq (cntI (fun i => Nat.beq (apN s x i + a) d) s) (bif Nat.blt d a then 0 else farN s (d - a))
def colOk (s : Nat) : Bool := (List.range s).all fun y => (List.range 20).all fun d => Nat.beq (sumN (fun q => bif Nat.blt d (apN s y q) then 0 else farN s (d - apN s y q)) s) (bif Nat.blt s d then 0 else (ringM (s / 2) d).toNat)
def allOk (s : Nat) : Bool := rowOk s && colOk s
theorem ok2 : allOk 2 = true := by decide +kernel
theorem ok4 : allOk 4 = true := by decide +kernel
theorem ok8 : allOk 8 = true := by decide +kernel
theorem ok16 : allOk 16 = true := by decide +kernel
theorem ok_all {s : Nat} (h : s = 2 ∨ s = 4 ∨ s = 8 ∨ s = 16) : rowOk s = true ∧ colOk s = true := by
  have : allOk s = true := by
    rcases h with rfl | rfl | rfl | rfl
    · exact ok2
    · exact ok4
    · exact ok8
    · exact ok16
  unfold allOk at this
  rwa [Bool.and_eq_true] at this
theorem apN_le (s x i : Nat) (hx : x < s) (hi : i < s) : apN s x i ≤ s / 2 := by unfold apN; omega
theorem row_at {s x d a : Nat} (h : s = 2 ∨ s = 4 ∨ s = 8 ∨ s = 16) (hx : x < s) (hd : d < 20) (ha : a ≤ s / 2) : cntI (fun i => Nat.beq (apN s x i + a) d) s = bif Nat.blt d a then 0 else farN s (d - a) := by
  have h1 := (ok_all h).1
  unfold rowOk at h1
  rw [List.all_eq_true] at h1
  have h2 := h1 x (List.mem_range.2 hx)
  rw [List.all_eq_true] at h2
  have h3 := h2 d (List.mem_range.2 hd)
  rw [List.all_eq_true] at h3
  exact Nat.eq_of_beq_eq_true (h3 a (List.mem_range.2 (by omega)))
theorem col_at {s y d : Nat} (h : s = 2 ∨ s = 4 ∨ s = 8 ∨ s = 16) (hy : y < s) (hd : d < 20) : sumN (fun q => bif Nat.blt d (apN s y q) then 0 else farN s (d - apN s y q)) s = bif Nat.blt s d then 0 else (ringM (s / 2) d).toNat := by
  have h1 := (ok_all h).2
  unfold colOk at h1
  rw [List.all_eq_true] at h1
  have h2 := h1 y (List.mem_range.2 hy)
  rw [List.all_eq_true] at h2
  exact Nat.eq_of_beq_eq_true (h2 d (List.mem_range.2 hd))
/-- Is cell number j so far from p? -/
def atD (k x y : Int) (d j : Nat) : Bool := decide (dist k x y ((j : Int) % side k) ((j : Int) / side k) = (d : Int))
theorem count_ring {k : Int} {s x y d : Nat} (h : s = 2 ∨ s = 4 ∨ s = 8 ∨ s = 16) (hs : side k = (s : Int)) (hx : x < s) (hy : y < s) (hd : d < 20) :
    cntI (atD k x y d) (s * s) = bif Nat.blt s d then 0 else (ringM (s / 2) d).toNat := by
  rw [← col_at h hy hd, cntI_rows]
  apply sumN_congr
  intro q hq
  rw [← row_at h hx hd (apN_le s y q hy hq)]
  apply cntI_congr
  intro i hi
  have e1 : ((s * q + i : Nat) : Int) % (s : Int) = (i : Int) := by
    rw [← Int.natCast_emod, Nat.mul_add_mod, Nat.mod_eq_of_lt hi]
  have e2 : ((s * q + i : Nat) : Int) / (s : Int) = (q : Int) := by
    rw [← Int.natCast_ediv, Nat.mul_add_div (by omega), Nat.div_eq_of_lt hi, Nat.add_zero]
  have hc : hasB k x y = true := (hasB_iff _ _ _).2 (by omega)
  have hc2 : hasB k (i : Int) (q : Int) = true := (hasB_iff _ _ _).2 (by omega)
  unfold atD
  rw [hs, e1, e2, dist_eq hc hc2, apart_nat hs hx hi, apart_nat hs hy hq, Bool.eq_iff_iff, decide_eq_true_iff]
  constructor
  · intro e
    rw [show apN s x i + apN s y q = d by omega]
    exact Nat.beq_refl d
  · intro e
    have := Nat.eq_of_beq_eq_true e
    omega
/-- The rings below i, together. -/
def sumR (m : Nat) : Nat → Int
  | 0 => 0
  | n + 1 => sumR m n + ringM m n
theorem sumR_all {m : Nat} (h : m = 1 ∨ m = 2 ∨ m = 4 ∨ m = 8) : sumR m (2 * m + 1) = 2 * (m : Int) * (2 * (m : Int)) := by
  rcases h with rfl | rfl | rfl | rfl <;> decide +kernel
theorem ringS_nn (half d least : Int) (n : Nat) : 0 ≤ ringS half d least n := (ringS_bd half d least n).1
theorem ringM_bd (m d : Nat) (hd : d ≤ 2 * m) : 0 ≤ ringM m d ∧ ringM m d ≤ 4 * (m : Int) + 4 := by
  unfold ringM
  have := ringS_bd m d ((d - m : Nat) : Int) (min d m - (d - m) + 1)
  omega
theorem sumR_bd (m n : Nat) (hm : m ≤ 100) (hn : n ≤ 2 * m + 1) : 0 ≤ sumR m n ∧ sumR m n ≤ 1000 * (n : Int) := by
  induction n with
  | zero => exact ⟨Int.le_refl _, Int.le_refl _⟩
  | succ n ih =>
    have h1 := ih (by omega)
    have h2 := ringM_bd m n (by omega)
    simp only [sumR]
    omega
theorem side_small {k : Int} (h : 1 ≤ k ∧ k ≤ 4) : ∃ m : Nat, side k = 2 * (m : Int) ∧ (m = 1 ∨ m = 2 ∨ m = 4 ∨ m = 8) := by
  have hc : k = 1 ∨ k = 2 ∨ k = 3 ∨ k = 4 := by omega
  rcases hc with rfl | rfl | rfl | rfl
  · exact ⟨1, by decide, by omega⟩
  · exact ⟨2, by decide, by omega⟩
  · exact ⟨4, by decide, by omega⟩
  · exact ⟨8, by decide, by omega⟩
end Go.Proofs.Ytgnligeiojdmhaa
