/- How far a cell is from a rectangle: from its nearest cell; in numbers. -/
import Derived.Test.YtgnhamhkpbadbaaWMath
namespace Go.Proofs.Ytgnhamhkpbadbaa
open Go.RowKit
/-- How far a number is from the nearest of a span. -/
def offI (k n lo c : Int) : Int := if lo ≤ n ∧ n < lo + c then 0 else min (apart k n lo) (apart k n (lo + c - 1))
/-- How far a cell is from a rectangle; -1 of what may not be. -/
def distR (k : Int) (r : Rc) (a b : Int) : Int := if rightR k r = true ∧ neR r = true ∧ hasB k a b = true then offI k a r.x r.w + offI k b r.y r.h else -1
/-- The lesser one, if there is one already. -/
def upd (u v : Int) : Int := if u < 0 ∨ v < u then v else u
/-- The least of the first n; -1 of none. -/
def minF (f : Nat → Int) : Nat → Int
  | 0 => -1
  | n + 1 => upd (minF f n) (f n)
/-- .. going on from u. -/
def inn (u : Int) (g : Nat → Int) : Nat → Int
  | 0 => u
  | n + 1 => upd (inn u g n) (g n)
theorem minF_one (f : Nat → Int) : minF f 1 = f 0 := show upd (-1) (f 0) = f 0 from if_pos (.inl (by decide))
theorem minF_spec {f : Nat → Int} : ∀ n : Nat, (∀ i, i < n + 1 → 0 ≤ f i) → (∃ i, i < n + 1 ∧ minF f (n + 1) = f i) ∧ (∀ i, i < n + 1 → minF f (n + 1) ≤ f i) ∧ 0 ≤ minF f (n + 1)
  | 0, h => by
    have h0 := h 0 (by omega)
    rw [show 0 + 1 = 1 from rfl, minF_one]
    refine ⟨⟨0, by omega, rfl⟩, fun i hi => ?_, h0⟩
    obtain rfl : i = 0 := by omega
    exact Int.le_refl _
  | n + 1, h => by
    obtain ⟨⟨i, hi, h1⟩, h2, h3⟩ := minF_spec n (fun i hi => h i (by omega))
    have h0 := h (n + 1) (by omega)
    have e : minF f (n + 1 + 1) = upd (minF f (n + 1)) (f (n + 1)) := rfl
    rw [e]
    unfold upd
    by_cases hc : minF f (n + 1) < 0 ∨ f (n + 1) < minF f (n + 1)
    · rw [if_pos hc]
      refine ⟨⟨n + 1, by omega, rfl⟩, fun j hj => ?_, h0⟩
      rcases Nat.lt_or_ge j (n + 1) with hlt | hge
      · have := h2 j hlt; omega
      · obtain rfl : j = n + 1 := by omega
        exact Int.le_refl _
    · rw [if_neg hc]
      refine ⟨⟨i, by omega, h1⟩, fun j hj => ?_, h3⟩
      rcases Nat.lt_or_ge j (n + 1) with hlt | hge
      · exact h2 j hlt
      · obtain rfl : j = n + 1 := by omega
        omega
theorem upd_upd {u v v' : Int} (h : 0 ≤ v) (_ : 0 ≤ v') : upd (upd u v) v' = upd u (upd v v') := by
  unfold upd
  by_cases h1 : u < 0 ∨ v < u
  · rw [if_pos h1]
    by_cases h2 : v < 0 ∨ v' < v
    · rw [if_pos h2, if_pos (by omega)]
    · rw [if_neg h2, if_pos h1]
  · rw [if_neg h1]
    by_cases h2 : v < 0 ∨ v' < v
    · rw [if_pos h2]
    · rw [if_neg h2, if_neg h1, if_neg (by omega)]
theorem inn_eq {u : Int} {g : Nat → Int} : ∀ n : Nat, (∀ i, i < n + 1 → 0 ≤ g i) → inn u g (n + 1) = upd u (minF g (n + 1))
  | 0, h => by rw [show 0 + 1 = 1 from rfl, minF_one]; rfl
  | n + 1, h => by
    have ih := inn_eq (u := u) n (fun i hi => h i (by omega))
    have h3 := (minF_spec n (fun i hi => h i (by omega))).2.2
    show upd (inn u g (n + 1)) (g (n + 1)) = upd u (upd (minF g (n + 1)) (g (n + 1)))
    rw [ih, upd_upd h3 (h (n + 1) (by omega))]
theorem minF_add {a : Int} {g : Nat → Int} (ha : 0 ≤ a) : ∀ n : Nat, (∀ i, i < n + 1 → 0 ≤ g i) → minF (fun i => a + g i) (n + 1) = a + minF g (n + 1)
  | 0, h => by rw [show 0 + 1 = 1 from rfl, minF_one, minF_one]
  | n + 1, h => by
    have ih := minF_add ha n (fun i hi => h i (by omega))
    have h3 := (minF_spec n (fun i hi => h i (by omega))).2.2
    show upd (minF (fun i => a + g i) (n + 1)) (a + g (n + 1)) = a + upd (minF g (n + 1)) (g (n + 1))
    rw [ih]
    unfold upd
    split <;> split <;> omega
/-- The least of i rows of n. -/
def rowsF (f g : Nat → Int) (n : Nat) : Nat → Int
  | 0 => -1
  | i + 1 => inn (rowsF f g n i) (fun m => f i + g m) n
theorem rowsF_none (f g : Nat → Int) : ∀ i, rowsF f g 0 i = -1
  | 0 => rfl
  | i + 1 => rowsF_none f g i
theorem rowsF_eq {f g : Nat → Int} {n : Nat} (hg : ∀ m, m < n + 1 → 0 ≤ g m) : ∀ i : Nat, (∀ j, j < i + 1 → 0 ≤ f j) → rowsF f g (n + 1) (i + 1) = minF f (i + 1) + minF g (n + 1)
  | 0, hf => by
    show inn (-1) (fun m => f 0 + g m) (n + 1) = _
    have h0 := hf 0 (by omega)
    have h3 := (minF_spec n hg).2.2
    rw [inn_eq n (fun m hm => by have := hg m hm; omega), minF_add h0 n hg, show 0 + 1 = 1 from rfl, minF_one]
    exact if_pos (.inl (by omega))
  | i + 1, hf => by
    have ih := rowsF_eq hg i (fun j hj => hf j (by omega))
    have h0 := hf (i + 1) (by omega)
    have h3 := (minF_spec n hg).2.2
    have h4 := (minF_spec i (fun j hj => hf j (by omega))).2.2
    show inn (rowsF f g (n + 1) (i + 1)) (fun m => f (i + 1) + g m) (n + 1) = upd (minF f (i + 1)) (f (i + 1)) + _
    rw [inn_eq n (fun m hm => by have := hg m hm; omega), minF_add h0 n hg, ih]
    unfold upd
    split <;> split <;> omega
section
variable {k a : Int}
theorem apart_nn {b : Int} (ha : inB k a = true) (hb : inB k b = true) : 0 ≤ apart k a b := (apart_half ha hb).1
/-- The nearest of a span. -/
theorem near_min {lo : Int} {c : Nat} (ha : inB k a = true) (hl : 0 ≤ lo) (hc : lo + (c + 1 : Nat) ≤ side k) : minF (fun i => apart k a (lo + i)) (c + 1) = offI k a lo (c + 1 : Nat) := by
  have hA := (inB_iff k a).1 ha
  have hin : ∀ i : Nat, i < c + 1 → inB k (lo + i) = true := fun i hi => (inB_iff _ _).2 (by omega)
  obtain ⟨⟨i, hi, h1⟩, h2, h3⟩ := minF_spec (f := fun i => apart k a (lo + i)) c (fun i hi => apart_nn ha (hin i hi))
  unfold offI
  by_cases h : lo ≤ a ∧ a < lo + ((c + 1 : Nat) : Int)
  · rw [if_pos h]
    have h4 := h2 (a - lo).toNat (by omega)
    rw [show lo + (((a - lo).toNat : Nat) : Int) = a by omega, (apart_zero ha ha).2 rfl] at h4
    omega
  · rw [if_neg h]
    have e1 := h2 0 (by omega)
    have e2 := h2 c (by omega)
    have b0 := hin 0 (by omega)
    have bc := hin c (by omega)
    have bi := hin i hi
    rw [show lo + ((0 : Nat) : Int) = lo by omega] at e1 b0
    rw [show lo + ((c + 1 : Nat) : Int) - 1 = lo + (c : Int) by omega]
    have e3 : min (apart k a lo) (apart k a (lo + (c : Int))) ≤ apart k a (lo + (i : Int)) := by
      rw [apart_eq ha b0, apart_eq ha bc, apart_eq ha bi]
      split <;> split <;> split <;> split <;> split <;> split <;> omega
    omega
end
/-- A cell's least distance of all cells of a rectangle. -/
theorem best_eq {k a b : Int} {r : Rc} (hr : rightR k r = true) (ha : hasB k a b = true) :
    rowsF (fun i => apart k a (r.x + i)) (fun m => apart k b (r.y + m)) r.h.toNat r.w.toNat = distR k r a b := by
  have h1 := (rightR_iff k r).1 hr
  obtain ⟨g1, g2⟩ := has_in ha
  unfold distR
  by_cases hn : neR r = true
  · have h2 := (neR_iff r).1 hn
    rw [if_pos ⟨hr, hn, ha⟩]
    obtain ⟨p, hp⟩ : ∃ p, r.w.toNat = p + 1 := ⟨r.w.toNat - 1, by omega⟩
    obtain ⟨q, hq⟩ : ∃ q, r.h.toNat = q + 1 := ⟨r.h.toNat - 1, by omega⟩
    rw [hp, hq, rowsF_eq (fun m hm => apart_nn g2 ((inB_iff _ _).2 (by omega))) p (fun m hm => apart_nn g1 ((inB_iff _ _).2 (by omega))),
      near_min g1 (by omega) (by omega), near_min g2 (by omega) (by omega), show ((p + 1 : Nat) : Int) = r.w by omega, show ((q + 1 : Nat) : Int) = r.h by omega]
  · rw [if_neg (fun e => hn e.2.1)]
    have h2 : ¬ (0 < r.w ∧ 0 < r.h) := fun e => hn ((neR_iff r).2 e)
    rcases (show r.w.toNat = 0 ∨ r.h.toNat = 0 by omega) with e | e
    · rw [e]; rfl
    · rw [e]; exact rowsF_none _ _ _
end Go.Proofs.Ytgnhamhkpbadbaa
