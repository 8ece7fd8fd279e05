/- How many pairs of cells lie beside each other. Pure. -/
import Derived.Test.YtgnhamhkpbadbaaBChildM
namespace Go.Proofs.Ytgnhamhkpbadbaa
set_option linter.unusedSimpArgs false
def sumN (f : Nat → Int) : Nat → Int
  | 0 => 0
  | n + 1 => sumN f n + f n
theorem sumN_congr {f g : Nat → Int} : ∀ {n : Nat}, (∀ i, i < n → f i = g i) → sumN f n = sumN g n
  | 0, _ => rfl
  | n + 1, h => by rw [sumN, sumN, sumN_congr (fun i hi => h i (by omega)), h n (by omega)]
theorem sumN_zero {f : Nat → Int} : ∀ {n : Nat}, (∀ i, i < n → f i = 0) → sumN f n = 0
  | 0, _ => rfl
  | n + 1, h => by rw [sumN, sumN_zero (fun i hi => h i (by omega)), h n (by omega)]; rfl
theorem sumN_add (f g : Nat → Int) : ∀ n : Nat, sumN (fun i => f i + g i) n = sumN f n + sumN g n
  | 0 => rfl
  | n + 1 => by rw [sumN, sumN, sumN, sumN_add f g n]; omega
theorem sumN_mulr (f : Nat → Int) (c : Int) : ∀ n : Nat, sumN (fun i => f i * c) n = sumN f n * c
  | 0 => (Int.zero_mul c).symm
  | n + 1 => by rw [sumN, sumN, sumN_mulr f c n, Int.add_mul]
theorem sumN_mull (f : Nat → Int) (c : Int) : ∀ n : Nat, sumN (fun i => c * f i) n = c * sumN f n
  | 0 => (Int.mul_zero c).symm
  | n + 1 => by rw [sumN, sumN, sumN_mull f c n, Int.mul_add]
theorem sumN_shift (f : Nat → Int) : ∀ n : Nat, sumN f (n + 1) = f 0 + sumN (fun i => f (i + 1)) n
  | 0 => by simp [sumN]
  | n + 1 => by rw [sumN, sumN_shift f n, sumN]; omega
def ind (p : Prop) [Decidable p] : Int := if p then 1 else 0
theorem ind_yes {p : Prop} [Decidable p] (h : p) : ind p = 1 := if_pos h
theorem ind_no {p : Prop} [Decidable p] (h : ¬ p) : ind p = 0 := if_neg h
theorem ind_and (p q : Prop) [Decidable p] [Decidable q] : ind (p ∧ q) = ind p * ind q := by
  by_cases h : p <;> by_cases g : q <;> simp [ind, h, g]
theorem ind_01 (p : Prop) [Decidable p] : 0 ≤ ind p ∧ ind p ≤ 1 := by unfold ind; split <;> omega
theorem sumN_ov {a b m : Int} (hm : 0 < m) : ∀ n : Nat, sumN (fun i => ind (b ≤ a + i ∧ a + i < b + m)) n = ov a n b m
  | 0 => by rw [sumN]; unfold ov; omega
  | n + 1 => by
    rw [sumN, sumN_ov hm n]
    by_cases h : b ≤ a + n ∧ a + n < b + m
    · rw [ind_yes h]; unfold ov; omega
    · rw [ind_no h]; unfold ov; omega
theorem mod_up {s x : Int} (h : 0 ≤ x ∧ x < s) : (x + 1) % s = if x + 1 = s then 0 else x + 1 := by
  split
  · next e => rw [e, Int.emod_self]
  · exact Int.emod_eq_of_lt (by omega) (by omega)
theorem mod_dn {s x : Int} (h : 0 ≤ x ∧ x < s) : (x - 1) % s = if x = 0 then s - 1 else x - 1 := by
  split
  · next e =>
    rw [e, show (0 : Int) - 1 = s - 1 + s * (-1) by omega, Int.add_mul_emod_self_left]
    exact Int.emod_eq_of_lt (by omega) (by omega)
  · exact Int.emod_eq_of_lt (by omega) (by omega)
theorem mod_two {s x : Int} (hs : 2 ≤ s) (h : 0 ≤ x ∧ x < s) : (x - 1) % s = (x + 1) % s ↔ s = 2 := by
  rw [mod_up h, mod_dn h]
  split <;> split <;> omega
theorem sum_up {s a b m : Int} {n : Nat} (hn : 0 < n) (ha : 0 ≤ a ∧ a + n ≤ s) (hb : 0 ≤ b ∧ 0 < m ∧ b + m ≤ s) (ho : ov a n b m = 0) : sumN (fun i => ind (b ≤ (a + i + 1) % s ∧ (a + i + 1) % s < b + m)) n = ind (a + n = b ∨ (a + n = s ∧ b = 0)) := by
  obtain ⟨k, rfl⟩ : ∃ k, n = k + 1 := ⟨n - 1, by omega⟩
  unfold ov at ho
  rw [sumN, sumN_zero (fun i hi => ?_), Int.zero_add]
  · have e := mod_up (s := s) (x := a + k) (by omega)
    rw [e]
    by_cases c : a + ((k + 1 : Nat) : Int) = b ∨ (a + ((k + 1 : Nat) : Int) = s ∧ b = 0)
    · rw [ind_yes c, ind_yes]; split <;> omega
    · rw [ind_no c, ind_no]; split <;> omega
  · have e := mod_up (s := s) (x := a + i) (by omega)
    rw [e]
    exact ind_no (by split <;> omega)
theorem sum_dn {s a b m : Int} {n : Nat} (hn : 0 < n) (ha : 0 ≤ a ∧ a + n ≤ s) (hb : 0 ≤ b ∧ 0 < m ∧ b + m ≤ s) (ho : ov a n b m = 0) : sumN (fun i => ind (b ≤ (a + i - 1) % s ∧ (a + i - 1) % s < b + m)) n = ind (b + m = a ∨ (b + m = s ∧ a = 0)) := by
  obtain ⟨k, rfl⟩ : ∃ k, n = k + 1 := ⟨n - 1, by omega⟩
  unfold ov at ho
  rw [sumN_shift, sumN_zero (fun i hi => ?_), Int.add_zero]
  · have e := mod_dn (s := s) (x := a + (0 : Nat)) (by omega)
    rw [e]
    by_cases c : b + m = a ∨ (b + m = s ∧ a = 0)
    · rw [ind_yes c, ind_yes]; split <;> omega
    · rw [ind_no c, ind_no]; split <;> omega
  · have e := mod_dn (s := s) (x := a + (i + 1 : Nat)) (by omega)
    rw [e]
    exact ind_no (by split <;> omega)
/-- How often two spans lie beside each other, told by both ways. -/
theorem tou_ind {k a n b m : Int} (hs : 2 ≤ side k) (ha : 0 ≤ a ∧ 0 < n ∧ a + n ≤ side k) (hb : 0 ≤ b ∧ 0 < m ∧ b + m ≤ side k) (ho : ov a n b m = 0) : tou k a (a + n - 1) b (b + m - 1) = ind (a + n = b ∨ (a + n = side k ∧ b = 0)) + if side k = 2 then 0 else ind (b + m = a ∨ (b + m = side k ∧ a = 0)) := by
  rw [tou_eq hs ha hb ho]
  have n1 := nxt_cases (s := side k) ha (b := b) (by omega)
  have n2 := nxt_cases (s := side k) hb (b := a) (by omega)
  unfold ov at ho
  have ht : twc (side k) a n b m = true ↔ (nxt (side k) a n b = true ∧ nxt (side k) b m a = true) ∧ (1 < n ∨ 1 < m) := by unfold twc; simp
  rcases n1 with ⟨e1, n1⟩ | ⟨e1, n1⟩
  · rw [ind_yes n1, if_pos (.inl e1)]
    congr 1
    rcases n2 with ⟨e2, n2⟩ | ⟨e2, n2⟩
    · rw [ind_yes n2]
      by_cases c : side k = 2
      · rw [if_pos c, if_neg]; rw [ht]; omega
      · rw [if_neg c, if_pos]; rw [ht]; exact ⟨⟨e1, e2⟩, by omega⟩
    · rw [ind_no n2, if_neg (by rw [ht, e2]; simp)]; split <;> rfl
  · rw [ind_no n1, Int.zero_add]
    rw [if_neg (show ¬ twc (side k) a n b m = true by rw [ht, e1]; simp), Int.add_zero]
    rcases n2 with ⟨e2, n2⟩ | ⟨e2, n2⟩
    · rw [ind_yes n2, if_pos (.inr e2), if_neg (by omega)]
    · rw [ind_no n2, if_neg (by rw [e1, e2]; simp)]; split <;> rfl
/-- The four cells beside a cell. -/
def ptC (s X Y : Int) : Nat → Int × Int
  | 0 => ((X + 1) % s, Y)
  | 1 => ((X - 1) % s, Y)
  | 2 => (X, (Y + 1) % s)
  | _ => (X, (Y - 1) % s)
def inZ (z : Rc) (p : Int × Int) : Bool := decide (z.x ≤ p.1 ∧ p.1 < z.x + z.w ∧ z.y ≤ p.2 ∧ p.2 < z.y + z.h)
def agB (s X Y : Int) (j : Nat) : Bool := decide (j % 2 = 1) && decide (ptC s X Y j = ptC s X Y (j - 1))
def ctr (z : Rc) (s X Y : Int) (j : Nat) : Int := if inZ z (ptC s X Y j) = true ∧ agB s X Y j = false then 1 else 0
def nbF (z : Rc) (s X Y : Int) : Int := sumN (ctr z s X Y) 4
theorem nb_eq {z : Rc} {s X Y : Int} (hs : 2 ≤ s) (hX : 0 ≤ X ∧ X < s) (hY : 0 ≤ Y ∧ Y < s) : nbF z s X Y =
    (ind (z.x ≤ (X + 1) % s ∧ (X + 1) % s < z.x + z.w) + (if s = 2 then 0 else ind (z.x ≤ (X - 1) % s ∧ (X - 1) % s < z.x + z.w))) * ind (z.y ≤ Y ∧ Y < z.y + z.h) +
    ind (z.x ≤ X ∧ X < z.x + z.w) * (ind (z.y ≤ (Y + 1) % s ∧ (Y + 1) % s < z.y + z.h) + (if s = 2 then 0 else ind (z.y ≤ (Y - 1) % s ∧ (Y - 1) % s < z.y + z.h))) := by
  have m1 := mod_two hs hX
  have m2 := mod_two hs hY
  have c0 : ctr z s X Y 0 = ind (z.x ≤ (X + 1) % s ∧ (X + 1) % s < z.x + z.w) * ind (z.y ≤ Y ∧ Y < z.y + z.h) := by
    rw [← ind_and]; unfold ctr inZ agB ptC ind; simp [and_assoc]
  have c2 : ctr z s X Y 2 = ind (z.x ≤ X ∧ X < z.x + z.w) * ind (z.y ≤ (Y + 1) % s ∧ (Y + 1) % s < z.y + z.h) := by
    rw [← ind_and]; unfold ctr inZ agB ptC ind; simp [and_assoc]
  have c1 : ctr z s X Y 1 = (if s = 2 then 0 else ind (z.x ≤ (X - 1) % s ∧ (X - 1) % s < z.x + z.w)) * ind (z.y ≤ Y ∧ Y < z.y + z.h) := by
    by_cases h : s = 2
    · rw [if_pos h, Int.zero_mul]
      have := m1.2 h
      unfold ctr agB ptC; simp [this]
    · have h3 : ¬ (X - 1) % s = (X + 1) % s := fun e => h (m1.1 e)
      rw [if_neg h, ← ind_and]; unfold ctr inZ agB ptC ind; simp [h3, and_assoc]
  have c3 : ctr z s X Y 3 = ind (z.x ≤ X ∧ X < z.x + z.w) * (if s = 2 then 0 else ind (z.y ≤ (Y - 1) % s ∧ (Y - 1) % s < z.y + z.h)) := by
    by_cases h : s = 2
    · rw [if_pos h, Int.mul_zero]
      have := m2.2 h
      unfold ctr agB ptC; simp [this]
    · have h3 : ¬ (Y - 1) % s = (Y + 1) % s := fun e => h (m2.1 e)
      rw [if_neg h, ← ind_and]; unfold ctr inZ agB ptC ind; simp [h3, and_assoc]
  unfold nbF
  simp only [sumN]
  rw [c0, c1, c2, c3, Int.add_mul, Int.mul_add]
  omega
/-- All pairs, cell by cell. -/
def celN (z y : Rc) (s : Int) : Int := sumN (fun i => sumN (fun m => nbF y s (z.x + i) (z.y + m)) z.h.toNat) z.w.toNat
theorem cel_eq {k d b e c : Int} (h : okP k d b = true) (g : okP k e c = true) (m : metB d b e c = false) : lenP k d b e c = celN (zoneR k d b) (zoneR k e c) (side k) := by
  have hz := (zones_ov h g).1 m
  have b1 := zone_bd h
  have b2 := zone_bd g
  have hs := ok_side h
  unfold lenP
  rw [if_pos (by unfold apz; rw [h, g, m]; rfl)]
  unfold zx0 zx1 zy0 zy1
  rw [shd_ov, shd_ov]
  generalize zoneR k d b = z at *
  generalize zoneR k e c = y at *
  obtain ⟨W, hW⟩ : ∃ W : Nat, z.w = (W : Int) := ⟨z.w.toNat, by omega⟩
  obtain ⟨H, hH⟩ : ∃ H : Nat, z.h = (H : Int) := ⟨z.h.toNat, by omega⟩
  obtain ⟨U, hU⟩ : ∃ U : Nat → Int, U = fun i : Nat => ind (y.x ≤ (z.x + i + 1) % side k ∧ (z.x + i + 1) % side k < y.x + y.w) + (if side k = 2 then 0 else ind (y.x ≤ (z.x + i - 1) % side k ∧ (z.x + i - 1) % side k < y.x + y.w)) := ⟨_, rfl⟩
  obtain ⟨U', hU'⟩ : ∃ U : Nat → Int, U = fun i : Nat => ind (y.y ≤ (z.y + i + 1) % side k ∧ (z.y + i + 1) % side k < y.y + y.h) + (if side k = 2 then 0 else ind (y.y ≤ (z.y + i - 1) % side k ∧ (z.y + i - 1) % side k < y.y + y.h)) := ⟨_, rfl⟩
  obtain ⟨V, hV⟩ : ∃ V : Nat → Int, V = fun i : Nat => ind (y.x ≤ z.x + i ∧ z.x + i < y.x + y.w) := ⟨_, rfl⟩
  obtain ⟨V', hV'⟩ : ∃ V : Nat → Int, V = fun i : Nat => ind (y.y ≤ z.y + i ∧ z.y + i < y.y + y.h) := ⟨_, rfl⟩
  have hc : celN z y (side k) = sumN U W * sumN V' H + sumN V W * sumN U' H := by
    unfold celN
    rw [show z.h.toNat = H by omega, show z.w.toNat = W by omega]
    have h1 : ∀ i, i < W → (fun i : Nat => sumN (fun m => nbF y (side k) (z.x + i) (z.y + m)) H) i = U i * sumN V' H + V i * sumN U' H := by
      intro i hi
      dsimp only
      rw [sumN_congr (g := fun m => U i * V' m + V i * U' m) (fun m hm => ?_), sumN_add, sumN_mull, sumN_mull]
      rw [nb_eq hs (by omega) (by omega), hU, hV, hU', hV']
    rw [sumN_congr h1, sumN_add, sumN_mulr, sumN_mulr]
  have hv : sumN V W = ov z.x z.w y.x y.w := by rw [hV, hW]; exact sumN_ov (by omega) W
  have hv' : sumN V' H = ov z.y z.h y.y y.h := by rw [hV', hH]; exact sumN_ov (by omega) H
  have hif : ∀ (f : Nat → Int) (n : Nat), sumN (fun i => if side k = 2 then 0 else f i) n = if side k = 2 then 0 else sumN f n := by
    intro f n
    by_cases c : side k = 2
    · simp only [if_pos c]; exact sumN_zero (fun _ _ => rfl)
    · simp only [if_neg c]
  have hu : ov z.x z.w y.x y.w = 0 → sumN U W = tou k z.x (z.x + z.w - 1) y.x (y.x + y.w - 1) := by
    intro h0
    rw [hW] at h0 b1
    rw [hU, sumN_add, hif, sum_up (by omega) ⟨b1.1.1, b1.1.2.2⟩ b2.1 h0, sum_dn (by omega) ⟨b1.1.1, b1.1.2.2⟩ b2.1 h0, hW, tou_ind hs b1.1 b2.1 h0]
  have hu' : ov z.y z.h y.y y.h = 0 → sumN U' H = tou k z.y (z.y + z.h - 1) y.y (y.y + y.h - 1) := by
    intro h0
    rw [hH] at h0 b1
    rw [hU', sumN_add, hif, sum_up (by omega) ⟨b1.2.1, b1.2.2.2⟩ b2.2 h0, sum_dn (by omega) ⟨b1.2.1, b1.2.2.2⟩ b2.2 h0, hH, tou_ind hs b1.2 b2.2 h0]
  rw [hc, hv, hv', Int.mul_comm (ov z.x z.w y.x y.w)]
  congr 1
  · by_cases h0 : ov z.x z.w y.x y.w = 0
    · rw [hu h0]
    · rw [show ov z.y z.h y.y y.h = 0 by omega, Int.mul_zero, Int.mul_zero]
  · by_cases h0 : ov z.y z.h y.y y.h = 0
    · rw [hu' h0]
    · rw [show ov z.x z.w y.x y.w = 0 by omega, Int.mul_zero, Int.mul_zero]
end Go.Proofs.Ytgnhamhkpbadbaa
