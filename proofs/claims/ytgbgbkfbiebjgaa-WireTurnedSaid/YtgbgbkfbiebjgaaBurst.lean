/- Bits turned within 32 turn the sum: plain lists. -/
import Derived.Test.YtgbgbkfbiebjgaaBack
namespace Go.Proofs.Ytgbgbkfbiebjgaa
theorem xor_join (b m : Nat) (h : b < 256) : b ^^^ (256 * m) = b + 256 * m := by
  apply Nat.eq_of_testBit_eq
  intro i
  have e : b + 256 * m = 2 ^ 8 * m + b := by omega
  rw [Nat.testBit_xor, e, Nat.testBit_two_pow_mul_add m (show b < 2 ^ 8 from h), show 256 * m = 2 ^ 8 * m by rfl, Nat.testBit_two_pow_mul]
  by_cases hi : i < 8
  · simp [hi, show ¬ 8 ≤ i by omega]
  · have hb : b.testBit i = false := Nat.testBit_lt_two_pow (Nat.lt_of_lt_of_le h (by
      have : 2 ^ 8 ≤ 2 ^ i := Nat.pow_le_pow_right (by omega) (by omega)
      omega))
    simp [hi, hb, show 8 ≤ i by omega]
theorem mul_xor (a b k : Nat) : 2 ^ k * (a ^^^ b) = (2 ^ k * a) ^^^ (2 ^ k * b) := by
  apply Nat.eq_of_testBit_eq
  intro i
  simp only [Nat.testBit_xor, Nat.testBit_two_pow_mul]
  by_cases h : k ≤ i <;> simp [h]
theorem steps_pow (k m : Nat) : Crc.steps k (2 ^ k * m) = m := by
  induction k generalizing m with
  | zero => simp [Crc.steps]
  | succ k ih =>
    show Crc.steps k (Crc.step (2 ^ (k + 1) * m)) = m
    rw [Nat.pow_succ, Nat.mul_comm (2 ^ k) 2, Nat.mul_assoc, Crc.step_double, ih]
theorem steps_zero (k : Nat) : Crc.steps k 0 = 0 := by
  have := steps_pow k 0
  rwa [Nat.mul_zero] at this
/-- The register behind bytes, in one: the bytes' number turned into it, and so many steps. -/
theorem reg_steps (l : List UInt8) (c : Nat) : Crc.reg c l = Crc.steps (8 * l.length) (c ^^^ unfix l) := by
  induction l generalizing c with
  | nil => simp [Crc.reg, Crc.steps, unfix]
  | cons b l ih =>
    show Crc.reg (Crc.steps 8 (c ^^^ b.toNat)) l = _
    rw [ih]
    have e1 : unfix l = Crc.steps 8 (2 ^ 8 * unfix l) := (steps_pow 8 _).symm
    have e2 : unfix (b :: l) = b.toNat ^^^ (256 * unfix l) := (xor_join _ _ b.toNat_lt).symm
    rw [e2, List.length_cons, Nat.mul_add, Nat.add_comm (8 * l.length), Crc.steps_add, ← Nat.xor_assoc, Crc.steps_xor 8 (c ^^^ b.toNat)]
    rw [show 256 * unfix l = 2 ^ 8 * unfix l by rfl, ← e1]
/-- Bits turned within 32 turn the register. -/
theorem burst (l l' : List UInt8) (c at_ m : Nat) (hlen : l'.length = l.length) (h : unfix l' = unfix l ^^^ (2 ^ at_ * m)) (hm : m < 4294967296) (h0 : m ≠ 0) (ha : at_ ≤ 8 * l.length) : Crc.reg c l' ≠ Crc.reg c l := by
  intro e
  rw [reg_steps, reg_steps, hlen, h, ← Nat.xor_assoc, Crc.steps_xor] at e
  have h1 : Crc.steps (8 * l.length) (2 ^ at_ * m) = 0 := by
    have := congrArg (fun t => Crc.steps (8 * l.length) (c ^^^ unfix l) ^^^ t) e
    simpa only [← Nat.xor_assoc, Nat.xor_self, Nat.zero_xor] using this
  rw [show 8 * l.length = at_ + (8 * l.length - at_) by omega, Crc.steps_add, steps_pow] at h1
  exact h0 (Crc.steps_inj _ hm (by omega) (h1.trans (steps_zero _).symm))
/-- A frame that passes leaves the register at one value. -/
theorem passes (l s : List UInt8) (c : Nat) (hs : s.length = 4) (h : unfix s = Crc.reg c l ^^^ 4294967295) : Crc.reg c (l ++ s) = Crc.steps 32 4294967295 := by
  rw [Crc.reg_append, reg_steps s, hs, h, ← Nat.xor_assoc, Nat.xor_self, Nat.zero_xor]
theorem unfix_set (l : List UInt8) (i t : Nat) (hi : i < l.length) (ht : t < 8) : unfix (l.set i (UInt8.ofNat (l[i].toNat ^^^ 2 ^ t))) = unfix l ^^^ 2 ^ (8 * i + t) := by
  induction l generalizing i with
  | nil => simp at hi
  | cons b l ih =>
    have hb := b.toNat_lt
    have hp : 2 ^ t < 256 := Nat.lt_of_lt_of_le (Nat.pow_lt_pow_right (by omega) ht) (by decide)
    cases i with
    | zero =>
      have hx : b.toNat ^^^ 2 ^ t < 256 := Nat.xor_lt_two_pow (n := 8) hb hp
      simp only [List.set_cons_zero, List.getElem_cons_zero, unfix, Nat.mul_zero, Nat.zero_add]
      rw [ofNat_toNat hx, ← xor_join _ _ hx, ← xor_join _ _ hb, Nat.xor_assoc, Nat.xor_assoc, Nat.xor_comm (2 ^ t)]
    | succ i =>
      simp only [List.set_cons_succ, List.getElem_cons_succ, unfix]
      rw [ih i (by simpa using hi), ← xor_join _ _ hb, ← xor_join _ _ hb, show 256 * (unfix l ^^^ 2 ^ (8 * i + t)) = 2 ^ 8 * (unfix l ^^^ 2 ^ (8 * i + t)) by rfl, mul_xor, Nat.xor_assoc, ← Nat.pow_add]
      congr 2
      congr 1
      omega
theorem mod_bit (M k : Nat) : M % 2 ^ (k + 1) = M % 2 ^ k + 2 ^ k * (M / 2 ^ k % 2) := by
  rw [Nat.pow_succ, Nat.mod_mul]
theorem mod_set (M k : Nat) (h : M / 2 ^ k % 2 = 1) : M % 2 ^ (k + 1) = (M % 2 ^ k) ^^^ 2 ^ k ∧ M % 2 ^ (k + 1) ≠ 0 := by
  have hl := Nat.mod_lt M (Nat.two_pow_pos k)
  have hp := Nat.two_pow_pos k
  rw [mod_bit, h, Nat.mul_one]
  refine ⟨?_, by omega⟩
  apply Nat.eq_of_testBit_eq
  intro i
  have e : M % 2 ^ k + 2 ^ k = 2 ^ k * 1 + M % 2 ^ k := by omega
  have e2 : (2 ^ k).testBit i = (2 ^ k * 1).testBit i := by rw [Nat.mul_one]
  rw [e, Nat.testBit_two_pow_mul_add 1 hl, Nat.testBit_xor, e2, Nat.testBit_two_pow_mul]
  by_cases hi : i < k
  · simp [hi, show ¬ k ≤ i by omega]
  · have hb : (M % 2 ^ k).testBit i = false := Nat.testBit_lt_two_pow (Nat.lt_of_lt_of_le hl (Nat.pow_le_pow_right (by omega) (by omega)))
    simp [hi, hb, show k ≤ i by omega]
theorem mod_unset (M k : Nat) (h : M / 2 ^ k % 2 = 0) : M % 2 ^ (k + 1) = M % 2 ^ k := by rw [mod_bit, h, Nat.mul_zero, Nat.add_zero]
/-- A frame's first five bytes, and the rest. -/
def hd5 (k n : Nat) : List UInt8 := 3 :: UInt8.ofNat (k % 256) :: fixB 3 n
def tail5 (k : Nat) (l : List UInt8) : List UInt8 := l ++ fixB 4 (Crc.sum (headB k l))
theorem hd5_length (k n : Nat) : (hd5 k n).length = 5 := by simp [hd5, fixB_length]
theorem tail5_length (k : Nat) (l : List UInt8) : (tail5 k l).length = l.length + 4 := by simp [tail5, fixB_length]
theorem frame_parts (k : Nat) (l : List UInt8) : frameB k l = hd5 k l.length ++ tail5 k l := by
  unfold frameB hd5 tail5
  rw [headB_cons]
  simp
theorem head_parts (k : Nat) (l : List UInt8) : headB k l = hd5 k l.length ++ l := by
  rw [headB_cons]
  simp [hd5]
theorem unfix_inj {l m : List UInt8} (hl : l.length = m.length) (h : unfix l = unfix m) : l = m := by
  rw [← fixB_unfix l, ← fixB_unfix m, hl, h]
theorem turned_same (k : Nat) (l L : List UInt8) (p m : Nat) (hL : L.length = l.length + 4) (hu : unfix L = unfix (tail5 k l) ^^^ (2 ^ p * m)) (hm : m = 0) : hd5 k l.length ++ L = frameB k l := by
  rw [frame_parts, unfix_inj (l := L) (m := tail5 k l) (by rw [hL, tail5_length]) (by rw [hu, hm]; simp)]
theorem turned_other (k : Nat) (l L : List UInt8) (p m : Nat) (hl : l.length ≤ 131072) (hL : L.length = l.length + 4) (hu : unfix L = unfix (tail5 k l) ^^^ (2 ^ p * m)) (hp : p ≤ 8 * (l.length + 4)) (hlt : m < 4294967296) (hm : m ≠ 0) :
    unE (hd5 k l.length ++ L) = 22 := by
  have hlen : (hd5 k l.length ++ L).length = l.length + 9 := by rw [List.length_append, hd5_length, hL]; omega
  have h0 : ((hd5 k l.length ++ L).getD 0 0).toNat = 3 := rfl
  have hs : sz (hd5 k l.length ++ L) = l.length := by
    unfold sz hd5
    rw [fix3]
    show unfix [UInt8.ofNat (l.length % 256), UInt8.ofNat (l.length / 256 % 256), UInt8.ofNat (l.length / 256 / 256 % 256)] = _
    rw [← fix3]
    exact unfix_fixB 3 _ (by
      have : (256 : Nat) ^ 3 = 16777216 := rfl
      omega)
  have hd : (hd5 k l.length ++ L).drop (l.length + 5) = L.drop l.length := by
    rw [Nat.add_comm, List.drop_append, hd5_length]
    have : (hd5 k l.length).drop (5 + l.length) = [] := List.drop_eq_nil_of_le (by rw [hd5_length]; omega)
    rw [this, List.nil_append]
    congr 1
    omega
  have ht : (hd5 k l.length ++ L).take (l.length + 5) = hd5 k l.length ++ L.take l.length := by
    rw [Nat.add_comm, List.take_append, hd5_length]
    have : (hd5 k l.length).take (5 + l.length) = hd5 k l.length := List.take_of_length_le (by rw [hd5_length]; omega)
    rw [this]
    congr 2
    omega
  unfold unE
  rw [if_neg (by omega), hs, if_pos ⟨h0, hl⟩, if_neg (by omega), if_neg (by omega), if_neg]
  rw [hd, ht]
  intro e
  have h1 : Crc.reg (Crc.reg 4294967295 (hd5 k l.length)) (L.take l.length ++ L.drop l.length) = Crc.steps 32 4294967295 := by
    refine passes _ _ _ (by rw [List.length_drop]; omega) ?_
    rw [e, Crc.sum, Crc.reg_append]
  rw [List.take_append_drop] at h1
  have h2 : Crc.reg (Crc.reg 4294967295 (hd5 k l.length)) (tail5 k l) = Crc.steps 32 4294967295 := by
    refine passes _ _ _ (fixB_length _ _) ?_
    rw [unfix_fixB 4 _ (by
      have h1 : (256 : Nat) ^ 4 = 4294967296 := rfl
      have := Crc.sum_lt (headB k l)
      omega), head_parts, Crc.sum, Crc.reg_append]
  exact burst (tail5 k l) L (Crc.reg 4294967295 (hd5 k l.length)) p m (by rw [hL, tail5_length]) hu hlt hm (by rw [tail5_length]; exact hp) (h1.trans h2.symm)
end Go.Proofs.Ytgbgbkfbiebjgaa
