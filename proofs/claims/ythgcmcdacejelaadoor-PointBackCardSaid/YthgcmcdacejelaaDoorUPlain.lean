/- Numbers, lengths and frames as bytes: plain lists; nothing of the program. -/
import Derived.Test.YthgcmcdacejelaaDoorUCrc
namespace Go.Proofs.YthgcmcdacejelaaDoor
/-- A number's bytes: seven bits each, the lowest first. -/
def numB (n : Nat) : List UInt8 := if n < 128 then [UInt8.ofNat n] else UInt8.ofNat (n % 128 + 128) :: numB (n / 128)
termination_by n
decreasing_by omega
theorem numB_small {n : Nat} (h : n < 128) : numB n = [UInt8.ofNat n] := by rw [numB, if_pos h]
theorem numB_great {n : Nat} (h : ¬ n < 128) : numB n = UInt8.ofNat (n % 128 + 128) :: numB (n / 128) := by rw [numB, if_neg h]
theorem numB_length (k : Nat) : ∀ n : Nat, n < 128 ^ (k + 1) → (numB n).length ≤ k + 1 := by
  induction k with
  | zero => intro n h; rw [numB_small (by simpa using h)]; simp
  | succ k ih =>
    intro n h
    by_cases h1 : n < 128
    · rw [numB_small h1]; simp
    · rw [numB_great h1, List.length_cons]
      have := ih (n / 128) (by rw [Nat.pow_succ] at h; omega)
      omega
theorem numB_le {n : Nat} (h : n ≤ 9223372036854775807) : (numB n).length ≤ 9 := numB_length 8 n (by
  have : (128 : Nat) ^ (8 + 1) = 9223372036854775808 := by rfl
  omega)
theorem numB_pos (n : Nat) : 0 < (numB n).length := by
  by_cases h : n < 128
  · rw [numB_small h]; simp
  · rw [numB_great h]; simp
theorem ofNat_toNat {n : Nat} (h : n < 256) : (UInt8.ofNat n).toNat = n := by
  simp only [UInt8.toNat_ofNat']
  exact Nat.mod_eq_of_lt (by omega)
/-- n in so many bytes, the lowest first. -/
def fixB : Nat → Nat → List UInt8
  | 0, _ => []
  | k + 1, n => UInt8.ofNat (n % 256) :: fixB k (n / 256)
theorem fixB_length (k n : Nat) : (fixB k n).length = k := by
  induction k generalizing n with
  | zero => rfl
  | succ k ih => simp only [fixB, List.length_cons, ih]
/-- What stands in bytes, the lowest first. -/
def unfix : List UInt8 → Nat
  | [] => 0
  | b :: l => b.toNat + 256 * unfix l
theorem unfix_fixB (k n : Nat) (h : n < 256 ^ k) : unfix (fixB k n) = n := by
  induction k generalizing n with
  | zero => simp at h; subst h; rfl
  | succ k ih =>
    simp only [fixB, unfix]
    rw [ofNat_toNat (by omega), ih (n / 256) (by rw [Nat.pow_succ] at h; omega)]
    omega
theorem unfix_lt (l : List UInt8) : unfix l < 256 ^ l.length := by
  induction l with
  | nil => simp [unfix]
  | cons b l ih =>
    have := b.toNat_lt
    simp only [unfix, List.length_cons, Nat.pow_succ]
    omega
theorem fixB_unfix (l : List UInt8) : fixB l.length (unfix l) = l := by
  induction l with
  | nil => rfl
  | cons b l ih =>
    have hb := b.toNat_lt
    simp only [List.length_cons, fixB, unfix]
    rw [show (b.toNat + 256 * unfix l) % 256 = b.toNat from by omega, show (b.toNat + 256 * unfix l) / 256 = unfix l from by omega, ih]
    simp
theorem unfix_snoc (l : List UInt8) (b : UInt8) : unfix (l ++ [b]) = unfix l + b.toNat * 256 ^ l.length := by
  induction l with
  | nil => simp [unfix]
  | cons a l ih =>
    simp only [List.cons_append, unfix, List.length_cons, ih, Nat.pow_succ]
    rw [Nat.mul_add, Nat.add_assoc, Nat.mul_left_comm, Nat.mul_comm 256 (256 ^ l.length)]
theorem unfix_take (l : List UInt8) (k : Nat) (h : k < l.length) : unfix (l.take (k + 1)) = unfix (l.take k) + l[k].toNat * 256 ^ k := by
  rw [List.take_succ_eq_append_getElem h, unfix_snoc, List.length_take, Nat.min_eq_left (by omega)]
/-- A frame of content. -/
def headB (kind : Nat) (l : List UInt8) : List UInt8 := [3, UInt8.ofNat (kind % 256)] ++ fixB 3 l.length ++ l
def frameB (kind : Nat) (l : List UInt8) : List UInt8 := headB kind l ++ fixB 4 (Crc.sum (headB kind l))
theorem headB_length (kind : Nat) (l : List UInt8) : (headB kind l).length = l.length + 5 := by simp [headB, fixB_length]; omega
theorem frameB_length (kind : Nat) (l : List UInt8) : (frameB kind l).length = l.length + 9 := by simp [frameB, headB_length, fixB_length]
/-- How many bytes of content a frame's head tells. -/
def sz (l : List UInt8) : Nat := unfix ((l.drop 2).take 3)
theorem sz_lt (l : List UInt8) : sz l < 16777216 := by
  have h := unfix_lt ((l.drop 2).take 3)
  have h2 : ((l.drop 2).take 3).length ≤ 3 := by rw [List.length_take]; omega
  have h3 : (256 : Nat) ^ ((l.drop 2).take 3).length ≤ 256 ^ 3 := Nat.pow_le_pow_right (by omega) h2
  have h4 : (256 : Nat) ^ 3 = 16777216 := by rfl
  unfold sz
  omega
/-- What Unframe tells of bytes: the error, the kind, the content. -/
def unE (l : List UInt8) : Int :=
  if l.length < 5 then 20
  else if (l.getD 0 0).toNat = 3 ∧ sz l ≤ 131072 then
    (if l.length < sz l + 9 then 20 else if sz l + 9 < l.length then 21 else if unfix (l.drop (sz l + 5)) = Crc.sum (l.take (sz l + 5)) then 0 else 22)
  else 21
def unK (l : List UInt8) : Int := if unE l = 0 then ((l.getD 1 0).toNat : Int) else 0
def unC (l : List UInt8) : List UInt8 := if unE l = 0 then (l.drop 5).take (sz l) else []
end Go.Proofs.YthgcmcdacejelaaDoor
