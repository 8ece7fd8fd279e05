/- The plain arithmetic of the sum: one bit, four bits, a byte; nothing of the program. -/
namespace Go.Proofs.YthgcmcdacejelaaDoor.Crc
/-- The polynomial's bits. -/
def poly : Nat := 3988292384
/-- One bit goes through the register. -/
def step (c : Nat) : Nat := if c % 2 = 1 then (c / 2) ^^^ poly else c / 2
/-- So many bits. -/
def steps : Nat → Nat → Nat
  | 0, c => c
  | n + 1, c => steps n (step c)
theorem step_xor (a b : Nat) : step (a ^^^ b) = step a ^^^ step b := by
  have hm : (a ^^^ b) % 2 = (a % 2 + b % 2) % 2 := by
    have h := Nat.testBit_xor a b 0
    simp only [Nat.testBit_zero] at h
    rcases Nat.mod_two_eq_zero_or_one a with ha | ha <;> rcases Nat.mod_two_eq_zero_or_one b with hb | hb <;> rcases Nat.mod_two_eq_zero_or_one (a ^^^ b) with hc | hc <;> simp [ha, hb, hc] at h ⊢
  have hd : (a ^^^ b) / 2 = a / 2 ^^^ b / 2 := by
    have := Nat.xor_div_two (a := a) (b := b)
    exact this
  unfold step
  rw [hm, hd]
  rcases Nat.mod_two_eq_zero_or_one a with ha | ha <;> rcases Nat.mod_two_eq_zero_or_one b with hb | hb <;> rw [ha, hb] <;> simp
  · rw [Nat.xor_assoc]
  · rw [Nat.xor_assoc, Nat.xor_assoc, Nat.xor_comm poly]
  · rw [Nat.xor_comm (b / 2) poly, Nat.xor_assoc, ← Nat.xor_assoc poly poly, Nat.xor_self, Nat.zero_xor]
theorem steps_xor (n a b : Nat) : steps n (a ^^^ b) = steps n a ^^^ steps n b := by
  induction n generalizing a b with
  | zero => rfl
  | succ n ih => simp only [steps]; rw [step_xor, ih]
theorem step_lt {c : Nat} (h : c < 4294967296) : step c < 4294967296 := by
  unfold step poly
  split
  · exact Nat.xor_lt_two_pow (n := 32) (by omega) (by omega)
  · omega
theorem steps_lt (n : Nat) {c : Nat} (h : c < 4294967296) : steps n c < 4294967296 := by
  induction n generalizing c with
  | zero => exact h
  | succ n ih => exact ih (step_lt h)
theorem step_double (y : Nat) : step (2 * y) = y := by
  unfold step
  rw [if_neg (by omega)]
  omega
theorem steps_four (y : Nat) : steps 4 (16 * y) = y := by
  simp only [steps]
  rw [show 16 * y = 2 * (2 * (2 * (2 * y))) from by omega, step_double, step_double, step_double, step_double]
theorem split16 (x : Nat) : x = (16 * (x / 16)) ^^^ (x % 16) := by
  apply Nat.eq_of_testBit_eq
  intro i
  rw [Nat.testBit_xor]
  have e1 : 16 * (x / 16) = (x >>> 4) <<< 4 := by rw [Nat.shiftLeft_eq, Nat.shiftRight_eq_div_pow]; omega
  have e2 : x % 16 = x % 2 ^ 4 := rfl
  rw [e1, e2, Nat.testBit_shiftLeft, Nat.testBit_mod_two_pow, Nat.testBit_shiftRight]
  by_cases h : i < 4
  · have : ¬ (i ≥ 4) := by omega
    simp [h, this]
  · have : i ≥ 4 := by omega
    simp [h, this, show 4 + (i - 4) = i from by omega]
/-- Four bits at once: what the table of sixteen is for. -/
theorem nibble (x : Nat) : steps 4 x = (x / 16) ^^^ steps 4 (x % 16) := by
  conv => lhs; rw [split16 x]
  rw [steps_xor, steps_four]
theorem steps_add (m n c : Nat) : steps (m + n) c = steps n (steps m c) := by
  induction m generalizing c with
  | zero => rw [Nat.zero_add]; rfl
  | succ m ih => rw [Nat.add_right_comm]; simp only [steps]; rw [ih]
theorem steps_succ (n c : Nat) : steps (n + 1) c = step (steps n c) := by rw [steps_add]; rfl
/-- A step forgets nothing. -/
theorem step_inj {a b : Nat} (ha : a < 4294967296) (hb : b < 4294967296) (h : step a = step b) : a = b := by
  have hx : step (a ^^^ b) = 0 := by rw [step_xor, h, Nat.xor_self]
  have hl : a ^^^ b < 4294967296 := Nat.xor_lt_two_pow (n := 32) ha hb
  have hz : ∀ z, z < 4294967296 → step z = 0 → z = 0 := by
    intro z hz h0
    unfold step at h0
    split at h0
    · have h1 : z / 2 = poly := by
        have := congrArg (fun t => t ^^^ poly) h0
        simp only [Nat.xor_assoc, Nat.xor_self, Nat.xor_zero, Nat.zero_xor] at this
        exact this
      unfold poly at h1
      omega
    · omega
  have h0 := hz _ hl hx
  have h1 := congrArg (fun t => t ^^^ b) h0
  simpa only [Nat.xor_assoc, Nat.xor_self, Nat.xor_zero, Nat.zero_xor] using h1
/-- The register behind bytes. -/
def reg (c : Nat) (l : List UInt8) : Nat := l.foldl (fun c b => steps 8 (c ^^^ b.toNat)) c
/-- The sum of bytes. -/
def sum (l : List UInt8) : Nat := reg 4294967295 l ^^^ 4294967295
theorem byte_lt {c : Nat} (h : c < 4294967296) (b : UInt8) : c ^^^ b.toNat < 4294967296 :=
  Nat.xor_lt_two_pow (n := 32) h (by have := b.toNat_lt; omega)
theorem reg_lt {c : Nat} (h : c < 4294967296) (l : List UInt8) : reg c l < 4294967296 := by
  induction l generalizing c with
  | nil => exact h
  | cons b l ih => exact ih (steps_lt 8 (byte_lt h b))
theorem reg_append (c : Nat) (l m : List UInt8) : reg c (l ++ m) = reg (reg c l) m := by unfold reg; rw [List.foldl_append]
theorem reg_snoc (c : Nat) (l : List UInt8) (b : UInt8) : reg c (l ++ [b]) = steps 8 (reg c l ^^^ b.toNat) := by rw [reg_append]; rfl
theorem reg_take (c : Nat) (l : List UInt8) (k : Nat) (h : k < l.length) : reg c (l.take (k + 1)) = steps 8 (reg c (l.take k) ^^^ l[k].toNat) := by
  rw [List.take_succ_eq_append_getElem h, reg_snoc]
theorem sum_lt (l : List UInt8) : sum l < 4294967296 := Nat.xor_lt_two_pow (n := 32) (reg_lt (by omega) l) (by omega)
theorem two_nibbles (x : Nat) : steps 8 x = (steps 4 x / 16) ^^^ steps 4 (steps 4 x % 16) := by rw [steps_add 4 4, nibble (steps 4 x)]
/-- The document's way, bit by bit: behind k bits of the byte n the register is this. -/
def bitwise (c n k : Nat) : Nat := steps k (c ^^^ n) ^^^ (n / 2 ^ k)
theorem bitwise_zero (c n : Nat) : bitwise c n 0 = c := by
  unfold bitwise
  rw [Nat.pow_zero, Nat.div_one]
  show (c ^^^ n) ^^^ n = c
  rw [Nat.xor_assoc, Nat.xor_self, Nat.xor_zero]
theorem bitwise_eight (c n : Nat) (h : n < 256) : bitwise c n 8 = steps 8 (c ^^^ n) := by
  unfold bitwise
  rw [Nat.div_eq_of_lt (by omega), Nat.xor_zero]
theorem xor_low (m : Nat) : m ^^^ (m % 2) = 2 * (m / 2) := by
  rcases Nat.mod_two_eq_zero_or_one m with h | h
  · rw [h, Nat.xor_zero]; omega
  · rw [h]
    have h1 := Nat.xor_div_two (a := m) (b := 1)
    have h2 : (m ^^^ 1) % 2 = 0 := by
      rcases Nat.mod_two_eq_zero_or_one (m ^^^ 1) with h3 | h3
      · exact h3
      · have := (Nat.xor_mod_two_eq_one (a := m) (b := 1)).1 h3
        simp [h] at this
    have h4 : (1 : Nat) / 2 = 0 := rfl
    rw [h4, Nat.xor_zero] at h1
    omega
theorem bitwise_next (c n k : Nat) : bitwise c n (k + 1) = step (bitwise c n k ^^^ ((n / 2 ^ k) % 2)) := by
  unfold bitwise
  rw [Nat.xor_assoc, xor_low, step_xor, step_double, ← steps_succ, Nat.pow_succ, Nat.div_div_eq_div_mul]
theorem bitwise_lt {c n : Nat} (hc : c < 4294967296) (hn : n < 256) (k : Nat) : bitwise c n k < 4294967296 := by
  unfold bitwise
  refine Nat.xor_lt_two_pow (n := 32) (steps_lt k (Nat.xor_lt_two_pow (n := 32) hc (by omega))) ?_
  have := Nat.div_le_self n (2 ^ k)
  omega
theorem steps_inj (n : Nat) {a b : Nat} (ha : a < 4294967296) (hb : b < 4294967296) (h : steps n a = steps n b) : a = b := by
  induction n generalizing a b with
  | zero => exact h
  | succ n ih => exact step_inj ha hb (ih (step_lt ha) (step_lt hb) h)
theorem xor_right {a b x : Nat} (h : a ^^^ x = b ^^^ x) : a = b := by
  have := congrArg (fun t => t ^^^ x) h
  simpa only [Nat.xor_assoc, Nat.xor_self, Nat.xor_zero] using this
theorem reg_inj (l : List UInt8) {a b : Nat} (ha : a < 4294967296) (hb : b < 4294967296) (h : reg a l = reg b l) : a = b := by
  induction l generalizing a b with
  | nil => exact h
  | cons x l ih =>
    have h1 := ih (steps_lt 8 (byte_lt ha x)) (steps_lt 8 (byte_lt hb x)) h
    have h2 := steps_inj 8 (byte_lt ha x) (byte_lt hb x) h1
    exact xor_right h2
theorem xor_left {a b x : Nat} (h : x ^^^ a = x ^^^ b) : a = b := by
  have := congrArg (fun t => x ^^^ t) h
  simpa only [← Nat.xor_assoc, Nat.xor_self, Nat.zero_xor] using this
theorem sum_reg {l m : List UInt8} (h : sum l = sum m) : reg 4294967295 l = reg 4294967295 m := by
  unfold sum at h
  have := congrArg (fun t => t ^^^ 4294967295) h
  simpa only [Nat.xor_assoc, Nat.xor_self, Nat.xor_zero] using this
theorem sum_turn (a b : List UInt8) (x y : UInt8) (h : sum (a ++ x :: b) = sum (a ++ y :: b)) : x = y := by
  have h1 := sum_reg h
  rw [reg_append, reg_append] at h1
  have hr := reg_lt (c := 4294967295) (by omega) a
  have h2 := reg_inj b (steps_lt 8 (byte_lt hr x)) (steps_lt 8 (byte_lt hr y)) h1
  have h3 := xor_left (steps_inj 8 (byte_lt hr x) (byte_lt hr y) h2)
  exact UInt8.toNat_inj.1 h3
/-- One byte turned: another sum. -/
theorem sum_set_ne (l : List UInt8) (i : Nat) (hi : i < l.length) (y : UInt8) (hy : y ≠ l[i]) : sum (l.set i y) ≠ sum l := by
  intro h
  have e : l.take i ++ l[i] :: l.drop (i + 1) = l := by rw [List.getElem_cons_drop, List.take_append_drop]
  have e2 : l.set i y = l.take i ++ y :: l.drop (i + 1) := by rw [List.set_eq_take_append_cons_drop, if_pos hi]
  rw [e2] at h
  conv at h => rhs; rw [← e]
  exact hy (sum_turn _ _ _ _ h)
end Go.Proofs.YthgcmcdacejelaaDoor.Crc
