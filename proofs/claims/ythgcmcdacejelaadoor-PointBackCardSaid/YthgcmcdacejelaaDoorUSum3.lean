/- gleberef01.Sum: the document's sum, bit by bit, is the same number. -/
import Derived.Test.YthgcmcdacejelaaDoorUSum2
import Derived.Laws.BitsLemmas
namespace Go.Proofs.YthgcmcdacejelaaDoor
open Go.RowKit
theorem i64_xor_nat (a b : Nat) (ha : a < 4294967296) (hb : b < 4294967296) : bits .xor .i64 (a : Int) (b : Int) = ((a ^^^ b : Nat) : Int) := by
  have hx : a ^^^ b < 2 ^ 32 := Nat.xor_lt_two_pow ha hb
  have ofi : ∀ n : Nat, n < 4294967296 → (BitVec.ofInt 64 (n : Int)).toNat = n := fun n hn => by
    rw [BitVec.ofInt_natCast, BitVec.toNat_ofNat]; exact Nat.mod_eq_of_lt (by omega)
  show IntKind.i64.wrap ((BitVec.ofInt 64 (a : Int) ^^^ BitVec.ofInt 64 (b : Int)).toNat : Int) = _
  rw [BitVec.toNat_xor, ofi a ha, ofi b hb, IntKind.wrap_i64]
  omega
theorem bit_int (n m : Nat) (hn : n < 256) : (wrap64 ((n : Int) / 2 ^ m)).tmod 2 = ((n / 2 ^ m % 2 : Nat) : Int) := by
  have e : (n : Int) / 2 ^ m = ((n / 2 ^ m : Nat) : Int) := by rw [Int.natCast_ediv, Int.natCast_pow]; rfl
  have hle := Nat.div_le_self n (2 ^ m)
  rw [e]
  generalize n / 2 ^ m = q at hle ⊢
  rw [IntWalk.wrap64_in _ ⟨by omega, by omega⟩, Int.tmod_eq_emod_of_nonneg (by omega)]
  omega
theorem bit_unlike {r n m : Nat} (hn : n < 256) (h : ((r : Int) % 2 != (wrap64 ((n : Int) / 2 ^ m)).tmod 2) = true) : ¬ r % 2 = n / 2 ^ m % 2 := by
  rw [bit_int n m hn, bne_iff_ne] at h
  omega
theorem bit_alike {r n m : Nat} (hn : n < 256) (h : ((r : Int) % 2 != (wrap64 ((n : Int) / 2 ^ m)).tmod 2) = false) : r % 2 = n / 2 ^ m % 2 := by
  rw [bit_int n m hn, bne_eq_false_iff_eq] at h
  omega
end Go.Proofs.YthgcmcdacejelaaDoor
