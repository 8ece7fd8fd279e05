/- Numbers, lengths and frames as bytes: plain lists; nothing of the program. wire.appendNum and gleberef01.Num: a number's bytes. -/
import Derived.Test.YtimmnmidhjbanaaDoorK08
namespace Go.Proofs.YtimmnmidhjbanaaDoor
/-- A number's bytes: seven bits each, the lowest first. -/
def numB (n : Nat) : List UInt8 := if n < 128 then [UInt8.ofNat n] else UInt8.ofNat (n % 128 + 128) :: numB (n / 128)
termination_by n
decreasing_by omega
theorem numB_small {n : Nat} (h : n < 128) : numB n = [UInt8.ofNat n] := by rw [numB, if_pos h]
theorem numB_great {n : Nat} (h : ¬ n < 128) : numB n = UInt8.ofNat (n % 128 + 128) :: numB (n / 128) := by rw [numB, if_neg h]
theorem numB_length (k : Nat) : ∀ n : Nat, n < 128 ^ (k + 1) → (numB n).length ≤ k + 1 := by
  induction k with
  | zero => intro n h; rw [numB_small (by simpa using h)]; simp
  | succ k ih =>
    intro n h
    by_cases h1 : n < 128
    · rw [numB_small h1]; simp
    · rw [numB_great h1, List.length_cons]
      have := ih (n / 128) (by rw [Nat.pow_succ] at h; omega)
      omega
theorem numB_le {n : Nat} (h : n ≤ 9223372036854775807) : (numB n).length ≤ 9 := numB_length 8 n (by
  have : (128 : Nat) ^ (8 + 1) = 9223372036854775808 := by rfl
  omega)
theorem numB_pos (n : Nat) : 0 < (numB n).length := by
  by_cases h : n < 128
  · rw [numB_small h]; simp
  · rw [numB_great h]; simp
theorem ofNat_toNat {n : Nat} (h : n < 256) : (UInt8.ofNat n).toNat = n := by
  simp only [UInt8.toNat_ofNat']
  exact Nat.mod_eq_of_lt (by omega)
end Go.Proofs.YtimmnmidhjbanaaDoor
namespace Go.Proofs.YtimmnmidhjbanaaDoor
open Go.RowKit
theorem ofi64 (n : Nat) (h : n < 9223372036854775808) : (BitVec.ofInt 64 (n : Int)).toNat = n := by
  rw [BitVec.ofInt_natCast, BitVec.toNat_ofNat]; exact Nat.mod_eq_of_lt (by omega)
theorem and127 (m : Nat) (h : m < 9223372036854775808) : bits .and .i64 (m : Int) 127 = ((m % 128 : Nat) : Int) := by
  show IntKind.i64.wrap ((BitVec.ofInt 64 (m : Int) &&& BitVec.ofInt 64 ((127 : Nat) : Int)).toNat : Int) = _
  rw [BitVec.toNat_and, ofi64 m h, ofi64 127 (by omega), nat_mask7, IntKind.wrap_i64]
  omega
theorem or128 (q : Nat) (h : q < 128) : bits .or .i64 (q : Int) 128 = ((q + 128 : Nat) : Int) := by
  have e : q ||| 128 = q + 128 := by
    have h1 := nat_join 7 128 q (by omega) (by omega)
    rw [Nat.or_comm] at h1
    omega
  show IntKind.i64.wrap ((BitVec.ofInt 64 (q : Int) ||| BitVec.ofInt 64 ((128 : Nat) : Int)).toNat : Int) = _
  rw [BitVec.toNat_or, ofi64 q (by omega), ofi64 128 (by omega), e, IntKind.wrap_i64]
  omega
theorem byte_eq {p : Nat} (h : p < 256) : (p : Int) = ((UInt8.ofNat p).toNat : Int) := by rw [ofNat_toNat h]
set_option maxRecDepth 100000 in
set_option maxHeartbeats 400000 in
theorem appendNum_any (base : Nat) (v : Value) (l0 : List UInt8) (N : Nat) (w : World) (hown0 : Own w base v l0) (hbase : base ≤ w.heap.size) (hl : l0.length ≤ 1000000000) (hN : N ≤ 9223372036854775807) :
    Calls Tryd.prog 84 #[v, .int .i64 (N : Int)] w fun e w' => ∃ v', e = .returned v' ∧ Own w' base v' (l0 ++ numB N) ∧ Below base w w' := by
  have hNl := numB_le hN
  have HN := Lib.hid hN
  clear hN
  go_enter Tryd.func84, Tryd.ntmps84
  go_wp2
  go_loopw [0, 1] (fun s r wr => ∃ (l : List UInt8) (m : Nat), r = .int .i64 (m : Int) ∧ m ≤ N ∧ l ++ numB m = l0 ++ numB N ∧ Own wr base s l ∧ base ≤ wr.heap.size ∧ Below base w wr) (fun _ r _ => (intOf r).toNat)
  case atStart => exact ⟨l0, N, rfl, Nat.le_refl _, rfl, hown0, hbase, Below.refl _ _⟩
  case round =>
    obtain ⟨l, m, rfl, hm, heq, hown, hbs, hb⟩ := hrel
    have hlen : l.length + (numB m).length = l0.length + (numB N).length := by rw [← List.length_append, heq, List.length_append]
    have hll : l.length ≤ 1000000010 := by omega
    by_cases hlt : m < 128
    · have HP := Lib.hid (byte_eq (p := m) (by omega))
      rw [numB_small hlt] at heq
      have HE := Lib.hid heq
      clear heq hlen hNl hown0
      go_wp2_with (at_builtin; refine wpList_app _ rfl (.tmp 16) (.tmp 19) _ rfl base _ l rfl (hown.alloc _) _ [UInt8.ofNat m] rfl (src_of_rd 1 (rd_one _ HP.out)) (by simp only [List.length_cons, List.length_nil]; omega) (by simp; omega) ?_; intro v1 w1 hown1 hb1)
      refine bodyPost_ret (v := v1) (by simp [results, Tryd.results84, go_sem]) rfl ⟨v1, rfl, ?_, (hb.alloc hbs _).trans hb1⟩
      rw [← HE.out]
      exact hown1
    · obtain ⟨q, hq⟩ : ∃ q, q = m % 128 := ⟨_, rfl⟩
      have hql : q < 128 := by omega
      have e1 : bits .and .i64 (m : Int) 127 = (q : Int) := by rw [hq]; exact and127 m (by have := HN.out; omega)
      obtain ⟨p, hp⟩ : ∃ p, p = q + 128 := ⟨_, rfl⟩
      have hpl : p < 256 := by omega
      have e2 : bits .or .i64 (q : Int) 128 = (p : Int) := by rw [hp]; exact or128 q hql
      rw [numB_great hlt, ← hq, ← hp] at heq
      have HP := Lib.hid (byte_eq (p := p) hpl)
      have HE := Lib.hid heq
      clear heq hlen hNl hown0 hq hp
      go_wp2_with (at_builtin; refine wpList_app _ rfl (.tmp 7) (.tmp 12) _ rfl base _ l rfl (hown.alloc _) _ [UInt8.ofNat p] rfl (src_of_rd 1 (rd_one _ HP.out)) (by simp only [List.length_cons, List.length_nil]; omega) (by simp; omega) ?_; intro v1 w1 hown1 hb1)
      go_roundw
      case rel => exact ⟨l ++ [UInt8.ofNat p], m / 128, by go_num, by omega, by rw [← HE.out, List.append_assoc]; rfl, hown1, Nat.le_trans (by simp; omega) hb1.size, (hb.alloc hbs _).trans hb1⟩
      case measure => simp [intOf]; omega
end Go.Proofs.YtimmnmidhjbanaaDoor
