/- gleberef01.Sum: the document's sum, bit by bit, is the same number. -/
import Derived.Test.YtgbgbkfbiebjgaaSum2
import Derived.Laws.BitsLemmas
namespace Go.Proofs.Ytgbgbkfbiebjgaa
open Go.RowKit
theorem i64_xor_nat (a b : Nat) (ha : a < 4294967296) (hb : b < 4294967296) : bits .xor .i64 (a : Int) (b : Int) = ((a ^^^ b : Nat) : Int) := by
  have hx : a ^^^ b < 2 ^ 32 := Nat.xor_lt_two_pow ha hb
  have ofi : ∀ n : Nat, n < 4294967296 → (BitVec.ofInt 64 (n : Int)).toNat = n := fun n hn => by
    rw [BitVec.ofInt_natCast, BitVec.toNat_ofNat]; exact Nat.mod_eq_of_lt (by omega)
  show IntKind.i64.wrap ((BitVec.ofInt 64 (a : Int) ^^^ BitVec.ofInt 64 (b : Int)).toNat : Int) = _
  rw [BitVec.toNat_xor, ofi a ha, ofi b hb, IntKind.wrap_i64]
  omega
theorem bit_int (n m : Nat) (hn : n < 256) : (wrap64 ((n : Int) / 2 ^ m)).tmod 2 = ((n / 2 ^ m % 2 : Nat) : Int) := by
  have e : (n : Int) / 2 ^ m = ((n / 2 ^ m : Nat) : Int) := by rw [Int.natCast_ediv, Int.natCast_pow]; rfl
  have hle := Nat.div_le_self n (2 ^ m)
  rw [e]
  generalize n / 2 ^ m = q at hle ⊢
  rw [IntWalk.wrap64_in _ ⟨by omega, by omega⟩, Int.tmod_eq_emod_of_nonneg (by omega)]
  omega
theorem bit_unlike {r n m : Nat} (hn : n < 256) (h : ((r : Int) % 2 != (wrap64 ((n : Int) / 2 ^ m)).tmod 2) = true) : ¬ r % 2 = n / 2 ^ m % 2 := by
  rw [bit_int n m hn, bne_iff_ne] at h
  omega
theorem bit_alike {r n m : Nat} (hn : n < 256) (h : ((r : Int) % 2 != (wrap64 ((n : Int) / 2 ^ m)).tmod 2) = false) : r % 2 = n / 2 ^ m % 2 := by
  rw [bit_int n m hn, bne_eq_false_iff_eq] at h
  omega
set_option maxHeartbeats 800000 in
theorem refsum_any (A : Option Addr) (cap : Nat) (l : List UInt8) (w : World) (h : Rd w w.heap.size A l) (hl : l.length ≤ 1000000000) :
    Calls Try.prog 14 #[.slice A l.length cap] w fun e w' => e = .returned (.int .i64 ((Crc.sum l : Nat) : Int)) ∧ w = w' := by
  go_enter Try.func14, Try.ntmps14
  go_wp2
  go_loop [3, 4] (fun r i => ∃ k : Nat, k ≤ l.length ∧ i = .int .i64 k ∧ r = .int .i64 ((Crc.reg 4294967295 (l.take k) : Nat) : Int)) (fun _ i => l.length - (intOf i).toNat)
  case atStart => exact ⟨0, by omega, rfl, rfl⟩
  case round =>
    obtain ⟨k, hk, rfl, rfl⟩ := hrel
    obtain ⟨c, hc⟩ : ∃ c, c = Crc.reg 4294967295 (l.take k) := ⟨_, rfl⟩
    have hcl : c < 4294967296 := by rw [hc]; exact Crc.reg_lt (by omega) _
    rw [← hc]
    by_cases hlt : k < l.length
    · obtain ⟨b, off, rfl, hbB, hcells⟩ := h.at_ hlt
      have hcell := hcells k hlt
      have hnext := Crc.reg_take 4294967295 l k hlt
      rw [← hc] at hnext
      have hb8 := l[k].toNat_lt
      obtain ⟨n, hn⟩ : ∃ n, n = l[k].toNat := ⟨_, rfl⟩
      rw [← hn] at hcell hnext hb8
      have hb8' : n < 256 := hb8
      clear hcells h hn hc hb8
      have HN := Lib.hid hnext; clear hnext
      go_wp2
      go_loop [3, 5] (fun r j => ∃ m : Nat, m ≤ 8 ∧ j = .int .i64 m ∧ r = .int .i64 ((Crc.bitwise c n m : Nat) : Int)) (fun _ j => 8 - (intOf j).toNat)
      case atStart => exact ⟨0, by omega, rfl, by rw [Crc.bitwise_zero]⟩
      case round =>
        obtain ⟨m, hm, rfl, rfl⟩ := hrel
        have hnx := Crc.bitwise_next c n m
        have hrl := Crc.bitwise_lt hcl hb8' m
        obtain ⟨r, hr⟩ : ∃ r, r = Crc.bitwise c n m := ⟨_, rfl⟩
        rw [← hr] at hnx hrl ⊢
        by_cases hm8 : m < 8
        · have HR := Lib.hid hr; clear hr
          have HX := Lib.hid hnx; clear hnx
          go_wp2
          · have ht : ((r : Int) % 2 != (wrap64 ((n : Int) / 2 ^ m)).tmod 2) = true := by assumption
            have hu := bit_unlike hb8' ht
            have hv : Crc.bitwise c n (m + 1) = r / 2 ^^^ Crc.poly := by rw [HX.out, Crc.step_bit r _ (by omega), if_neg hu]
            have hx : bits .xor .i64 ((r : Int) / 2) 3988292384 = ((r / 2 ^^^ Crc.poly : Nat) : Int) := i64_xor_nat (r / 2) 3988292384 (by omega) (by omega)
            go_round
            case rel => exact ⟨m + 1, by omega, by go_num, by rw [hv, ← hx]⟩
            case measure => simp [intOf]; omega
          · have ht : ((r : Int) % 2 != (wrap64 ((n : Int) / 2 ^ m)).tmod 2) = false := by assumption
            have hu := bit_alike hb8' ht
            have hv : Crc.bitwise c n (m + 1) = r / 2 := by rw [HX.out, Crc.step_bit r _ (by omega), if_pos hu]
            go_round
            case rel => exact ⟨m + 1, by omega, by go_num, by rw [hv]; go_num⟩
            case measure => simp [intOf]; omega
        · obtain rfl : m = 8 := by omega
          have HR := Lib.hid hr; clear hr
          clear hnx
          go_wp2
          go_round
          case rel => exact ⟨k + 1, by omega, by go_num, by rw [HR.out, HN.out, Crc.bitwise_eight _ _ hb8']⟩
          case measure => simp [intOf]; omega
    · obtain rfl : k = l.length := by omega
      rw [List.take_length] at hc
      have hend : bits .xor .i64 (c : Int) 4294967295 = ((Crc.sum l : Nat) : Int) := by
        rw [hc]
        exact i64_xor_nat _ 4294967295 (Crc.reg_lt (by omega) l) (by omega)
      have HE := Lib.hid hend
      clear hend hc
      go_wp2
      go_ret
      exact ⟨ret_int HE.out, rfl⟩
end Go.Proofs.Ytgbgbkfbiebjgaa
