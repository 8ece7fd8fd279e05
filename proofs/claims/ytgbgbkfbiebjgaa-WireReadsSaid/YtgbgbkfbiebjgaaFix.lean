/- wire.appendFixed, wire.fixed: numbers in so many bytes. -/
import Derived.Test.YtgbgbkfbiebjgaaNum
namespace Go.Proofs.Ytgbgbkfbiebjgaa
open Go.RowKit
theorem or_shl (U n k : Nat) (hk : k ≤ 6) (hU : U < 256 ^ k) (hn : n < 256) : bits .or .i64 (U : Int) (wrap64 ((n : Int) * 2 ^ (8 * k))) = ((U + n * 256 ^ k : Nat) : Int) := by
  have hp : (256 : Nat) ^ k = 2 ^ (8 * k) := by rw [Nat.pow_mul]
  have hp6 : 2 ^ (8 * k) ≤ 281474976710656 := Nat.le_trans (Nat.pow_le_pow_right (by omega) (show 8 * k ≤ 48 by omega)) (by decide)
  rw [hp] at hU ⊢
  have e1 : (n : Int) * 2 ^ (8 * k) = ((n * 2 ^ (8 * k) : Nat) : Int) := by rw [Int.natCast_mul, Int.natCast_pow]; rfl
  have hm : n * 2 ^ (8 * k) ≤ 255 * 281474976710656 := Nat.mul_le_mul (by omega) hp6
  have hj := nat_join (8 * k) (n * 2 ^ (8 * k)) U (Nat.mul_mod_left _ _) hU
  rw [e1]
  generalize n * 2 ^ (8 * k) = x at hm hj ⊢
  generalize 2 ^ (8 * k) = y at hU hp6
  rw [IntWalk.wrap64_in _ ⟨by omega, by omega⟩]
  show IntKind.i64.wrap ((BitVec.ofInt 64 (U : Int) ||| BitVec.ofInt 64 (x : Int)).toNat : Int) = _
  rw [BitVec.toNat_or, ofi64 U (by omega), ofi64 x (by omega), Nat.or_comm, hj, IntKind.wrap_i64]
  omega
set_option maxRecDepth 100000 in
set_option maxHeartbeats 400000 in
theorem appendFixed_any (base : Nat) (v : Value) (l0 : List UInt8) (N k : Nat) (w : World) (hown0 : Own w base v l0) (hbase : base ≤ w.heap.size) (hl : l0.length ≤ 1000000000) (hk : k ≤ 8) :
    Calls Try.prog 42 #[v, .int .i64 (N : Int), .int .i64 (k : Int)] w fun e w' => ∃ v', e = .returned v' ∧ Own w' base v' (l0 ++ fixB k N) ∧ Below base w w' := by
  go_enter Try.func42, Try.ntmps42
  go_wp2
  go_loopw [0, 1, 8] (fun s r i wr => ∃ (l : List UInt8) (m j : Nat), r = .int .i64 (m : Int) ∧ i = .int .i64 (j : Int) ∧ j ≤ k ∧ l.length = l0.length + j ∧ l ++ fixB (k - j) m = l0 ++ fixB k N ∧ Own wr base s l ∧ base ≤ wr.heap.size ∧ Below base w wr) (fun _ _ i _ => k - (intOf i).toNat)
  case atStart => exact ⟨l0, N, 0, rfl, rfl, Nat.zero_le _, rfl, rfl, hown0, hbase, Below.refl _ _⟩
  case round =>
    obtain ⟨l, m, j, rfl, rfl, hj, hlj, heq, hown, hbs, hb⟩ := hrel
    have hll : l.length ≤ 1000000010 := by omega
    have HJ := Lib.hid hlj
    clear hlj
    by_cases hlt : j < k
    · obtain ⟨d, hd⟩ : ∃ d, k - j = d + 1 := ⟨k - j - 1, by omega⟩
      have hd2 : k - (j + 1) = d := by omega
      rw [hd] at heq
      have hrest : (l ++ [UInt8.ofNat (m % 256)]) ++ fixB (k - (j + 1)) (m / 256) = l0 ++ fixB k N := by rw [hd2, ← heq, List.append_assoc]; rfl
      have HR := Lib.hid hrest
      have HP := Lib.hid (byte_eq (p := m % 256) (by omega))
      clear hrest hd hd2 heq hown0
      go_wp2_with (at_builtin; refine wpList_app _ rfl (.tmp 10) (.tmp 13) _ rfl base _ l rfl (hown.alloc _) _ [UInt8.ofNat (m % 256)] rfl (src_of_rd 1 (rd_one _ HP.out)) (by simp only [List.length_cons, List.length_nil]; omega) (by simp; omega) ?_; intro v1 w1 hown1 hb1)
      go_roundw
      case rel => exact ⟨l ++ [UInt8.ofNat (m % 256)], m / 256, j + 1, by go_num, by go_num, by omega, by rw [List.length_append, HJ.out]; rfl, HR.out, hown1, Nat.le_trans (by simp; omega) hb1.size, (hb.alloc hbs _).trans hb1⟩
      case measure => simp [intOf]; omega
    · obtain rfl : j = k := by omega
      rw [Nat.sub_self] at heq
      have HE := Lib.hid (show l = l0 ++ fixB j N by rw [← heq]; simp [fixB])
      clear heq hown0
      go_wp2
      go_ret
      refine ⟨_, rfl, ?_, hb⟩
      rw [← HE.out]
      exact hown
set_option maxRecDepth 100000 in
set_option maxHeartbeats 400000 in
theorem fixed_any (A : Option Addr) (cap : Nat) (l : List UInt8) (w : World) (h : Rd w w.heap.size A l) (hl : l.length ≤ 7) :
    Calls Try.prog 43 #[.slice A l.length cap] w fun e w' => e = .returned (.int .i64 ((unfix l : Nat) : Int)) ∧ w = w' := by
  go_enter Try.func43, Try.ntmps43
  go_wp2
  go_loop [3, 8] (fun r i => ∃ k : Nat, k ≤ l.length ∧ i = .int .i64 k ∧ r = .int .i64 ((unfix (l.take k) : Nat) : Int)) (fun _ i => l.length - (intOf i).toNat)
  case atStart => exact ⟨0, by omega, rfl, rfl⟩
  case round =>
    obtain ⟨k, hk, rfl, rfl⟩ := hrel
    by_cases hlt : k < l.length
    · obtain ⟨b, off, rfl, hbB, hcells⟩ := h.at_ hlt
      have hcell := hcells k hlt
      have hb8 := l[k].toNat_lt
      obtain ⟨n, hn⟩ : ∃ n, n = l[k].toNat := ⟨_, rfl⟩
      rw [← hn] at hcell hb8
      have hb8' : n < 256 := hb8
      have hU : unfix (l.take k) < 256 ^ k := by
        have := unfix_lt (l.take k)
        rwa [List.length_take, Nat.min_eq_left (by omega)] at this
      have hx := or_shl (unfix (l.take k)) n k (by omega) hU hb8'
      have ht := unfix_take l k hlt
      rw [← hn] at ht
      rw [← ht] at hx
      have HX := Lib.hid hx
      clear hcells h hn hb8 hx ht hU
      go_wp2
      go_round
      case rel => exact ⟨k + 1, by omega, by go_num, by rw [HX.out]⟩
      case measure => simp [intOf]; omega
    · obtain rfl : k = l.length := by omega
      go_wp2
      go_ret
      exact ⟨rfl, rfl⟩
end Go.Proofs.Ytgbgbkfbiebjgaa
