/- wire.Sum: the sum of any bytes. -/
import Derived.Test.YtgbgbkfbiebjgaaSum1
namespace Go.Proofs.Ytgbgbkfbiebjgaa
open Go.RowKit
theorem tab_at (i : Nat) (h : i < 16) : (tabTo 16)[i]? = some (.int .u32 ((Crc.steps 4 i : Nat) : Int)) := by rw [tabTo_at 16 i h, if_pos h]
set_option maxHeartbeats 800000 in
theorem sum_any (A : Option Addr) (cap : Nat) (l : List UInt8) (w : World) (h : Rd w w.heap.size A l) (hl : l.length ≤ 1000000000) :
    Calls Try.prog 13 #[.slice A l.length cap] w fun e w' => e = .returned (.int .i64 ((Crc.sum l : Nat) : Int)) ∧ Below w.heap.size w w' := by
  go_enter Try.func13, Try.ntmps13
  go_wp2_with (first | (go_at_call 40; refine (nibbles_any _).mono ?_; rintro e w1 ⟨rfl, hb1⟩) | (refine wpList_store_row rfl 68 _ _ rfl w1.heap.size (tabTo 16) rfl rfl 68 _ (heap_alloc_new _ _) (by kernel_rfl) (by kernel_rfl) (by kernel_rfl) ?_))
  have hz1 : w.heap.size ≤ w1.heap.size := hb1.size
  obtain ⟨w2, h2⟩ : ∃ w2, w2 = (w1.alloc (.cells #[.int .u32 0, .int .u32 0, .int .u32 0, .int .u32 0, .int .u32 0, .int .u32 0, .int .u32 0, .int .u32 0, .int .u32 0, .int .u32 0, .int .u32 0, .int .u32 0, .int .u32 0, .int .u32 0, .int .u32 0, .int .u32 0] 68)).setRow w1.heap.size (tabTo 16) := ⟨_, rfl⟩
  rw [← h2]
  have hb2 : Below w.heap.size w w2 := by
    rw [h2]
    exact below_setRow (hb1.alloc hb1.size _) hb1.size _
  have ht : Whole w2 w1.heap.size 68 (tabTo 16) := by
    rw [h2]
    exact setRow_heap _ _ _ _ _ _ (heap_alloc_new _ _)
  have HT := Lib.hid ht
  clear h2 ht hb1
  have hr : Rd w2 w.heap.size A l := h.below hb2 (Nat.le_refl _)
  go_loop [4, 10] (fun r i => ∃ k : Nat, k ≤ l.length ∧ i = .int .i64 k ∧ r = .int .u32 ((Crc.reg 4294967295 (l.take k) : Nat) : Int)) (fun _ i => l.length - (intOf i).toNat)
  case atStart => exact ⟨0, by omega, rfl, rfl⟩
  case round =>
    obtain ⟨k, hk, rfl, rfl⟩ := hrel
    obtain ⟨c, hc⟩ : ∃ c, c = Crc.reg 4294967295 (l.take k) := ⟨_, rfl⟩
    have hcl : c < 4294967296 := by rw [hc]; exact Crc.reg_lt (by omega) _
    rw [← hc]
    by_cases hlt : k < l.length
    · obtain ⟨b, off, rfl, hbB, hcells⟩ := hr.at_ hlt
      have hcell := hcells k hlt
      have hnext := Crc.reg_take 4294967295 l k hlt
      rw [← hc] at hnext
      have hb8 := l[k].toNat_lt
      obtain ⟨n, hn⟩ : ∃ n, n = l[k].toNat := ⟨_, rfl⟩
      rw [← hn] at hcell hnext hb8
      clear hcells h hr hn hc
      have hxl : c ^^^ n < 4294967296 := Nat.xor_lt_two_pow (n := 32) hcl (by omega)
      have f1 : bits .xor .u32 (c : Int) (n : Int) = ((c ^^^ n : Nat) : Int) := u32_xor_nat c n hcl (by omega)
      obtain ⟨x, hx⟩ : ∃ x, x = c ^^^ n := ⟨_, rfl⟩
      rw [← hx] at hxl f1 hnext
      clear hx
      have f2 : bits .and .u32 (x : Int) 15 = ((x % 16 : Nat) : Int) := by
        have := u32_and_nat x 15 hxl (by omega)
        rw [nat_mask4] at this
        exact this
      obtain ⟨p, hp⟩ : ∃ p, p = x % 16 := ⟨_, rfl⟩
      have hp16 : p < 16 := by omega
      have hx16 : x / 16 < 268435456 := by omega
      have hy := Crc.nibble x
      have hz := Crc.two_nibbles x
      rw [← hp] at f2 hy
      clear hp
      have g1 : w2.cell? ⟨w1.heap.size, p, none⟩ = some (.int .u32 ((Crc.steps 4 p : Nat) : Int)) := by rw [HT.out.cell, tab_at p hp16]
      have ht1 : Crc.steps 4 p < 4294967296 := Crc.steps_lt 4 (by omega)
      obtain ⟨t1, ht1e⟩ : ∃ t1, t1 = Crc.steps 4 p := ⟨_, rfl⟩
      rw [← ht1e] at g1 ht1 hy
      clear ht1e
      have f3 : bits .xor .u32 ((x : Int) / 16) (t1 : Int) = ((x / 16 ^^^ t1 : Nat) : Int) := u32_xor_nat (x / 16) t1 (by omega) ht1
      rw [← hy] at f3
      have hyl : Crc.steps 4 x < 4294967296 := Crc.steps_lt 4 hxl
      obtain ⟨y, hye⟩ : ∃ y, y = Crc.steps 4 x := ⟨_, rfl⟩
      rw [← hye] at f3 hyl hz
      clear hye hy
      have f4 : bits .and .u32 (y : Int) 15 = ((y % 16 : Nat) : Int) := by
        have := u32_and_nat y 15 hyl (by omega)
        rw [nat_mask4] at this
        exact this
      obtain ⟨q, hq⟩ : ∃ q, q = y % 16 := ⟨_, rfl⟩
      have hq16 : q < 16 := by omega
      rw [← hq] at f4 hz
      clear hq
      have g2 : w2.cell? ⟨w1.heap.size, q, none⟩ = some (.int .u32 ((Crc.steps 4 q : Nat) : Int)) := by rw [HT.out.cell, tab_at q hq16]
      have ht2 : Crc.steps 4 q < 4294967296 := Crc.steps_lt 4 (by omega)
      obtain ⟨t2, ht2e⟩ : ∃ t2, t2 = Crc.steps 4 q := ⟨_, rfl⟩
      rw [← ht2e] at g2 ht2 hz
      clear ht2e
      have f5 : bits .xor .u32 ((y : Int) / 16) (t2 : Int) = ((y / 16 ^^^ t2 : Nat) : Int) := u32_xor_nat (y / 16) t2 (by omega) ht2
      rw [← hz, ← hnext] at f5
      have HN := Lib.hid hnext; clear hnext hz
      go_wp2
      go_round
      case rel => exact ⟨k + 1, by omega, by go_num, rfl⟩
      case measure => simp [intOf]; omega
    · obtain rfl : k = l.length := by omega
      rw [List.take_length] at hc
      have hend : wrap64 (bits .xor .u32 IntKind.u32.max ((Crc.reg 4294967295 l : Nat) : Int)) = ((Crc.sum l : Nat) : Int) := by
        rw [show IntKind.u32.max = ((4294967295 : Nat) : Int) from rfl, u32_xor_nat 4294967295 _ (by omega) (Crc.reg_lt (by omega) l), Nat.xor_comm]
        have := Crc.sum_lt l
        exact IntWalk.wrap64_in _ ⟨by unfold Crc.sum at *; omega, by unfold Crc.sum at *; omega⟩
      rw [← hc] at hend
      have HE := Lib.hid hend
      clear hend hc
      go_wp2
      go_ret
      exact ⟨ret_int HE.out, hb2⟩
end Go.Proofs.Ytgbgbkfbiebjgaa
