/- wire.nibbles and wire.Sum. -/
import Derived.Test.YtgbgbkfbiebjgaaBase
import Derived.Test.YtgbgbkfbiebjgaaCrc
import Derived.Laws.Tables
import Derived.Laws.CopyOwn
namespace Go.Proofs.Ytgbgbkfbiebjgaa
open Go.RowKit
/-- The table behind k rounds. -/
def tabTo (k : Nat) : Array Value := ((List.range 16).map fun i => Value.int .u32 (if i < k then (Crc.steps 4 i : Nat) else 0)).toArray
theorem tabTo_size (k : Nat) : (tabTo k).size = 16 := by simp [tabTo]
theorem tabTo_zero : tabTo 0 = #[.int .u32 0, .int .u32 0, .int .u32 0, .int .u32 0, .int .u32 0, .int .u32 0, .int .u32 0, .int .u32 0, .int .u32 0, .int .u32 0, .int .u32 0, .int .u32 0, .int .u32 0, .int .u32 0, .int .u32 0, .int .u32 0] := by rfl
theorem tabTo_at (k i : Nat) (h : i < 16) : (tabTo k)[i]? = some (.int .u32 (if i < k then (Crc.steps 4 i : Nat) else 0)) := by
  simp [tabTo, h]
theorem tabTo_next (k : Nat) (h : k < 16) : (tabTo k).setIfInBounds k (.int .u32 ((Crc.steps 4 k : Nat) : Int)) = tabTo (k + 1) := by
  apply Array.ext_getElem?
  intro i
  rw [Array.getElem?_setIfInBounds]
  by_cases hi : i < 16
  · rw [tabTo_at k i hi, tabTo_at (k + 1) i hi, tabTo_size]
    by_cases e : k = i
    · subst e; simp [h]
    · rw [if_neg e]
      by_cases h1 : i < k
      · simp [h1, show i < k + 1 from by omega]
      · simp [h1, show ¬ i < k + 1 from by omega]
  · rw [Array.getElem?_eq_none (by rw [tabTo_size]; omega), Array.getElem?_eq_none (by rw [tabTo_size]; omega), tabTo_size]
    simp [show ¬ k = i from by omega]
set_option maxHeartbeats 400000 in
theorem nibbles_any (w : World) :
    Calls Try.prog 40 #[] w fun e w' => e = .returned (.agg (tabTo 16)) ∧ Below w.heap.size w w' := by
  have h0 : Whole ((w.alloc (.cells (tabTo 0) 68)).alloc (.cells (tabTo 0) 68)) w.heap.size 68 (tabTo 0) := (Whole.new w _ _).alloc _
  have h1 : Whole ((w.alloc (.cells (tabTo 0) 68)).alloc (.cells (tabTo 0) 68)) (w.heap.size + 1) 68 (tabTo 0) := by
    have := Whole.new (w.alloc (.cells (tabTo 0) 68)) 68 (tabTo 0)
    simpa using this
  have hb : Below w.heap.size w ((w.alloc (.cells (tabTo 0) 68)).alloc (.cells (tabTo 0) 68)) := ((Below.refl _ _).alloc (Nat.le_refl _) _).alloc (by simp) _
  rw [tabTo_zero] at hb
  have H0 := Lib.hid h0; clear h0
  have H1 := Lib.hid h1; clear h1
  go_enter Try.func40, Try.ntmps40
  go_wp2
  go_loopw [5] (fun i wr => ∃ k : Nat, k ≤ 16 ∧ i = .int .i64 k ∧ Whole wr w.heap.size 68 (tabTo 0) ∧ Whole wr (w.heap.size + 1) 68 (tabTo k) ∧ Below w.heap.size w wr) (fun i _ => 16 - (intOf i).toNat)
  case atStart => exact ⟨0, by omega, rfl, H0.out, H1.out, hb⟩
  case round =>
    obtain ⟨k, hk, rfl, hz, ht, hbw⟩ := hrel
    clear H0 H1 hb
    by_cases hlt : k < 16
    · go_wp2
      go_loop [3, 10] (fun r j => ∃ m : Nat, m ≤ 4 ∧ j = .int .i64 m ∧ r = .int .u32 ((Crc.steps m k : Nat) : Int)) (fun _ j => 4 - (intOf j).toNat)
      case atStart => exact ⟨0, by omega, rfl, rfl⟩
      case round =>
        obtain ⟨m, hm, rfl, rfl⟩ := hrel
        obtain ⟨c, hc⟩ : ∃ c, c = Crc.steps m k := ⟨_, rfl⟩
        have hcl : c < 4294967296 := by rw [hc]; exact Crc.steps_lt _ (by omega)
        rw [← hc]
        have HC := Lib.hid hc; clear hc
        by_cases hm4 : m < 4
        · by_cases hp : c % 2 = 1
          · have e1 : bits .and .u32 (c : Int) 1 = 1 := by
              have := u32_and_nat c 1 hcl (by omega)
              rw [nat_mask1, hp] at this
              exact this
            have hs : Hid (Crc.steps (m + 1) k = (c / 2) ^^^ Crc.poly) := by
              show Crc.steps (m + 1) k = _
              rw [Crc.steps_succ, ← HC.out, Crc.step, if_pos hp]
            have hx : bits .xor .u32 ((c : Int) / 2) 3988292384 = ((c / 2 ^^^ Crc.poly : Nat) : Int) := u32_xor_nat (c / 2) 3988292384 (by omega) (by omega)
            go_wp2
            go_round
            case rel => exact ⟨m + 1, by omega, by go_num, by rw [hs.out]⟩
            case measure => simp [intOf]; omega
          · have e1 : bits .and .u32 (c : Int) 1 = 0 := by
              have := u32_and_nat c 1 hcl (by omega)
              rw [nat_mask1, show c % 2 = 0 from by omega] at this
              exact this
            have hs : Hid (Crc.steps (m + 1) k = c / 2) := by
              show Crc.steps (m + 1) k = _
              rw [Crc.steps_succ, ← HC.out, Crc.step, if_neg hp]
            go_wp2
            go_round
            case rel => exact ⟨m + 1, by omega, by go_num, by rw [hs.out]; go_num⟩
            case measure => simp [intOf]; omega
        · have hcell : wr.cell? ⟨w.heap.size + 1, k, none⟩ = some (.int .u32 0) := by
            rw [ht.cell, tabTo_at k k hlt]; simp
          have hfree := ht.frozen k
          have hset := ht.set_ k (.int .u32 (c : Int))
          have hn : c = Crc.steps 4 k := by rw [HC.out, show m = 4 from by omega]
          rw [hn, tabTo_next k hlt, ← hn] at hset
          have HN := Lib.hid hn; clear hn
          go_wp2
          go_roundw
          case rel => exact ⟨k + 1, by omega, by go_num, hz.far (p := ⟨w.heap.size + 1, k, none⟩) (by simp) _, hset, hbw.setCell (p := ⟨w.heap.size + 1, k, none⟩) (by simp) _⟩
          case measure => simp [intOf]; omega
    · obtain rfl : k = 16 := by omega
      go_wp2_with (first | (refine wpList_load_row rfl 68 _ rfl (w.heap.size + 1) rfl 68 _ (0, 0) _ ht Try.underlying68 rfl (by kernel_rfl) ?_) | (refine wpList_store_row rfl 68 _ _ rfl w.heap.size (tabTo 16) rfl rfl 68 _ hz (by kernel_rfl) (by kernel_rfl) (by kernel_rfl) ?_))
      have hrow : (wr.setRow w.heap.size (tabTo 16)).heap[w.heap.size]? = some (.cells (tabTo 16) 68 (0, 0)) := setRow_heap wr _ _ _ _ _ hz
      refine bodyPost_ret (results_cell_row rfl _ _ w.heap.size 68 (tabTo 16) (0, 0) _ rfl hrow Try.underlying68 rfl (by kernel_rfl)) rfl ⟨rfl, ?_⟩
      exact below_setRow hbw (Nat.le_refl _) _
end Go.Proofs.Ytgbgbkfbiebjgaa
