/- gleberef02: sides, cells, moves and numbers, as the document has them. -/
import Derived.Test.YtgnhamhkpbadbaaTDist
namespace Go.Proofs.Ytgnhamhkpbadbaa
open Go.RowKit
theorem refRight_any (k : Int) (w : World) : Calls Try.prog 47 #[.int .i64 k] w fun e w' => e = .returned (.bool (rgt k)) ∧ w = w' := by
  cases h : rgt k with
  | true =>
    obtain ⟨h1, h2⟩ := (rgt_iff k).1 h
    clear h
    go_enter Try.func47, Try.ntmps47
    go_wp2
    go_ret
    exact ⟨rfl, rfl⟩
  | false =>
    have h3 : ¬ (1 ≤ k ∧ k ≤ 16) := fun e => by rw [(rgt_iff k).2 e] at h; cases h
    by_cases h1 : 1 ≤ k
    · have h2 : ¬ k ≤ 16 := fun e => h3 ⟨h1, e⟩
      clear h h3
      go_enter Try.func47, Try.ntmps47
      go_wp2
      go_ret
      exact ⟨rfl, rfl⟩
    · clear h h3
      go_enter Try.func47, Try.ntmps47
      go_wp2
      go_ret
      exact ⟨rfl, rfl⟩
theorem refRight_at {k : Int} {b : Bool} (h : rgt k = b) (w : World) : Calls Try.prog 47 #[.int .i64 k] w fun e w' => e = .returned (.bool b) ∧ w = w' := h ▸ refRight_any k w
set_option maxHeartbeats 400000 in
theorem refSide_any (k : Int) (w : World) : Calls Try.prog 78 #[.int .i64 k] w fun e w' => e = .returned (.int .i64 (side k)) ∧ w = w' := by
  cases h : rgt k with
  | false =>
    rw [side_no h]
    replace h := Lib.hid h
    go_enter Try.func78, Try.ntmps78
    go_wp2_with (go_at_call 47; (with_reducible refine (refRight_at h.out _).mono ?_); rintro e w' ⟨rfl, rfl⟩)
    go_ret
    exact ⟨rfl, rfl⟩
  | true =>
    obtain ⟨n, hk, hn, hs⟩ := side_nat h
    obtain ⟨S, hS⟩ : ∃ S, side k = S := ⟨_, rfl⟩
    rw [hS] at hs ⊢
    have HS := Lib.hid hs
    replace h := Lib.hid h
    have HK := Lib.hid hk
    clear hs hk hS
    go_enter Try.func78, Try.ntmps78
    go_wp2_with (go_at_call 47; (with_reducible refine (refRight_at h.out _).mono ?_); rintro e w' ⟨rfl, rfl⟩)
    go_loop [3, 4] (fun s c => ∃ i : Nat, i ≤ n + 1 ∧ c = .int .i64 i ∧ s = .int .i64 ((2 ^ i : Nat) : Int)) (fun _ c => n + 1 - (intOf c).toNat)
    case atStart => exact ⟨0, Nat.zero_le _, rfl, rfl⟩
    case round =>
      obtain ⟨i, hi, rfl, rfl⟩ := hrel
      have hp : 2 ^ i ≤ 65536 := Nat.pow_le_pow_right (n := 2) (by omega) (show i ≤ 16 by omega)
      by_cases hlt : i < n + 1
      · have e1 : (2 : Nat) ^ (i + 1) = 2 ^ i * 2 := Nat.pow_succ 2 i
        have hlt2 : (i : Int) < k := by have := HK.out; omega
        obtain ⟨P, hP⟩ : ∃ P, 2 ^ i = P := ⟨_, rfl⟩
        rw [hP] at hp e1 ⊢
        have E1 := Lib.hid e1
        clear e1 hP
        go_wp2
        go_round
        case rel => exact ⟨i + 1, by omega, by go_num, by rw [E1.out]; go_num⟩
        case measure => simp [intOf]; omega
      · have hlt2 : ¬ (i : Int) < k := by have := HK.out; omega
        obtain ⟨P, hP⟩ : ∃ P, 2 ^ i = P := ⟨_, rfl⟩
        have hPS : (P : Int) = S := by
          have := HS.out
          rw [show n + 1 = i by omega, hP] at this
          exact this.symm
        rw [hP]
        have HPS := Lib.hid hPS
        clear hP hPS
        go_wp2
        go_ret
        exact ⟨ret_int HPS.out, rfl⟩
theorem refSide_at {k s : Int} (h : side k = s) (w : World) : Calls Try.prog 78 #[.int .i64 k] w fun e w' => e = .returned (.int .i64 s) ∧ w = w' := h ▸ refSide_any k w
set_option maxHeartbeats 400000 in
theorem refHas_any (k x y : Int) (w : World) : Calls Try.prog 106 #[.int .i64 k, .agg #[.int .i64 x, .int .i64 y]] w fun e w' => e = .returned (.bool (hasB k x y)) ∧ Below w.heap.size w w' := by
  have hb := side_bd k
  by_cases h1 : 0 ≤ x
  · by_cases h2 : x < side k
    · by_cases h3 : 0 ≤ y
      · by_cases h4 : y < side k
        · rw [show hasB k x y = true from (hasB_iff _ _ _).2 ⟨h1, h2, h3, h4⟩]
          go_enter Try.func106, Try.ntmps106
          go_wp2_with (go_at_call 78; (with_reducible refine (refSide_any _ _).mono ?_); rintro e w' ⟨rfl, rfl⟩)
          go_ret
          exact ⟨rfl, (Since.refl w).alloc _⟩
        · rw [show hasB k x y = false from Bool.eq_false_iff.2 fun e => h4 ((hasB_iff _ _ _).1 e).2.2.2]
          go_enter Try.func106, Try.ntmps106
          go_wp2_with (go_at_call 78; (with_reducible refine (refSide_any _ _).mono ?_); rintro e w' ⟨rfl, rfl⟩)
          go_ret
          exact ⟨ret_bool (decide_eq_false (by omega)), (Since.refl w).alloc _⟩
      · rw [show hasB k x y = false from Bool.eq_false_iff.2 fun e => h3 ((hasB_iff _ _ _).1 e).2.2.1]
        go_enter Try.func106, Try.ntmps106
        go_wp2_with (go_at_call 78; (with_reducible refine (refSide_any _ _).mono ?_); rintro e w' ⟨rfl, rfl⟩)
        go_ret
        exact ⟨rfl, (Since.refl w).alloc _⟩
    · rw [show hasB k x y = false from Bool.eq_false_iff.2 fun e => h2 ((hasB_iff _ _ _).1 e).2.1]
      go_enter Try.func106, Try.ntmps106
      go_wp2_with (go_at_call 78; (with_reducible refine (refSide_any _ _).mono ?_); rintro e w' ⟨rfl, rfl⟩)
      go_ret
      exact ⟨rfl, (Since.refl w).alloc _⟩
  · rw [show hasB k x y = false from Bool.eq_false_iff.2 fun e => h1 ((hasB_iff _ _ _).1 e).1]
    go_enter Try.func106, Try.ntmps106
    go_wp2_with (go_at_call 78; (with_reducible refine (refSide_any _ _).mono ?_); rintro e w' ⟨rfl, rfl⟩)
    go_ret
    exact ⟨rfl, (Since.refl w).alloc _⟩
theorem refHas_at {k x y : Int} {b : Bool} (h : hasB k x y = b) (w : World) : Calls Try.prog 106 #[.int .i64 k, .agg #[.int .i64 x, .int .i64 y]] w fun e w' => e = .returned (.bool b) ∧ Below w.heap.size w w' := h ▸ refHas_any k x y w
theorem tmod_up {n s : Int} (hs : 0 < s) : n % s = if n.tmod s < 0 then n.tmod s + s else n.tmod s := by
  have h1 := tmod_bd n s hs
  have h2 := tmod_emod n s
  rw [← h2]
  split
  · rw [← Int.add_emod_right, Int.emod_eq_of_lt (by omega) (by omega)]
  · exact Int.emod_eq_of_lt (by omega) (by omega)
theorem refDown_any (n s : Int) (w : World) (hs : 0 < s) (hs2 : s ≤ 65536) : Calls Try.prog 137 #[.int .i64 n, .int .i64 s] w fun e w' => e = .returned (.int .i64 (n % s)) ∧ w = w' := by
  have h1 := tmod_bd n s hs
  have h2 := tmod_up (n := n) hs
  have hz : ¬ s = 0 := by omega
  have hz2 : ¬ s = -1 := by omega
  by_cases h : n.tmod s < 0
  · rw [if_pos h] at h2
    rw [h2]
    clear h2
    go_enter Try.func137, Try.ntmps137
    go_wp2
    go_ret
    exact ⟨rfl, rfl⟩
  · rw [if_neg h] at h2
    rw [h2]
    clear h2
    go_enter Try.func137, Try.ntmps137
    go_wp2
    go_ret
    exact ⟨rfl, rfl⟩
end Go.Proofs.Ytgnhamhkpbadbaa
