/- wire.number: what stands first in bytes. -/
import Derived.Test.YtimmnmidhjbanaaDoorK17
import Derived.WalkMore
import Derived.ScopeJumps
namespace Go.Proofs.YtimmnmidhjbanaaDoor
open Go.RowKit
/-- What number answers, from the group i on, where n has been read: the number, its bytes, the error. -/
def dec (most : Nat) : Nat → Nat → List UInt8 → Nat × Nat × Int
  | _, _, [] => (0, 0, 20)
  | i, n, c :: r =>
    if most < n + c.toNat % 128 * 128 ^ i then (0, 0, 21)
    else if 0 < i ∧ c.toNat = 0 then (0, 0, 21)
    else if i = 7 ∧ 128 ≤ c.toNat then (0, 0, 21)
    else if c.toNat < 128 then (n + c.toNat % 128 * 128 ^ i, i + 1, 0)
    else dec most (i + 1) (n + c.toNat % 128 * 128 ^ i) r
theorem or_shl7 (U n k : Nat) (hk : k ≤ 7) (hU : U < 128 ^ k) (hn : n < 128) : bits .or .i64 (U : Int) (wrap64 ((n : Int) * 2 ^ (7 * k))) = ((U + n * 128 ^ k : Nat) : Int) := by
  have hp : (128 : Nat) ^ k = 2 ^ (7 * k) := by rw [Nat.pow_mul]
  have hp6 : 2 ^ (7 * k) ≤ 562949953421312 := Nat.le_trans (Nat.pow_le_pow_right (by omega) (show 7 * k ≤ 49 by omega)) (by decide)
  rw [hp] at hU ⊢
  have e1 : (n : Int) * 2 ^ (7 * k) = ((n * 2 ^ (7 * k) : Nat) : Int) := by rw [Int.natCast_mul, Int.natCast_pow]; rfl
  have hm : n * 2 ^ (7 * k) ≤ 127 * 562949953421312 := Nat.mul_le_mul (by omega) hp6
  have hj := nat_join (7 * k) (n * 2 ^ (7 * k)) U (Nat.mul_mod_left _ _) hU
  rw [e1]
  generalize n * 2 ^ (7 * k) = x at hm hj ⊢
  generalize 2 ^ (7 * k) = y at hU hp6
  rw [IntWalk.wrap64_in _ ⟨by omega, by omega⟩]
  show IntKind.i64.wrap ((BitVec.ofInt 64 (U : Int) ||| BitVec.ofInt 64 (x : Int)).toNat : Int) = _
  rw [BitVec.toNat_or, ofi64 U (by omega), ofi64 x (by omega), Nat.or_comm, hj, IntKind.wrap_i64]
  omega
theorem u8_low (c : Nat) (h : c < 256) : bits .and .u8 (c : Int) 127 = ((c % 128 : Nat) : Int) := by
  have := u8_and_nat c 127 h (by omega)
  rw [nat_mask7] at this
  exact this
/-- The frame at the label. -/
def AtFault (A : Option Addr) (n c : Nat) (e : Int) (w : World) (a : Act) (w' : World) : Prop :=
  w' = w ∧ ∃ (v2 v3 u5 u6 u7 u8 u9 u10 u11 u12 u13 u14 u15 u16 u17 u18 u19 u20 u21 u22 u23 u24 u25 u26 u27 u28 u29 u30 u31 u32 u33 u34 u35 u36 u37 u38 u39 u40 u41 u42 : Value), a = { tmps := #[.slice A n c, undef, v2, v3, .int .i64 e, u5, u6, u7, u8, u9, u10, u11, u12, u13, u14, u15, u16, u17, u18, u19, u20, u21, u22, u23, u24, u25, u26, u27, u28, u29, u30, u31, u32, u33, u34, u35, u36, u37, u38, u39, u40, u41, u42], defers := [] }
set_option maxRecDepth 1000000 in
set_option maxHeartbeats 3200000 in
theorem wnumber_any (A : Option Addr) (n cap : Nat) (l : List UInt8) (w : World) (h : Rd w w.heap.size A l) (hl : l.length = n) :
    Calls Tryd.prog 83 #[.slice A n cap] w fun e w' => e = .returned (.tuple #[.int .i64 ((dec 9007199254740992 0 0 l).1 : Int), .int .i64 ((dec 9007199254740992 0 0 l).2.1 : Int), .int .i64 (dec 9007199254740992 0 0 l).2.2]) ∧ w' = w := by
  obtain ⟨D, hD⟩ : ∃ D, D = dec 9007199254740992 0 0 l := ⟨_, rfl⟩
  rw [← hD]
  have HD := Lib.hid hD
  clear hD
  go_enter Tryd.func83, Tryd.ntmps83
  go_wp2
  refine wp_scope_jumps 0 (fun a w' => D = (0, 0, 21) ∧ AtFault A n cap 21 w a w') (fun _ _ => 0) rfl ?_ ?_
  · go_wp2
    go_loop [2, 4, 9] (fun r e i => ∃ k m : Nat, k ≤ n ∧ k ≤ 7 ∧ i = .int .i64 (k : Int) ∧ r = .int .i64 (m : Int) ∧ e = .int .i64 21 ∧ m < 128 ^ k ∧ m ≤ 9007199254740992 ∧ dec 9007199254740992 k m (l.drop k) = D) (fun _ _ i => n - (intOf i).toNat)
    case atStart => exact ⟨0, 0, by omega, by omega, rfl, rfl, rfl, by simp, by omega, HD.out.symm⟩
    case round =>
      obtain ⟨k, m, hkn, hk7, rfl, rfl, rfl, hU, hmm, hd⟩ := hrel
      clear HD
      by_cases hlt : k < n
      · obtain ⟨b, off, rfl, hb, hcells⟩ := h.at_ (k := k) (by omega)
        have hcell := hcells k (by omega)
        obtain ⟨x, hx⟩ : ∃ x, x = (l[k]'(by omega)).toNat := ⟨_, rfl⟩
        have hx8 : x < 256 := by rw [hx]; exact UInt8.toNat_lt _
        rw [List.drop_eq_getElem_cons (by omega), dec, ← hx] at hd
        rw [← hx] at hcell
        have ha := u8_low x hx8
        have ho := or_shl7 m (x % 128) k hk7 hU (by omega)
        have hU2 : m + x % 128 * 128 ^ k < 128 ^ (k + 1) := by
          have h1 : x % 128 * 128 ^ k ≤ 127 * 128 ^ k := Nat.mul_le_mul_right _ (by omega)
          rw [Nat.pow_succ]
          omega
        obtain ⟨m', hm'⟩ : ∃ m', m' = m + x % 128 * 128 ^ k := ⟨_, rfl⟩
        rw [← hm'] at ho hd hU2
        obtain ⟨y, hy⟩ : ∃ y, y = x % 128 := ⟨_, rfl⟩
        rw [← hy] at ha ho
        have hy8 : y < 128 := by omega
        clear hcells h hm' hy hx hU
        by_cases h1 : 9007199254740992 < m'
        · rw [if_pos h1] at hd
          have HD := Lib.hid hd
          clear hd hU2
          go_wp2
          go_step3
          exact And.intro rfl ⟨HD.out.symm, rfl, _, _, _, _, _, _, _, _, _, _, _, _, _, _, _, _, _, _, _, _, _, _, _, _, _, _, _, _, _, _, _, _, _, _, _, _, _, _, _, _, rfl⟩
        · rw [if_neg h1] at hd
          by_cases h2 : 0 < k ∧ x = 0
          · rw [if_pos h2] at hd
            have HD := Lib.hid hd
            obtain ⟨h2a, h2b⟩ := h2
            have e2 : ((x : Int) == 0) = true := by rw [beq_iff_eq]; omega
            clear hd hU2 h2b
            go_wp2
            go_step3
            exact And.intro rfl ⟨HD.out.symm, rfl, _, _, _, _, _, _, _, _, _, _, _, _, _, _, _, _, _, _, _, _, _, _, _, _, _, _, _, _, _, _, _, _, _, _, _, _, _, _, _, _, rfl⟩
          · rw [if_neg h2] at hd
            by_cases h3 : k = 7 ∧ 128 ≤ x
            · rw [if_pos h3] at hd
              have HD := Lib.hid hd
              obtain ⟨h3a, h3b⟩ := h3
              have h2' : ((x : Int) == 0) = false := by rw [beq_eq_false_iff_ne]; omega
              have e7 : ((k : Int) == 7) = true := by rw [beq_iff_eq]; omega
              have k0 : 0 < k := by omega
              clear hd hU2 h2 h3a
              go_wp2
              go_step3
              exact And.intro rfl ⟨HD.out.symm, rfl, _, _, _, _, _, _, _, _, _, _, _, _, _, _, _, _, _, _, _, _, _, _, _, _, _, _, _, _, _, _, _, _, _, _, _, _, _, _, _, _, rfl⟩
            · rw [if_neg h3] at hd
              by_cases h4 : x < 128
              · rw [if_pos h4] at hd
                have HD := Lib.hid hd
                clear hd hU2
                have e7 : ((k : Int) == 7) = decide (k = 7) := by
                  by_cases h : k = 7
                  · rw [decide_eq_true h, beq_iff_eq]; omega
                  · rw [decide_eq_false h, beq_eq_false_iff_ne]; omega
                by_cases k0 : 0 < k
                · have x0 : ((x : Int) == 0) = false := by rw [beq_eq_false_iff_ne]; omega
                  by_cases k7 : k = 7
                  · rw [decide_eq_true k7] at e7
                    clear h2 h3 k7
                    go_wp2
                    simp only [Exit.jump]
                    go_ret3
                    exact ⟨by rw [← HD.out]; rfl, rfl⟩
                  · rw [decide_eq_false k7] at e7
                    clear h2 h3
                    go_wp2
                    simp only [Exit.jump]
                    go_ret3
                    exact ⟨by rw [← HD.out]; rfl, rfl⟩
                · rw [decide_eq_false (by omega)] at e7
                  clear h2 h3
                  go_wp2
                  simp only [Exit.jump]
                  go_ret3
                  exact ⟨by rw [← HD.out]; rfl, rfl⟩
              · rw [if_neg h4] at hd
                have h7 : k < 7 := by omega
                have h2' : ((x : Int) == 0) = false := by rw [beq_eq_false_iff_ne]; omega
                have e7 : ((k : Int) == 7) = false := by rw [beq_eq_false_iff_ne]; omega
                have HD := Lib.hid hd
                have HU := Lib.hid hU2
                clear hd hU2 h2 h3
                by_cases k0 : 0 < k
                all_goals
                  go_wp2
                  go_round
                  case rel => exact ⟨k + 1, m', by omega, by omega, by go_num, rfl, rfl, HU.out, by omega, HD.out⟩
                  case measure => simp [intOf]; omega
      · obtain rfl : k = n := by omega
        have e : l.drop k = [] := by rw [← hl]; exact List.drop_length
        rw [e, dec] at hd
        have HD := Lib.hid hd
        clear hd e hU
        go_wp2
        go_step3
        go_wp2
        simp only [Exit.jump]
        go_ret3
        exact ⟨by rw [← HD.out]; rfl, rfl⟩
  · rintro a' w' ⟨hd, rfl, v2, v3, u5, u6, u7, u8, u9, u10, u11, u12, u13, u14, u15, u16, u17, u18, u19, u20, u21, u22, u23, u24, u25, u26, u27, u28, u29, u30, u31, u32, u33, u34, u35, u36, u37, u38, u39, u40, u41, u42, rfl⟩
    go_wp2
    simp only [Exit.jump]
    go_ret3
    exact ⟨by rw [hd]; rfl, rfl⟩
end Go.Proofs.YtimmnmidhjbanaaDoor
