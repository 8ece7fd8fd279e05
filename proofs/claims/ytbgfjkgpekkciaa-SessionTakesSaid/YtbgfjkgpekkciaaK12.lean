/- The document's own reader: Num. -/
import Derived.Test.YtbgfjkgpekkciaaK11
namespace Go.Proofs.Ytbgfjkgpekkciaa
open Go.RowKit
theorem pow128 (k : Nat) (h : k ≤ 8) : 128 ^ k ≤ 72057594037927936 ∧ 0 < 128 ^ k := by
  refine ⟨Nat.le_trans (Nat.pow_le_pow_right (by omega) h) (by decide), Nat.pow_pos (by omega)⟩
set_option maxRecDepth 1000000 in
set_option maxHeartbeats 3200000 in
theorem rnum_good {w : World} {B q : Nat} {A : Option Addr} {n c : Nat} {b : List UInt8} {k : Nat} (h : RRd w B q A n c b k 0) (hn : n ≤ 1000000) :
    Calls Try.prog 41 #[.pointer (some ⟨q, 0, none⟩)] w fun x w' => x = .returned (.int .i64 ((dec 9007199254740992 0 0 (b.drop k)).1 : Int)) ∧ RRd w' B q A n c b (k + (dec 9007199254740992 0 0 (b.drop k)).2.1) (dec 9007199254740992 0 0 (b.drop k)).2.2 ∧ Only q w w' := by
  obtain ⟨D, hD⟩ : ∃ D, D = dec 9007199254740992 0 0 (b.drop k) := ⟨_, rfl⟩
  rw [← hD]
  have HD := Lib.hid hD
  have HZ := Lib.hid (dec_zero 9007199254740992 (b.drop k))
  rw [← hD] at HZ
  clear hD
  have c2 := h.c2
  go_enter Try.func41, Try.ntmps41
  go_wp2
  clear c2
  go_loopw [3, 4, 5] (fun r u i wr => ∃ j m : Nat, j ≤ 8 ∧ k + j ≤ n ∧ i = .int .i64 (j : Int) ∧ r = .int .i64 (m : Int) ∧ u = .int .i64 ((128 ^ j : Nat) : Int) ∧ m < 128 ^ j ∧ m ≤ 9007199254740992 ∧ (if j = 8 then D = (0, 0, 21) else dec 9007199254740992 j m (b.drop (k + j)) = D) ∧ RRd wr B q A n c b k 0 ∧ Only q w wr) (fun _ _ i _ => 8 - (intOf i).toNat)
  case atStart => exact ⟨0, 0, by omega, by have := h.le; omega, rfl, rfl, rfl, by simp, by omega, HD.out.symm, h, Only.refl q w⟩
  case round =>
    obtain ⟨j, m, hj8, hkj, rfl, rfl, rfl, hU, hmm, hd, hR, hO⟩ := hrel
    clear HD h
    have c0 := hR.c0
    have c1 := hR.c1
    have c2 := hR.c2
    have f1 : wr.frozen? ⟨q, 1, none⟩ = false := hR.whole.frozen 1
    have f2 : wr.frozen? ⟨q, 2, none⟩ = false := hR.whole.frozen 2
    have hbn := hR.len
    obtain ⟨u, hu⟩ : ∃ u, u = 128 ^ j := ⟨_, rfl⟩
    have hul := pow128 j hj8
    rw [← hu] at hU hul ⊢
    by_cases h8 : j = 8
    · rw [if_pos h8] at hd
      subst h8
      clear hu hul hU hkj
      go_wp2
      go_ret
      exact ⟨by rw [hd]; rfl, by rw [hd]; exact hR.fail 21, hO.trans (Only.set_ _ _ _ _)⟩
    · rw [if_neg h8] at hd
      have hj7 : j ≤ 7 := by omega
      have e8 : ((j : Int) == 8) = false := by rw [beq_eq_false_iff_ne]; omega
      have s1 : IntKind.i64.wrap ((k : Int) + (j : Int)) = ((k + j : Nat) : Int) := by rw [IntWalk.i64_in _ (by omega)]; omega
      by_cases hlt : k + j < n
      · obtain ⟨p, hp⟩ : ∃ p, p = k + j := ⟨_, rfl⟩
        rw [← hp] at s1 hlt hd
        obtain ⟨bb, off, rfl, hb, hcells⟩ := hR.rd.at_ (k := p) (by omega)
        have hcell := hcells p (by omega)
        obtain ⟨x, hx⟩ : ∃ x, x = (b[p]'(by omega)).toNat := ⟨_, rfl⟩
        have hx8 : x < 256 := by rw [hx]; exact UInt8.toNat_lt _
        rw [List.drop_eq_getElem_cons (by omega), dec, ← hx] at hd
        rw [← hx] at hcell
        have hU2 : m + x % 128 * 128 ^ j < 128 ^ (j + 1) := by
          have h1 : x % 128 * 128 ^ j ≤ 127 * 128 ^ j := Nat.mul_le_mul_right _ (by omega)
          rw [Nat.pow_succ]
          omega
        have hu49 : u ≤ 562949953421312 := by rw [hu]; exact Nat.le_trans (Nat.pow_le_pow_right (by omega) hj7) (by decide)
        rw [← hu] at hd hU2
        obtain ⟨y, hy⟩ : ∃ y, y = x % 128 := ⟨_, rfl⟩
        have s2 : (x : Int) % 128 = (y : Int) := by omega
        rw [← hy] at hd hU2
        have hy8 : y < 128 := by omega
        obtain ⟨z, hz⟩ : ∃ z, z = y * u := ⟨_, rfl⟩
        have hz1 : z ≤ 127 * 562949953421312 := by rw [hz]; exact Nat.mul_le_mul (by omega) hu49
        have s3 : IntKind.i64.wrap ((y : Int) * (u : Int)) = (z : Int) := by
          have : (y : Int) * (u : Int) = (z : Int) := by rw [hz, Int.natCast_mul]
          rw [this, IntWalk.i64_in _ (by omega)]
        rw [← hz] at hd hU2
        obtain ⟨m', hm'⟩ : ∃ m', m' = m + z := ⟨_, rfl⟩
        have s4 : IntKind.i64.wrap ((m : Int) + (z : Int)) = (m' : Int) := by rw [IntWalk.i64_in _ (by omega)]; omega
        have s5 : IntKind.i64.wrap ((u : Int) * 128) = ((128 ^ (j + 1) : Nat) : Int) := by
          rw [IntWalk.i64_in _ (by omega), Nat.pow_succ, ← hu]; omega
        have s6 : IntKind.i64.wrap ((j : Int) + 1) = ((j + 1 : Nat) : Int) := by rw [IntWalk.i64_in _ (by omega)]; omega
        have s7 : IntKind.i64.wrap ((p : Int) + 1) = ((k + (j + 1) : Nat) : Int) := by rw [IntWalk.i64_in _ (by omega)]; omega
        have hcap := hR.cap
        rw [← hm'] at hd hU2
        have HM := Lib.hid hm'
        have HY := Lib.hid hy
        have HP := Lib.hid hp
        have HBN := Lib.hid hbn
        have i0 : (p : Int) < (n : Int) := by omega
        have x7 : (7 : Int) < 8 := by omega
        clear hcells hm' hz hx hU hu hul hu49 hy hp hbn hz1 hkj hlt h8
        by_cases h1 : 9007199254740992 < m'
        · rw [if_pos h1] at hd
          have HD := Lib.hid hd
          clear hd hU2
          go_wp2
          go_quiet (fail)
          go_wp2
          go_quiet (fail)
          go_wp2
          go_ret
          exact ⟨by rw [← HD.out]; rfl, by rw [← HD.out]; exact (hR.drewN _).fail 21, (hO.drewN _).trans (Only.set_ _ _ _ _)⟩
        · rw [if_neg h1] at hd
          by_cases h2 : 0 < j ∧ x = 0
          · rw [if_pos h2] at hd
            have HD := Lib.hid hd
            obtain ⟨h2a, h2b⟩ := h2
            have e2 : ((x : Int) == 0) = true := by rw [beq_iff_eq]; omega
            clear hd hU2 h2b
            go_wp2
            go_quiet (fail)
            go_wp2
            go_quiet (fail)
            go_wp2
            go_ret
            exact ⟨by rw [← HD.out]; rfl, by rw [← HD.out]; exact (hR.drewN _).fail 21, (hO.drewN _).trans (Only.set_ _ _ _ _)⟩
          · rw [if_neg h2] at hd
            by_cases h3 : j = 7 ∧ 128 ≤ x
            · rw [if_pos h3] at hd
              have HD := Lib.hid hd
              obtain ⟨h3a, h3b⟩ := h3
              have e2 : ((x : Int) == 0) = false := by rw [beq_eq_false_iff_ne]; omega
              have H7 := Lib.hid h3a
              have HU := Lib.hid hU2
              clear hd hU2 h2 h3a
              go_wp2
              go_quiet (fail)
              go_wp2
              go_quiet (fail)
              go_wp2
              go_roundw
              case rel => exact ⟨j + 1, m', by omega, by have := HP.out; omega, by go_num, rfl, rfl, HU.out, by omega, by rw [if_pos (by have := H7.out; omega)]; exact HD.out.symm, hR.drewN _, hO.drewN _⟩
              case measure => simp [intOf]; omega
            · rw [if_neg h3] at hd
              by_cases h4 : x < 128
              · rw [if_pos h4] at hd
                have HD := Lib.hid hd
                clear hd hU2 h3
                by_cases k0 : 0 < j
                · have x0 : ((x : Int) == 0) = false := by rw [beq_eq_false_iff_ne]; omega
                  clear h2
                  go_wp2
                  go_quiet (fail)
                  go_wp2
                  go_quiet (fail)
                  go_wp2
                  go_ret
                  exact ⟨by rw [← HD.out]; rfl, by rw [← HD.out]; exact (hR.drewN _).go (k + (j + 1)) (by have := HP.out; omega), (hO.drewN _).trans (Only.set_ _ _ _ _)⟩
                · clear h2
                  by_cases x00 : x = 0
                  · have x0 : ((x : Int) == 0) = true := by rw [beq_iff_eq]; omega
                    have HX := Lib.hid x00
                    clear x00
                    go_wp2
                    go_quiet (fail)
                    go_wp2
                    go_quiet (fail)
                    go_wp2
                    go_ret
                    exact ⟨by rw [← HD.out]; rfl, by rw [← HD.out]; exact (hR.drewN _).go (k + (j + 1)) (by have := HP.out; omega), (hO.drewN _).trans (Only.set_ _ _ _ _)⟩
                  · have x0 : ((x : Int) == 0) = false := by rw [beq_eq_false_iff_ne]; omega
                    clear x00
                    go_wp2
                    go_quiet (fail)
                    go_wp2
                    go_quiet (fail)
                    go_wp2
                    go_ret
                    exact ⟨by rw [← HD.out]; rfl, by rw [← HD.out]; exact (hR.drewN _).go (k + (j + 1)) (by have := HP.out; omega), (hO.drewN _).trans (Only.set_ _ _ _ _)⟩
              · rw [if_neg h4] at hd
                have h7 : j < 7 := by omega
                have e2 : ((x : Int) == 0) = false := by rw [beq_eq_false_iff_ne]; omega
                have HD := Lib.hid hd
                have HU := Lib.hid hU2
                clear hd hU2 h2 h3
                go_wp2
                go_quiet (fail)
                go_wp2
                go_quiet (fail)
                go_wp2
                go_roundw
                case rel => exact ⟨j + 1, m', by omega, by have := HP.out; omega, by go_num, rfl, rfl, HU.out, by omega, by rw [if_neg (by omega), show k + (j + 1) = p + 1 from by have := HP.out; omega]; exact HD.out, hR.drewN _, hO.drewN _⟩
                case measure => simp [intOf]; omega
      · have e : b.drop (k + j) = [] := List.drop_of_length_le (by omega)
        rw [e, dec] at hd
        have HD := Lib.hid hd
        obtain ⟨p, hp⟩ : ∃ p, p = k + j := ⟨_, rfl⟩
        rw [← hp] at s1 hlt
        have HP := Lib.hid hp
        clear hd e hU hp hkj hul hu
        go_wp2
        go_quiet (fail)
        go_wp2
        go_ret
        exact ⟨by rw [← HD.out]; rfl, by rw [← HD.out]; exact (hR.drewN _).fail 20, (hO.drewN _).trans (Only.set_ _ _ _ _)⟩
theorem rnum_dead {w : World} {B q : Nat} {A : Option Addr} {n c : Nat} {b : List UInt8} {k : Nat} {e : Int} (h : RRd w B q A n c b k e) (he : e ≠ 0) :
    Calls Try.prog 41 #[.pointer (some ⟨q, 0, none⟩)] w fun x w' => x = .returned (.int .i64 0) ∧ w = w' := by
  have c2 := h.c2
  have hb : (e != 0) = true := by rw [bne_iff_ne]; exact he
  clear h he
  go_enter Try.func41, Try.ntmps41
  go_wp2
  go_ret
  exact ⟨rfl, rfl⟩
end Go.Proofs.Ytbgfjkgpekkciaa
