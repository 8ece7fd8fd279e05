/- The document's own reader: what it holds, and its small functions. The document's own reader: Num. -/
import Derived.Test.YtimmnmidhjbanaaDoorK26
namespace Go.Proofs.YtimmnmidhjbanaaDoor
open Go.RowKit
/-- The block q holds the document's reader: these bytes, this place, this error. -/
structure RRd (w : World) (B q : Nat) (A : Option Addr) (n c : Nat) (b : List UInt8) (k : Nat) (e : Int) : Prop where
  whole : Whole w q 64 #[.slice A n c, .int .i64 (k : Int), .int .i64 e]
  rd : Rd w B A b
  len : b.length = n
  cap : n ≤ c
  le : k ≤ n
  lie : B ≤ q
theorem Only.drewN {g : Nat} {a w : World} (h : Only g a w) (m : Nat) : Only g a (w.drewN m) := ⟨h.os, h.tape, h.output, h.size, h.block⟩
theorem Rdr.drewN {w : World} {base g : Nat} {A : Option Addr} {n c : Nat} {l : List UInt8} {e : Int} (h : Rdr w base g A n c l e) (m : Nat) : Rdr (w.drewN m) base g A n c l e := ⟨h.whole, h.rd, h.len, h.cap, h.lie, h.form⟩
section
variable {w w' : World} {B q : Nat} {A : Option Addr} {n c : Nat} {b : List UInt8} {k : Nat} {e : Int}
theorem RRd.drewN (h : RRd w B q A n c b k e) (m : Nat) : RRd (w.drewN m) B q A n c b k e := ⟨h.whole, h.rd, h.len, h.cap, h.le, h.lie⟩
theorem RRd.fail (h : RRd w B q A n c b k e) (x : Int) : RRd (w.setCell ⟨q, 2, none⟩ (.int .i64 x)) B q A n c b k x :=
  ⟨h.whole.set_ 2 _, h.rd.keep fun p hp => World.cell?_setCell_other w _ _ _ (fun e => by subst e; exact absurd (Nat.lt_of_lt_of_le hp h.lie) (Nat.lt_irrefl _)), h.len, h.cap, h.le, h.lie⟩
theorem RRd.go (h : RRd w B q A n c b k e) (j : Nat) (hj : j ≤ n) : RRd (w.setCell ⟨q, 1, none⟩ (.int .i64 (j : Int))) B q A n c b j e :=
  ⟨h.whole.set_ 1 _, h.rd.keep fun p hp => World.cell?_setCell_other w _ _ _ (fun e => by subst e; exact absurd (Nat.lt_of_lt_of_le hp h.lie) (Nat.lt_irrefl _)), h.len, h.cap, hj, h.lie⟩
theorem RRd.c0 (h : RRd w B q A n c b k e) : w.cell? ⟨q, 0, none⟩ = some (.slice A n c) := h.whole.cell 0
theorem RRd.c1 (h : RRd w B q A n c b k e) : w.cell? ⟨q, 1, none⟩ = some (.int .i64 (k : Int)) := h.whole.cell 1
theorem RRd.c2 (h : RRd w B q A n c b k e) : w.cell? ⟨q, 2, none⟩ = some (.int .i64 e) := h.whole.cell 2
theorem ropen_any (A : Option Addr) (n c B : Nat) (b : List UInt8) (w : World) (h : Rd w B A b) (hB : B ≤ w.heap.size) (hn : b.length = n) (hc : n ≤ c) :
    Calls Tryd.prog 30 #[.slice A n c] w fun e w' => e = .returned (.pointer (some ⟨w.heap.size, 0, none⟩)) ∧ RRd w' B w.heap.size A n c b 0 0 ∧ Below w.heap.size w w' := by
  have HH := Lib.hid h
  clear h
  go_enter Tryd.func30, Tryd.ntmps30
  go_wp2
  go_ret
  exact ⟨rfl, ⟨Whole.new _ _ _, HH.out.keep fun p hp => World.cell?_alloc_lt w _ p (by omega), hn, hc, Nat.zero_le _, hB⟩, (Below.refl _ w).alloc (Nat.le_refl _) _⟩
theorem rfail_good (h : RRd w B q A n c b k 0) (x : Int) : Calls Tryd.prog 62 #[.pointer (some ⟨q, 0, none⟩), .int .i64 x] w fun e w' => e = .returned (.tuple #[]) ∧ w' = w.setCell ⟨q, 2, none⟩ (.int .i64 x) := by
  have c2 := h.c2
  have f2 : w.frozen? ⟨q, 2, none⟩ = false := h.whole.frozen 2
  clear h
  go_enter Tryd.func62, Tryd.ntmps62
  go_wp2
  go_end0
  exact ⟨rfl, rfl⟩
theorem rfail_dead (h : RRd w B q A n c b k e) (he : e ≠ 0) (x : Int) : Calls Tryd.prog 62 #[.pointer (some ⟨q, 0, none⟩), .int .i64 x] w fun e w' => e = .returned (.tuple #[]) ∧ w = w' := by
  have c2 := h.c2
  have hb : (e == 0) = false := by rw [beq_eq_false_iff_ne]; exact he
  clear h he
  go_enter Tryd.func62, Tryd.ntmps62
  go_wp2
  go_end0
  exact ⟨rfl, rfl⟩
/-- Left: what is still to come, 0 behind an error. -/
def leftOf (m : Nat) (e : Int) : Int := if e = 0 then (m : Int) else 0
set_option maxRecDepth 100000 in
theorem rleft_any (h : RRd w B q A n c b k e) (hn : n ≤ 1000000) : Calls Tryd.prog 35 #[.pointer (some ⟨q, 0, none⟩)] w fun x w' => x = .returned (.int .i64 (leftOf (n - k) e)) ∧ ∃ m, w' = w.drewN m := by
  have c0 := h.c0
  have c1 := h.c1
  have c2 := h.c2
  have hk := h.le
  unfold leftOf
  clear h
  by_cases he : e = 0
  · rw [if_pos he]
    subst he
    have e1 : IntKind.i64.wrap ((n : Int) - (k : Int)) = ((n - k : Nat) : Int) := by rw [IntWalk.i64_in _ (by omega)]; omega
    obtain ⟨d, hd⟩ : ∃ d, d = n - k := ⟨_, rfl⟩
    rw [← hd] at e1 ⊢
    clear hd hk
    go_enter Tryd.func35, Tryd.ntmps35
    go_wp2
    go_quiet (fail)
    go_wp2
    go_ret
    exact ⟨rfl, _, rfl⟩
  · rw [if_neg he]
    have hb : (e != 0) = true := by rw [bne_iff_ne]; exact he
    clear he hk
    go_enter Tryd.func35, Tryd.ntmps35
    go_wp2
    go_ret
    exact ⟨rfl, 0, rfl⟩
end
end Go.Proofs.YtimmnmidhjbanaaDoor
namespace Go.Proofs.YtimmnmidhjbanaaDoor
open Go.RowKit
theorem pow128 (k : Nat) (h : k ≤ 8) : 128 ^ k ≤ 72057594037927936 ∧ 0 < 128 ^ k := by
  refine ⟨Nat.le_trans (Nat.pow_le_pow_right (by omega) h) (by decide), Nat.pow_pos (by omega)⟩
set_option maxRecDepth 1000000 in
set_option maxHeartbeats 3200000 in
theorem rnum_good {w : World} {B q : Nat} {A : Option Addr} {n c : Nat} {b : List UInt8} {k : Nat} (h : RRd w B q A n c b k 0) (hn : n ≤ 1000000) :
    Calls Tryd.prog 60 #[.pointer (some ⟨q, 0, none⟩)] w fun x w' => x = .returned (.int .i64 ((dec 9007199254740992 0 0 (b.drop k)).1 : Int)) ∧ RRd w' B q A n c b (k + (dec 9007199254740992 0 0 (b.drop k)).2.1) (dec 9007199254740992 0 0 (b.drop k)).2.2 ∧ Only q w w' := by
  obtain ⟨D, hD⟩ : ∃ D, D = dec 9007199254740992 0 0 (b.drop k) := ⟨_, rfl⟩
  rw [← hD]
  have HD := Lib.hid hD
  have HZ := Lib.hid (dec_zero 9007199254740992 (b.drop k))
  rw [← hD] at HZ
  clear hD
  have c2 := h.c2
  go_enter Tryd.func60, Tryd.ntmps60
  go_wp2
  clear c2
  go_loopw [3, 4, 5] (fun r u i wr => ∃ j m : Nat, j ≤ 8 ∧ k + j ≤ n ∧ i = .int .i64 (j : Int) ∧ r = .int .i64 (m : Int) ∧ u = .int .i64 ((128 ^ j : Nat) : Int) ∧ m < 128 ^ j ∧ m ≤ 9007199254740992 ∧ (if j = 8 then D = (0, 0, 21) else dec 9007199254740992 j m (b.drop (k + j)) = D) ∧ RRd wr B q A n c b k 0 ∧ Only q w wr) (fun _ _ i _ => 8 - (intOf i).toNat)
  case atStart => exact ⟨0, 0, by omega, by have := h.le; omega, rfl, rfl, rfl, by simp, by omega, HD.out.symm, h, Only.refl q w⟩
  case round =>
    obtain ⟨j, m, hj8, hkj, rfl, rfl, rfl, hU, hmm, hd, hR, hO⟩ := hrel
    clear HD h
    have c0 := hR.c0
    have c1 := hR.c1
    have c2 := hR.c2
    have f1 : wr.frozen? ⟨q, 1, none⟩ = false := hR.whole.frozen 1
    have f2 : wr.frozen? ⟨q, 2, none⟩ = false := hR.whole.frozen 2
    have hbn := hR.len
    obtain ⟨u, hu⟩ : ∃ u, u = 128 ^ j := ⟨_, rfl⟩
    have hul := pow128 j hj8
    rw [← hu] at hU hul ⊢
    by_cases h8 : j = 8
    · rw [if_pos h8] at hd
      subst h8
      clear hu hul hU hkj
      go_wp2
      go_ret
      exact ⟨by rw [hd]; rfl, by rw [hd]; exact hR.fail 21, hO.trans (Only.set_ _ _ _ _)⟩
    · rw [if_neg h8] at hd
      have hj7 : j ≤ 7 := by omega
      have e8 : ((j : Int) == 8) = false := by rw [beq_eq_false_iff_ne]; omega
      have s1 : IntKind.i64.wrap ((k : Int) + (j : Int)) = ((k + j : Nat) : Int) := by rw [IntWalk.i64_in _ (by omega)]; omega
      by_cases hlt : k + j < n
      · obtain ⟨p, hp⟩ : ∃ p, p = k + j := ⟨_, rfl⟩
        rw [← hp] at s1 hlt hd
        obtain ⟨bb, off, rfl, hb, hcells⟩ := hR.rd.at_ (k := p) (by omega)
        have hcell := hcells p (by omega)
        obtain ⟨x, hx⟩ : ∃ x, x = (b[p]'(by omega)).toNat := ⟨_, rfl⟩
        have hx8 : x < 256 := by rw [hx]; exact UInt8.toNat_lt _
        rw [List.drop_eq_getElem_cons (by omega), dec, ← hx] at hd
        rw [← hx] at hcell
        have hU2 : m + x % 128 * 128 ^ j < 128 ^ (j + 1) := by
          have h1 : x % 128 * 128 ^ j ≤ 127 * 128 ^ j := Nat.mul_le_mul_right _ (by omega)
          rw [Nat.pow_succ]
          omega
        have hu49 : u ≤ 562949953421312 := by rw [hu]; exact Nat.le_trans (Nat.pow_le_pow_right (by omega) hj7) (by decide)
        rw [← hu] at hd hU2
        obtain ⟨y, hy⟩ : ∃ y, y = x % 128 := ⟨_, rfl⟩
        have s2 : (x : Int) % 128 = (y : Int) := by omega
        rw [← hy] at hd hU2
        have hy8 : y < 128 := by omega
        obtain ⟨z, hz⟩ : ∃ z, z = y * u := ⟨_, rfl⟩
        have hz1 : z ≤ 127 * 562949953421312 := by rw [hz]; exact Nat.mul_le_mul (by omega) hu49
        have s3 : IntKind.i64.wrap ((y : Int) * (u : Int)) = (z : Int) := by
          have : (y : Int) * (u : Int) = (z : Int) := by rw [hz, Int.natCast_mul]
          rw [this, IntWalk.i64_in _ (by omega)]
        rw [← hz] at hd hU2
        obtain ⟨m', hm'⟩ : ∃ m', m' = m + z := ⟨_, rfl⟩
        have s4 : IntKind.i64.wrap ((m : Int) + (z : Int)) = (m' : Int) := by rw [IntWalk.i64_in _ (by omega)]; omega
        have s5 : IntKind.i64.wrap ((u : Int) * 128) = ((128 ^ (j + 1) : Nat) : Int) := by
          rw [IntWalk.i64_in _ (by omega), Nat.pow_succ, ← hu]; omega
        have s6 : IntKind.i64.wrap ((j : Int) + 1) = ((j + 1 : Nat) : Int) := by rw [IntWalk.i64_in _ (by omega)]; omega
        have s7 : IntKind.i64.wrap ((p : Int) + 1) = ((k + (j + 1) : Nat) : Int) := by rw [IntWalk.i64_in _ (by omega)]; omega
        have hcap := hR.cap
        rw [← hm'] at hd hU2
        have HM := Lib.hid hm'
        have HY := Lib.hid hy
        have HP := Lib.hid hp
        have HBN := Lib.hid hbn
        have i0 : (p : Int) < (n : Int) := by omega
        have x7 : (7 : Int) < 8 := by omega
        clear hcells hm' hz hx hU hu hul hu49 hy hp hbn hz1 hkj hlt h8
        by_cases h1 : 9007199254740992 < m'
        · rw [if_pos h1] at hd
          have HD := Lib.hid hd
          clear hd hU2
          go_wp2
          go_quiet (fail)
          go_wp2
          go_quiet (fail)
          go_wp2
          go_ret
          exact ⟨by rw [← HD.out]; rfl, by rw [← HD.out]; exact (hR.drewN _).fail 21, (hO.drewN _).trans (Only.set_ _ _ _ _)⟩
        · rw [if_neg h1] at hd
          by_cases h2 : 0 < j ∧ x = 0
          · rw [if_pos h2] at hd
            have HD := Lib.hid hd
            obtain ⟨h2a, h2b⟩ := h2
            have e2 : ((x : Int) == 0) = true := by rw [beq_iff_eq]; omega
            clear hd hU2 h2b
            go_wp2
            go_quiet (fail)
            go_wp2
            go_quiet (fail)
            go_wp2
            go_ret
            exact ⟨by rw [← HD.out]; rfl, by rw [← HD.out]; exact (hR.drewN _).fail 21, (hO.drewN _).trans (Only.set_ _ _ _ _)⟩
          · rw [if_neg h2] at hd
            by_cases h3 : j = 7 ∧ 128 ≤ x
            · rw [if_pos h3] at hd
              have HD := Lib.hid hd
              obtain ⟨h3a, h3b⟩ := h3
              have e2 : ((x : Int) == 0) = false := by rw [beq_eq_false_iff_ne]; omega
              have H7 := Lib.hid h3a
              have HU := Lib.hid hU2
              clear hd hU2 h2 h3a
              go_wp2
              go_quiet (fail)
              go_wp2
              go_quiet (fail)
              go_wp2
              go_roundw
              case rel => exact ⟨j + 1, m', by omega, by have := HP.out; omega, by go_num, rfl, rfl, HU.out, by omega, by rw [if_pos (by have := H7.out; omega)]; exact HD.out.symm, hR.drewN _, hO.drewN _⟩
              case measure => simp [intOf]; omega
            · rw [if_neg h3] at hd
              by_cases h4 : x < 128
              · rw [if_pos h4] at hd
                have HD := Lib.hid hd
                clear hd hU2 h3
                by_cases k0 : 0 < j
                · have x0 : ((x : Int) == 0) = false := by rw [beq_eq_false_iff_ne]; omega
                  clear h2
                  go_wp2
                  go_quiet (fail)
                  go_wp2
                  go_quiet (fail)
                  go_wp2
                  go_ret
                  exact ⟨by rw [← HD.out]; rfl, by rw [← HD.out]; exact (hR.drewN _).go (k + (j + 1)) (by have := HP.out; omega), (hO.drewN _).trans (Only.set_ _ _ _ _)⟩
                · clear h2
                  by_cases x00 : x = 0
                  · have x0 : ((x : Int) == 0) = true := by rw [beq_iff_eq]; omega
                    have HX := Lib.hid x00
                    clear x00
                    go_wp2
                    go_quiet (fail)
                    go_wp2
                    go_quiet (fail)
                    go_wp2
                    go_ret
                    exact ⟨by rw [← HD.out]; rfl, by rw [← HD.out]; exact (hR.drewN _).go (k + (j + 1)) (by have := HP.out; omega), (hO.drewN _).trans (Only.set_ _ _ _ _)⟩
                  · have x0 : ((x : Int) == 0) = false := by rw [beq_eq_false_iff_ne]; omega
                    clear x00
                    go_wp2
                    go_quiet (fail)
                    go_wp2
                    go_quiet (fail)
                    go_wp2
                    go_ret
                    exact ⟨by rw [← HD.out]; rfl, by rw [← HD.out]; exact (hR.drewN _).go (k + (j + 1)) (by have := HP.out; omega), (hO.drewN _).trans (Only.set_ _ _ _ _)⟩
              · rw [if_neg h4] at hd
                have h7 : j < 7 := by omega
                have e2 : ((x : Int) == 0) = false := by rw [beq_eq_false_iff_ne]; omega
                have HD := Lib.hid hd
                have HU := Lib.hid hU2
                clear hd hU2 h2 h3
                go_wp2
                go_quiet (fail)
                go_wp2
                go_quiet (fail)
                go_wp2
                go_roundw
                case rel => exact ⟨j + 1, m', by omega, by have := HP.out; omega, by go_num, rfl, rfl, HU.out, by omega, by rw [if_neg (by omega), show k + (j + 1) = p + 1 from by have := HP.out; omega]; exact HD.out, hR.drewN _, hO.drewN _⟩
                case measure => simp [intOf]; omega
      · have e : b.drop (k + j) = [] := List.drop_of_length_le (by omega)
        rw [e, dec] at hd
        have HD := Lib.hid hd
        obtain ⟨p, hp⟩ : ∃ p, p = k + j := ⟨_, rfl⟩
        rw [← hp] at s1 hlt
        have HP := Lib.hid hp
        clear hd e hU hp hkj hul hu
        go_wp2
        go_quiet (fail)
        go_wp2
        go_ret
        exact ⟨by rw [← HD.out]; rfl, by rw [← HD.out]; exact (hR.drewN _).fail 20, (hO.drewN _).trans (Only.set_ _ _ _ _)⟩
theorem rnum_dead {w : World} {B q : Nat} {A : Option Addr} {n c : Nat} {b : List UInt8} {k : Nat} {e : Int} (h : RRd w B q A n c b k e) (he : e ≠ 0) :
    Calls Tryd.prog 60 #[.pointer (some ⟨q, 0, none⟩)] w fun x w' => x = .returned (.int .i64 0) ∧ w = w' := by
  have c2 := h.c2
  have hb : (e != 0) = true := by rw [bne_iff_ne]; exact he
  clear h he
  go_enter Tryd.func60, Tryd.ntmps60
  go_wp2
  go_ret
  exact ⟨rfl, rfl⟩
end Go.Proofs.YtimmnmidhjbanaaDoor
