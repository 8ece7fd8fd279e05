/- The walk of the law WireTurned: a frame whose bits are turned is refused by its sum. -/
import Derived.Test.YtgbgbkfbiebjgaaSums
import Derived.Test.YtgbgbkfbiebjgaaBurst
namespace Go.Proofs.Ytgbgbkfbiebjgaa
open Go.RowKit
/-- The law's way to bring a number within bounds. -/
theorem within (k B : Int) (h0 : 0 < B) (h : B ≤ 1000000) : ∃ j : Nat, (j : Int) < B ∧ (wrap64 (k.tmod B + B)).tmod B = (j : Int) := by
  have h1 : k.tmod B < B := Int.tmod_lt_of_pos k h0
  have h2 : -B < k.tmod B := Int.lt_tmod_of_pos k h0
  generalize k.tmod B = r at h1 h2
  rw [IntWalk.wrap64_in _ ⟨by omega, by omega⟩, Int.tmod_eq_emod_of_nonneg (by omega)]
  have h3 := Int.emod_nonneg (r + B) (show B ≠ 0 by omega)
  have h4 := Int.emod_lt_of_pos (r + B) h0
  exact ⟨((r + B) % B).toNat, by omega, by omega⟩
theorem and_bit (M j : Nat) (hM : M < 4294967296) : bits .and .u32 ((M : Int) / 2 ^ j) 1 = ((M / 2 ^ j % 2 : Nat) : Int) := by
  have e : (M : Int) / 2 ^ j = ((M / 2 ^ j : Nat) : Int) := by rw [Int.natCast_ediv, Int.natCast_pow]; rfl
  have hle := Nat.div_le_self M (2 ^ j)
  rw [e]
  have := u32_and_nat (M / 2 ^ j) 1 (by omega) (by omega)
  rw [nat_mask1] at this
  exact this
/-- The law's frame behind some rounds: its five first bytes as they were, the rest turned by the mask's first bits. -/
def TurnRel (w : World) (g n c kk p M : Nat) (l : List UInt8) (wr : World) (j : Nat) : Prop :=
  ∃ L : List UInt8, L.length = l.length + 4 ∧ unfix L = unfix (tail5 kk l) ^^^ (2 ^ p * (M % 2 ^ j)) ∧ Has wr w.heap.size (some ⟨g, 0, none⟩) (n + 9) c (hd5 kk l.length ++ L) ∧ Below w.heap.size w wr
theorem turn_stored {w wr : World} {g n c : Nat} {l : List UInt8} (h : Has wr w.heap.size (some ⟨g, 0, none⟩) n c l) (i : Nat) (hi : i < l.length) (y : UInt8) :
    Has (wr.setCell ⟨g, i, none⟩ (.int .u8 (y.toNat : Int))) w.heap.size (some ⟨g, 0, none⟩) n c (l.set i y) := by
  have h1 := h.own
  have hl := h.len
  have h2 : (wr.setCell ⟨g, i, none⟩ (.int .u8 (y.toNat : Int))).ownsRow w.heap.size 5 1 (.slice (some ⟨g, 0, none⟩) n c) n ((bv l).set i (.int .u8 (y.toNat : Int))) := by
    unfold Own at h1
    rw [hl] at h1
    exact (World.ownsRow.stored h1 i _).1
  have e : (bv l).set i (.int .u8 (y.toNat : Int)) = bv (l.set i y) := by simp [bv, List.map_set]
  rw [e] at h2
  refine ⟨?_, by rw [List.length_set]; exact hl, h.cap, ?_⟩
  · unfold Own
    rw [List.length_set, hl]
    exact h2
  · have := h.rd.set_ hi y
    simp only [Nat.zero_add] at this
    exact this.more (by simp [World.setCell])
theorem turn_zero {w : World} {g n c kk p M : Nat} {l : List UInt8} {w2 : World} (h : Has w2 w.heap.size (some ⟨g, 0, none⟩) (n + 9) c (frameB kk l)) (hb : Below w.heap.size w w2) : TurnRel w g n c kk p M l w2 0 :=
  ⟨tail5 kk l, tail5_length _ _, by simp [Nat.mod_one], by rw [← frame_parts]; exact h, hb⟩
theorem turn_unset {w : World} {g n c kk p M : Nat} {l : List UInt8} {wr : World} {j : Nat} (h : TurnRel w g n c kk p M l wr j) (hb : M / 2 ^ j % 2 = 0) : TurnRel w g n c kk p M l wr (j + 1) := by
  obtain ⟨L, h1, h2, h3, h4⟩ := h
  exact ⟨L, h1, by rw [mod_unset M j hb]; exact h2, h3, h4⟩
/-- One bit is turned. -/
theorem turn_set {w : World} {g n c kk p M : Nat} {l : List UInt8} {wr : World} {j : Nat} (h : TurnRel w g n c kk p M l wr j) (hb : M / 2 ^ j % 2 = 1) (hj : p + j < 8 * (l.length + 4)) (hg : w.heap.size ≤ g) :
    ∃ (x : Nat) (y : UInt8), x < 256 ∧ wr.cell? ⟨g, 5 + (p + j) / 8, none⟩ = some (.int .u8 (x : Int)) ∧ wr.frozen? ⟨g, 5 + (p + j) / 8, none⟩ = false ∧
      bits .xor .u8 (x : Int) (2 ^ ((p + j) % 8) % 256) = (y.toNat : Int) ∧ TurnRel w g n c kk p M l (wr.setCell ⟨g, 5 + (p + j) / 8, none⟩ (.int .u8 (y.toNat : Int))) (j + 1) := by
  obtain ⟨L, h1, h2, h3, h4⟩ := h
  have hi : (p + j) / 8 < L.length := by omega
  have hi5 : 5 + (p + j) / 8 < (hd5 kk l.length ++ L).length := by rw [List.length_append, hd5_length]; omega
  have hx := (L[(p + j) / 8]'hi).toNat_lt
  obtain ⟨hv, _⟩ := u8_turn (L[(p + j) / 8]'hi).toNat ((p + j) % 8) hx (by omega)
  have hget : (hd5 kk l.length ++ L)[5 + (p + j) / 8]'hi5 = L[(p + j) / 8]'hi := by
    rw [List.getElem_append_right (by rw [hd5_length]; omega)]
    congr 1
    rw [hd5_length]; omega
  have hset : (hd5 kk l.length ++ L).set (5 + (p + j) / 8) (UInt8.ofNat ((L[(p + j) / 8]'hi).toNat ^^^ 2 ^ ((p + j) % 8))) = hd5 kk l.length ++ L.set ((p + j) / 8) (UInt8.ofNat ((L[(p + j) / 8]'hi).toNat ^^^ 2 ^ ((p + j) % 8))) := by
    rw [List.set_append_right _ _ (by rw [hd5_length]; omega), hd5_length]
    congr 2
    omega
  refine ⟨(L[(p + j) / 8]'hi).toNat, UInt8.ofNat ((L[(p + j) / 8]'hi).toNat ^^^ 2 ^ ((p + j) % 8)), hx, ?_, ?_, hv, ?_⟩
  · obtain ⟨b, o, he, _, hc⟩ := h3.rd.at_ hi5
    injection he with he
    injection he with e1 e2
    subst e1; subst e2
    have := hc _ hi5
    rw [hget] at this
    simpa using this
  · exact World.ownsRow.frozenAt (by have := h3.own; unfold Own at this; rw [h3.len] at this; exact this) _
  · refine ⟨L.set ((p + j) / 8) (UInt8.ofNat ((L[(p + j) / 8]'hi).toNat ^^^ 2 ^ ((p + j) % 8))), by rw [List.length_set]; exact h1, ?_, ?_, h4.setCell (p := ⟨g, 5 + (p + j) / 8, none⟩) hg _⟩
    · rw [unfix_set L _ _ hi (by omega), h2, (mod_set M j hb).1, mul_xor, Nat.xor_assoc, ← Nat.pow_add]
      congr 3
      omega
    · rw [← hset]
      exact turn_stored h3 _ hi5 _
theorem turned_long (k : Int) (A : Option Addr) (n c : Nat) (at_ M : Int) (w : World) (h : 3000 < n) :
    Calls Try.prog 9 #[.int .i64 k, .slice A n c, .int .i64 at_, .int .u32 M] w fun e w' => e = .returned (.bool true) ∧ Below w.heap.size w w' := by
  go_enter Try.func9, Try.ntmps9
  go_wp2_with (go_at_call 11; (with_reducible refine (knows_any _).mono ?_); rintro e w1 ⟨rfl, hb1⟩)
  go_ret
  exact ⟨rfl, hb1⟩
set_option maxRecDepth 100000 in
set_option maxHeartbeats 1600000 in
theorem turned_short (k : Int) (A : Option Addr) (n c : Nat) (l : List UInt8) (at_ : Int) (M : Nat) (w : World) (hr : Rd w w.heap.size A l) (hn : l.length = n) (h : n ≤ 3000) (hM : M < 4294967296) :
    Calls Try.prog 9 #[.int .i64 k, .slice A n c, .int .i64 at_, .int .u32 (M : Int)] w fun e w' => e = .returned (.bool true) ∧ Below w.heap.size w w' := by
  have HN := Lib.hid hn
  obtain ⟨kk, hk1, hk2⟩ := within k 256 (by omega) (by omega)
  have hk3 : kk ≤ 255 := by omega
  obtain ⟨p, hp1, hp2⟩ := within at_ (8 * ((n : Int) + 9 - 5)) (by omega) (by omega)
  have hp3 : p < 8 * (n + 4) := by omega
  clear hn hp1
  go_enter Try.func9, Try.ntmps9
  go_wp2_with (at_builtin; refine wpList_grow _ rfl (.tmp 27) (.tmp 28) _ rfl w.heap.size _ [] rfl (own_lit w w.heap.size _ [] rfl (by simp) (Nat.le_refl _)) _ l rfl (src_at n c (hr.below ((Below.refl _ _).alloc (Nat.le_refl _) _) (Nat.le_refl _)) HN.out) (by rw [HN.out]; simp; omega) (by simp) ?_; intro A1 n1 c1 w1 h1 hb1)
  have hbw1 : Below w.heap.size w w1 := ((Below.refl _ _).alloc (Nat.le_refl _) _).trans hb1
  have hs1 := hbw1.size
  refine (frame_good kk A1 n1 c1 l w1 hk3 h1.rd h1.len (by have := h1.len; have := HN.out; simp at *; omega)).mono ?_
  rintro e w2 ⟨A2, n2, c2, rfl, h2, hb2⟩
  have hn2 : n2 = n + 9 := by have := h2.len; rw [frameB_length, HN.out] at this; exact this.symm
  subst hn2
  obtain ⟨g, rfl, hg1, hg2⟩ := h2.some_ (by omega)
  have hbw2 : Below w.heap.size w w2 := hbw1.trans (hb2.mono hs1)
  have hs2 := hbw2.size
  clear h1 hb1 hbw1 hb2 hk1 hk2
  go_wp2_with (first | (go_at_call 19; (with_reducible refine (law_num_any _ _).mono ?_); rintro e w' ⟨rfl, rfl⟩) | (go_at_call 11; (with_reducible refine (knows_any _).mono ?_); rintro e w3 ⟨rfl, hb3⟩))
  have hbw3 : Below w.heap.size w w3 := hbw2.trans (hb3.mono hs2)
  have h3 := (h2.below hb3).lower hs1
  have hg0 : w.heap.size ≤ g := Nat.le_trans hs1 hg1
  have HT := Lib.hid (turn_zero (w := w) (p := p) (M := M) h3 hbw3)
  clear hb3 h2 h3 hbw2 hbw3 hs1 hs2 hp2
  go_loopw [12, 13] (fun sm k wr => ∃ j : Nat, k = .int .i64 (j : Int) ∧ j ≤ 32 ∧ p + j ≤ 8 * (n + 4) ∧ sm = .bool (decide (M % 2 ^ j ≠ 0)) ∧ TurnRel w g n c2 kk p M l wr j) (fun _ k _ => 32 - (intOf k).toNat)
  case atStart => exact ⟨0, rfl, by omega, by omega, by simp [Nat.mod_one], HT.out⟩
  case round =>
    obtain ⟨j, rfl, hj, hpj, rfl, hrel⟩ := hrel
    clear HT
    obtain ⟨sb, hsb⟩ : ∃ sb, sb = decide (M % 2 ^ j ≠ 0) := ⟨_, rfl⟩
    rw [← hsb]
    have HB := Lib.hid hsb
    clear hsb
    have hn := HN.out
    by_cases hlt : j < 32 ∧ p + j < 8 * (n + 4)
    · obtain ⟨hlt1, hlt2⟩ := hlt
      by_cases hb : M / 2 ^ j % 2 = 1
      · have e1 : bits .and .u32 ((M : Int) / 2 ^ j) 1 = 1 := by rw [and_bit M j hM, hb]; rfl
        obtain ⟨x, y, hx, hc, hf, hv, hnext⟩ := turn_set hrel hb (by rw [hn]; exact hlt2) hg0
        have HX := Lib.hid hnext
        have HM := Lib.hid (mod_set M j hb).2
        clear hrel hnext hb hn
        go_wp2
        go_roundw
        case rel => exact ⟨j + 1, by go_num, by omega, by omega, by rw [decide_eq_true HM.out], HX.out⟩
        case measure => simp [intOf]; omega
      · have hb0 : M / 2 ^ j % 2 = 0 := by omega
        have e1 : bits .and .u32 ((M : Int) / 2 ^ j) 1 = 0 := by rw [and_bit M j hM, hb0]; rfl
        have HX := Lib.hid (turn_unset hrel hb0)
        have HM := Lib.hid (mod_unset M j hb0)
        clear hrel hb hb0 hn
        go_wp2
        go_roundw
        case rel => exact ⟨j + 1, by go_num, by omega, by omega, by rw [HM.out, HB.out], HX.out⟩
        case measure => simp [intOf]; omega
    · have hp8 : p ≤ 8 * (l.length + 4) := by omega
      obtain ⟨L, hL1, hL2, hL3, hL4⟩ := hrel
      have hs4 := hL4.size
      have hmlt : M % 2 ^ j < 4294967296 := Nat.lt_of_le_of_lt (Nat.mod_le _ _) hM
      have hun := unframe_any _ _ _ _ wr hL3.rd hL3.len hL3.cap (by omega)
      have tb : ∀ W : World, Below wr.heap.size wr W → (convert 22 9 (.slice A n c)).run Try.prog W = .ok (.string ⟨l.toArray⟩) W := fun W hW =>
        text_of W n c ((hr.below hL4 (Nat.le_refl _)).below hW hs4) HN.out
      have TB := Lib.hid tb
      by_cases hm : M % 2 ^ j = 0
      · have hsb : sb = false := by rw [HB.out, hm]; simp
        subst hsb
        have e := turned_same kk l L p _ hL1 hL2 hm
        rw [e, unE_frame kk l (by omega), unK_frame kk l (by omega) hk3, unC_frame kk l (by omega)] at hun
        have UF := Lib.hid hun
        clear tb hun e hL1 hL2 hL3 hm hmlt hp8 hn HB
        by_cases h32 : j < 32
        all_goals
          have hpe : j < 32 → ¬ p + j < 8 * (n + 4) := fun h1 h2 => hlt ⟨h1, h2⟩
          try (have hpe2 := hpe h32)
          clear hpe
          go_wp2_with (first | (go_at_call 23; (with_reducible refine UF.out.mono ?_); rintro e w5 ⟨A5, n5, c5, rfl, h5, hb5⟩; have t5 := text_of w5 n5 c5 h5.rd h5.len; have tb5 := TB.out w5 hb5) | (go_at_call 19; (with_reducible refine (law_num_any _ _).mono ?_); rintro e w' ⟨rfl, rfl⟩))
          go_ret
          exact ⟨rfl, hL4.trans (hb5.mono hs4)⟩
      · have hsb : sb = true := by rw [HB.out]; simp [hm]
        subst hsb
        have e := turned_other kk l L p _ (by omega) hL1 hL2 hp8 hmlt hm
        have e2 : unC (hd5 kk l.length ++ L) = [] := by unfold unC; rw [e, if_neg (by omega)]
        rw [e, e2] at hun
        have UF := Lib.hid hun
        clear tb hun e e2 hL1 hL2 hL3 hm hmlt hp8 hn HB TB
        by_cases h32 : j < 32
        all_goals
          have hpe : j < 32 → ¬ p + j < 8 * (n + 4) := fun h1 h2 => hlt ⟨h1, h2⟩
          try (have hpe2 := hpe h32)
          clear hpe
          go_wp2_with (first | (go_at_call 23; (with_reducible refine UF.out.mono ?_); rintro e w5 ⟨A5, n5, c5, rfl, h5, hb5⟩; obtain rfl : n5 = 0 := h5.len.symm) | (go_at_call 19; (with_reducible refine (law_num_any _ _).mono ?_); rintro e w' ⟨rfl, rfl⟩))
          go_ret
          exact ⟨rfl, hL4.trans (hb5.mono hs4)⟩
theorem turned_walk (a0 : Int) (a1 : Option Addr) (len1 cap1 : Nat) (z1 : List Int) (a2 a3 : Int) (w : World) (w1 : RowIn .u8 w a1 len1 cap1 z1) (w3 : (Lit.int .u32 a3).wf = true) :
    Calls Try.prog 9 #[.int .i64 a0, .slice a1 len1 cap1, .int .i64 a2, .int .u32 a3] w fun e w' => e = .returned (.bool true) ∧ Below w.heap.size w w' := by
  obtain ⟨l, hl, hr, hc⟩ := rd_of_row w1
  by_cases h : 3000 < len1
  · exact turned_long a0 a1 len1 cap1 a2 a3 w h
  · have hm : 0 ≤ a3 ∧ a3 < 4294967296 := by
      simp [Lit.wf, IntKind.min, IntKind.max, IntKind.signed, IntKind.bits] at w3
      omega
    obtain ⟨M, rfl⟩ := Int.eq_ofNat_of_zero_le hm.1
    exact turned_short a0 a1 len1 cap1 l a2 M w hr hl (by omega) (by omega)
end Go.Proofs.Ytgbgbkfbiebjgaa
