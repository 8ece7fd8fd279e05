/- What Heirs answers, of a split or a move that may be. No program. Entries there and back: what is put is read as it was, what is read is put as it was. Pure. -/
import Derived.Test.YtimmnmidhjbanaaDoorK26
import Derived.Test.YtimmnmidhjbanaaDoorK38
import Derived.Test.YtimmnmidhjbanaaDoorK39
namespace Go.Proofs.YtimmnmidhjbanaaDoor
open Go.RowKit
set_option linter.unusedVariables false
theorem move_parts {e : En} {l : List Int} (h : rightB e l = true) (hk : e.kind = 4 ∨ e.kind = 5) : (0 ≤ e.bx ∧ e.bx < 8) ∧ ChainP l ∧ e.nd ∈ l ∧ e.bx ∉ l := by
  unfold rightB at h
  rw [if_neg (by omega), if_neg (by omega), if_pos hk] at h
  simp only [Bool.and_eq_true, nodeB_iff, chainB_iff, memZ_iff, Bool.not_eq_true', memZ_false] at h
  exact ⟨h.2.2.1, h.2.2.2.1, h.2.2.2.2.1, h.2.2.2.2.2⟩
end Go.Proofs.YtimmnmidhjbanaaDoor
namespace Go.Proofs.YtimmnmidhjbanaaDoor
open Go.RowKit
set_option linter.unusedVariables false
theorem up8_numL {n : Nat} (h : n ≤ 8) (r : List UInt8) : up8 (numL (n : Int) ++ r, 0) = ((n : Int), (r, 0)) := by
  have e : numL (n : Int) = numB n := by unfold numL; rw [if_pos (by omega)]; rfl
  unfold up8 upR
  simp only [if_true]
  rw [e, up_numB 8 n (by omega) (by omega)]
  simp only [List.drop_left]
theorem up8_came {l l' : List UInt8} {x e' e : Int} (h : up8 (l, e) = (x, (l', e'))) (he : e' = 0) : e = 0 ∧ (0 ≤ x ∧ x ≤ 8) ∧ l = numL x ++ l' := by
  have h8 := up8_le (l, e)
  rw [h] at h8
  have hn : numS (l, e) = (x, (l', e')) := by
    unfold up8 upR at h
    unfold numS numR
    dsimp only at h ⊢
    by_cases h0 : e = 0
    · rw [if_pos h0] at h ⊢
      unfold up at h
      split at h
      · simp only [Prod.mk.injEq] at h
        omega
      · exact h
    · rw [if_neg h0] at h ⊢
      exact h
  obtain ⟨h1, _, h3⟩ := numS_came hn he
  exact ⟨h1, h8, h3⟩
theorem readNums_back : ∀ (n : Nat) (l : List Int) (r : List UInt8), l.length = n → (∀ x ∈ l, 0 ≤ x ∧ x ≤ 9007199254740992) → readNums n (l.flatMap numL ++ r, 0) = (l, (r, 0))
  | 0, l, r, hn, _ => by
    obtain rfl : l = [] := List.eq_nil_of_length_eq_zero hn
    rfl
  | n + 1, l, r, hn, hx => by
    have hne : l ≠ [] := by rintro rfl; simp at hn
    have hl := List.dropLast_concat_getLast hne
    have ih := readNums_back n l.dropLast (numL (l.getLast hne) ++ r) (by rw [List.length_dropLast]; omega) (fun x h => hx x ((List.dropLast_sublist l).subset h))
    have e : l.flatMap numL ++ r = l.dropLast.flatMap numL ++ (numL (l.getLast hne) ++ r) := by
      conv => lhs; rw [← hl]
      simp
    unfold readNums
    rw [e, ih]
    dsimp only
    rw [numS_numL (hx _ (List.getLast_mem hne))]
    dsimp only
    rw [hl]
theorem readNums_came : ∀ (n : Nat) {s t : RSt} {l : List Int}, readNums n s = (l, t) → t.2 = 0 → s.2 = 0 ∧ s.1 = l.flatMap numL ++ t.1
  | 0, s, t, l, h, ht => by
    injection h with h1 h2
    subst h1; subst h2
    exact ⟨ht, rfl⟩
  | n + 1, s, t, l, h, ht => by
    unfold readNums at h
    obtain ⟨⟨l1, s1⟩, h1⟩ : ∃ p, readNums n s = p := ⟨_, rfl⟩
    rw [h1] at h
    dsimp only at h
    obtain ⟨⟨x, s2⟩, h2⟩ : ∃ p, numS s1 = p := ⟨_, rfl⟩
    rw [h2] at h
    injection h with e1 e2
    subst e1; subst e2
    obtain ⟨g1, _, g3⟩ := numS_came (l := s1.1) (e := s1.2) (l' := s2.1) (e' := s2.2) h2 ht
    obtain ⟨g4, g5⟩ := readNums_came n h1 g1
    refine ⟨g4, ?_⟩
    rw [g5, g3]
    simp
theorem readChain_back {l : List Int} (h : chainB l = true) (r : List UInt8) : readChain (chainL l ++ r, 0) = (l, (r, 0)) := by
  have hc := (chainB_iff l).1 h
  have h8 := chain_len hc
  unfold readChain chainL
  rw [List.append_assoc, up8_numL h8]
  dsimp only
  rw [Int.toNat_natCast, readNums_back l.length l r rfl (fun x hx => by have := hc.1 x hx; omega)]
  dsimp only
  rw [h, failS_ok]
  rfl
theorem readChain_came {s t : RSt} {l : List Int} (h : readChain s = (l, t)) (ht : t.2 = 0) : s.2 = 0 ∧ chainB l = true ∧ s.1 = chainL l ++ t.1 := by
  unfold readChain at h
  obtain ⟨⟨x, s1⟩, h1⟩ : ∃ p, up8 s = p := ⟨_, rfl⟩
  rw [h1] at h
  dsimp only at h
  obtain ⟨⟨l1, s2⟩, h2⟩ : ∃ p, readNums x.toNat s1 = p := ⟨_, rfl⟩
  rw [h2] at h
  dsimp only at h
  injection h with e1 e2
  rw [e2, if_pos ht] at e1
  subst e1
  rw [← e2] at ht
  obtain ⟨hok, hs⟩ := failS_zero ht
  rw [hs] at e2 ht
  subst e2
  obtain ⟨g1, g2⟩ := readNums_came _ h2 ht
  obtain ⟨g3, g4, g5⟩ := up8_came (l := s.1) (e := s.2) (l' := s1.1) (e' := s1.2) h1 g1
  refine ⟨g3, hok, ?_⟩
  have hl := readNums_len x.toNat s1
  rw [h2] at hl
  dsimp only at hl
  have hx : (l1.length : Int) = x := by omega
  rw [g5, g2]
  unfold chainL
  rw [hx, List.append_assoc]
theorem op_ok {l : List UInt8} {e : Int} {kind x y : Int} {key val : ByteArray} {cl seq : Int} {t : RSt} (h : readOp (l, e) = ((kind, x, y, key, val, cl, seq), t)) (ht : t.2 = 0) : e = 0 := by
  unfold readOp at h
  obtain ⟨⟨a0, s0⟩, e0⟩ : ∃ r, numS (l, e) = r := ⟨_, rfl⟩
  obtain ⟨⟨a1, s1⟩, e1⟩ : ∃ r, numS s0 = r := ⟨_, rfl⟩
  obtain ⟨⟨a2, s2⟩, e2⟩ : ∃ r, numS s1 = r := ⟨_, rfl⟩
  obtain ⟨⟨a3, s3⟩, e3⟩ : ∃ r, txS s2 = r := ⟨_, rfl⟩
  obtain ⟨⟨a4, s4⟩, e4⟩ : ∃ r, txS s3 = r := ⟨_, rfl⟩
  obtain ⟨⟨a5, s5⟩, e5⟩ : ∃ r, numS s4 = r := ⟨_, rfl⟩
  obtain ⟨⟨a6, s6⟩, e6⟩ : ∃ r, numS s5 = r := ⟨_, rfl⟩
  simp only [e0, e1, e2, e3, e4, e5, e6] at h
  injection h with h1 h2
  rw [← h2] at ht
  obtain ⟨hok, hs⟩ := failS_zero ht
  rw [hs] at ht
  obtain ⟨k5, _, _⟩ := numS_came e6 ht
  obtain ⟨k4, _, _⟩ := numS_came e5 k5
  obtain ⟨k3, _, _⟩ := txS_came e4 k4
  obtain ⟨k2, _, _⟩ := txS_came e3 k3
  obtain ⟨k1, _, _⟩ := numS_came e2 k2
  obtain ⟨k0, _, _⟩ := numS_came e1 k1
  exact (numS_came e0 k0).1
/-- What is put is read as it was. -/
theorem readEnt_back {e : En} {l : List Int} (h : rightB e l = true) (r : List UInt8) : readEnt (entL e l ++ r, 0) = ((e, l), (r, 0)) := by
  have hraw : readRaw (entL e l ++ r, 0) = ((e, l), (r, 0)) := by
    have h0 := h
    unfold rightB at h
    have hk : 0 ≤ e.kind ∧ e.kind ≤ 9007199254740992 := by
      split at h
      · omega
      · split at h
        · omega
        · split at h
          · omega
          · cases h
    unfold entL readRaw
    rw [List.append_assoc, numS_numL hk]
    dsimp only
    unfold readBody contL
    obtain ⟨kind, ok, x, y, key, val, cl, seq, nd, ep, bx⟩ := e
    dsimp only at h hk ⊢
    by_cases k1 : kind = 1
    · rw [if_pos k1] at h
      simp only [Bool.and_eq_true, beq_iff_eq, List.isEmpty_iff] at h
      obtain ⟨h1, rfl, rfl, rfl, rfl⟩ := h
      rw [if_pos k1, if_pos k1, read_opL (show opB ok x y key val cl seq = true from h1)]
    · rw [if_neg k1] at h
      rw [if_neg k1, if_neg k1]
      by_cases k2 : kind = 2 ∨ kind = 3
      · rw [if_pos k2] at h
        rw [if_pos k2, if_pos k2]
        simp only [Bool.and_eq_true, beq_iff_eq, List.isEmpty_iff, nodeB_iff] at h
        obtain ⟨hz, hn, rfl, rfl, rfl⟩ := h
        unfold opZ at hz
        simp only [Bool.and_eq_true, beq_iff_eq, decide_eq_true_eq] at hz
        obtain ⟨rfl, rfl, rfl, rfl, rfl, rfl, rfl⟩ := hz
        rw [numS_numL (by omega)]
      · rw [if_neg k2] at h
        rw [if_neg k2, if_neg k2]
        by_cases k4 : kind = 4 ∨ kind = 5
        · rw [if_pos k4] at h
          rw [if_pos k4]
          have hmp := move_parts h0 k4
          simp only [Bool.and_eq_true, nodeB_iff, epochB_iff] at h
          obtain ⟨hz, hep, hb, hc, hi, _⟩ := h
          unfold opZ at hz
          simp only [Bool.and_eq_true, beq_iff_eq, decide_eq_true_eq] at hz
          obtain ⟨rfl, rfl, rfl, rfl, rfl, rfl, rfl⟩ := hz
          have hnd : 0 ≤ nd ∧ nd < 8 := hmp.2.1.1 _ hmp.2.2.1
          rw [show [nd, ep, bx].flatMap numL = numL nd ++ (numL ep ++ numL bx) by simp, List.append_assoc, List.append_assoc, List.append_assoc, numS_numL (by omega)]
          dsimp only
          rw [numS_numL (by omega)]
          dsimp only
          rw [numS_numL (by omega)]
          dsimp only
          rw [readChain_back hc]
        · rw [if_neg k4] at h; cases h
  unfold readEnt
  rw [hraw]
  dsimp only
  rw [h, failS_ok]
  rfl
/-- What is read is put as it was. -/
theorem readEnt_came {b : List UInt8} {e : En} {l : List Int} {t : RSt} (h : readEnt (b, 0) = ((e, l), t)) (ht : t.2 = 0) : rightB e l = true ∧ b = entL e l ++ t.1 := by
  unfold readEnt at h
  obtain ⟨⟨⟨e1, l1⟩, s1⟩, hr⟩ : ∃ p, readRaw (b, 0) = p := ⟨_, rfl⟩
  rw [hr] at h
  dsimp only at h
  injection h with h1 h2
  rw [h2, if_pos ht] at h1
  injection h1 with h1 h3
  subst h1; subst h3
  rw [← h2] at ht
  obtain ⟨hok, hs⟩ := failS_zero ht
  rw [hs] at h2 ht
  subst h2
  refine ⟨hok, ?_⟩
  rw [readRaw_eq] at hr
  obtain ⟨⟨k, s0⟩, hk⟩ : ∃ p, numS (b, 0) = p := ⟨_, rfl⟩
  rw [hk] at hr
  dsimp only at hr
  have hb : s0.2 = 0 → b = numL k ++ s0.1 := fun z => (numS_came (l' := s0.1) (e' := s0.2) hk z).2.2
  unfold readBody at hr
  split at hr
  · next k1 =>
    obtain ⟨⟨⟨rk, rx, ry, rkey, rval, rcl, rseq⟩, s2⟩, ho⟩ : ∃ p, readOp s0 = p := ⟨_, rfl⟩
    rw [ho] at hr
    simp only [Prod.mk.injEq] at hr
    obtain ⟨⟨rfl, rfl⟩, rfl⟩ := hr
    have hz := op_ok (l := s0.1) (e := s0.2) ho ht
    obtain ⟨s0l, s0e⟩ := s0
    dsimp only at hz
    subst hz
    have hc := (op_came ho ht).2
    unfold entL contL
    dsimp only
    rw [if_pos k1, List.append_assoc, ← hc]
    exact hb rfl
  · next k1 =>
    split at hr
    · next k2 =>
      obtain ⟨⟨x, s2⟩, hx⟩ : ∃ p, numS s0 = p := ⟨_, rfl⟩
      rw [hx] at hr
      simp only [Prod.mk.injEq] at hr
      obtain ⟨⟨rfl, rfl⟩, rfl⟩ := hr
      obtain ⟨g1, _, g3⟩ := numS_came (l := s0.1) (e := s0.2) (l' := s2.1) (e' := s2.2) hx ht
      unfold entL contL
      dsimp only
      rw [if_neg k1, if_pos k2, List.append_assoc, ← g3]
      exact hb g1
    · next k2 =>
      split at hr
      · next k4 =>
        obtain ⟨⟨x, s2⟩, hx⟩ : ∃ p, numS s0 = p := ⟨_, rfl⟩
        obtain ⟨⟨y, s3⟩, hy⟩ : ∃ p, numS s2 = p := ⟨_, rfl⟩
        obtain ⟨⟨z, s4⟩, hz⟩ : ∃ p, numS s3 = p := ⟨_, rfl⟩
        obtain ⟨⟨lc, s5⟩, hl⟩ : ∃ p, readChain s4 = p := ⟨_, rfl⟩
        simp only [hx, hy, hz, hl, Prod.mk.injEq] at hr
        obtain ⟨⟨rfl, rfl⟩, rfl⟩ := hr
        obtain ⟨g1, _, g3⟩ := readChain_came hl ht
        obtain ⟨g4, _, g6⟩ := numS_came (l := s3.1) (e := s3.2) (l' := s4.1) (e' := s4.2) hz g1
        obtain ⟨g7, _, g9⟩ := numS_came (l := s2.1) (e := s2.2) (l' := s3.1) (e' := s3.2) hy g4
        obtain ⟨ga, _, gc⟩ := numS_came (l := s0.1) (e := s0.2) (l' := s2.1) (e' := s2.2) hx g7
        unfold entL contL
        dsimp only
        rw [if_neg k1, if_neg k2, hb ga, gc, g9, g6, g3]
        simp
      · next k4 =>
        simp only [Prod.mk.injEq] at hr
        obtain ⟨⟨rfl, rfl⟩, rfl⟩ := hr
        unfold rightB at hok
        dsimp only at hok
        rw [if_neg k1, if_neg k2, if_neg k4] at hok
        cases hok
end Go.Proofs.YtimmnmidhjbanaaDoor
