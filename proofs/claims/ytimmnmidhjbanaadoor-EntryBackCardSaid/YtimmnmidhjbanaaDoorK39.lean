/- glebelaw07's own Rec, Op, Ans, RefRec, RefOp, RefAns, num, long. There and back: what is put is read as it was, what is read is put as it was. Pure. -/
import Derived.Test.YtimmnmidhjbanaaDoorK20
import Derived.Test.YtimmnmidhjbanaaDoorK23
import Derived.Test.YtimmnmidhjbanaaDoorK35
namespace Go.Proofs.YtimmnmidhjbanaaDoor
open Go.RowKit
set_option linter.unusedVariables false
theorem lawOp_any (kind : Int) (x : Int) (y : Int) (key : ByteArray) (val : ByteArray) (cl : Int) (seq : Int) (w : World) : Calls Tryd.prog 43 #[.agg #[.int .i64 kind, .int .i64 x, .int .i64 y, .string key, .string val, .int .i64 cl, .int .i64 seq]] w fun e w' => e = .returned (.agg #[.int .i64 kind, .int .i64 x, .int .i64 y, .string key, .string val, .int .i64 cl, .int .i64 seq]) ∧ Below w.heap.size w w' := by
  go_enter Tryd.func43, Tryd.ntmps43
  go_wp2
  exact bodyPost_ret (results_cell_row rfl _ _ (w.heap.size + 1) 35 _ (0, 0) _ rfl ((Whole.new (w.alloc _) _ _).at_ (by simp)) Tryd.underlying35 rfl (by kernel_rfl)) rfl ⟨rfl, ((Since.refl w).alloc _).alloc _⟩
end Go.Proofs.YtimmnmidhjbanaaDoor
namespace Go.Proofs.YtimmnmidhjbanaaDoor
set_option linter.unusedVariables false
theorem numS_numL {z : Int} (h : 0 ≤ z ∧ z ≤ 9007199254740992) (r : List UInt8) : numS (numL z ++ r, 0) = (z, (r, 0)) := by
  have e : numL z = numB z.toNat := by unfold numL; rw [if_pos h]
  unfold numS numR
  simp only [if_true]
  rw [e, dec_numB _ z.toNat (Nat.le_refl _) (by omega)]
  simp only [List.drop_left, Prod.mk.injEq, and_true]
  omega
theorem txS_textL {s : ByteArray} (h : s.size ≤ 32) (r : List UInt8) : txS (textL s ++ r, 0) = (s, (r, 0)) := by
  have hl : s.data.toList.length = s.size := by simp
  have e1 : up 32 (textL s ++ r) = (s.size, (numB s.size).length, 0) := by
    unfold textL textB
    rw [hl, List.append_assoc]
    exact up_numB 32 s.size (by omega) (by omega) _
  have e2 : tx 32 (textL s ++ r) = (s.data.toList, (textL s).length, 0) := by
    unfold tx
    rw [e1]
    have hn : ¬ (textL s ++ r).length < (numB s.size).length + s.size := by
      unfold textL textB
      rw [hl]
      simp [hl]
    rw [if_pos rfl, if_neg hn]
    have h3 : (textL s ++ r).drop (numB s.size).length = s.data.toList ++ r := by
      unfold textL textB
      rw [hl, List.append_assoc, List.drop_left]
    simp only [h3, Prod.mk.injEq, and_true]
    refine ⟨?_, ?_⟩
    · rw [← hl, List.take_left]
    · unfold textL textB
      rw [hl, List.length_append, hl]
  unfold txS txR
  simp only [if_true]
  rw [e2]
  simp
/-- What was read as a number. -/
theorem numS_came {l l' : List UInt8} {x e' : Int} {e : Int} (h : numS (l, e) = (x, (l', e'))) (he : e' = 0) : e = 0 ∧ (0 ≤ x ∧ x ≤ 9007199254740992) ∧ l = numL x ++ l' := by
  unfold numS numR at h
  by_cases h0 : e = 0
  · subst h0
    simp only [if_true, Prod.mk.injEq] at h
    obtain ⟨h1, h2, h3⟩ := h
    rcases dec_came 9007199254740992 l 0 0 with ⟨_, _, h4⟩ | ⟨t, N, g1, g2, g3, g4, g5, g6, _⟩
    · rw [h3] at h4; omega
    · have hx : x = (N : Int) := by rw [← h1, g4]; simp
      have hr : 0 ≤ x ∧ x ≤ 9007199254740992 := by rw [← h1]; omega
      refine ⟨rfl, hr, ?_⟩
      unfold numL
      rw [if_pos hr, hx]
      have : (N : Int).toNat = N := by omega
      rw [this, g5, ← h2, g2, Nat.zero_add, List.take_append_drop]
  · rw [if_neg h0] at h
    simp only [Prod.mk.injEq] at h
    exact absurd (h.2.2.trans he) h0
theorem txS_came {l l' : List UInt8} {x : ByteArray} {e' e : Int} (h : txS (l, e) = (x, (l', e'))) (he : e' = 0) : e = 0 ∧ x.size ≤ 32 ∧ l = textL x ++ l' := by
  unfold txS txR at h
  by_cases h0 : e = 0
  · subst h0
    simp only [if_true, Prod.mk.injEq] at h
    obtain ⟨h1, h2, h3⟩ := h
    rw [he] at h3
    unfold tx at h1 h2 h3
    by_cases hu : (up 32 l).2.2 = 0
    · rw [if_pos hu] at h1 h2 h3
      by_cases hlt : l.length < (up 32 l).2.1 + (up 32 l).1
      · rw [if_pos hlt] at h3; simp at h3
      · rw [if_neg hlt] at h1 h2 h3
        simp only at h1 h2 h3
        have hup : up 32 l = dec 9007199254740992 0 0 l ∧ (up 32 l).1 ≤ 32 := by
          unfold up at hu ⊢
          by_cases hc : (dec 9007199254740992 0 0 l).2.2 = 0 ∧ (32 : Int) < ((dec 9007199254740992 0 0 l).1 : Int)
          · rw [if_pos hc] at hu; simp at hu
          · rw [if_neg hc] at hu ⊢
            exact ⟨rfl, by omega⟩
        obtain ⟨hd, h32⟩ := hup
        rw [hd] at h1 h2 hu hlt h32
        rcases dec_came 9007199254740992 l 0 0 with ⟨_, _, h4⟩ | ⟨t, N, g1, g2, g3, g4, g5, g6, _⟩
        · rw [hu] at h4; omega
        · have hN : (dec 9007199254740992 0 0 l).1 = N := by rw [g4]; simp
          have ht : (dec 9007199254740992 0 0 l).2.1 = t := by omega
          rw [hN, ht] at h1 h2 hlt
          rw [hN] at h32
          have hsz : x.size = N := by
            rw [← h1]
            show ((List.take N (List.drop t l)).toArray).size = N
            rw [List.size_toArray, List.length_take, List.length_drop]
            omega
          have hxl : x.data.toList = (l.drop t).take N := by rw [← h1]
          refine ⟨rfl, by omega, ?_⟩
          unfold textL textB
          have hlen : x.data.toList.length = N := by rw [hxl, List.length_take, List.length_drop]; omega
          rw [hlen, g5, hxl, ← h2, ← List.drop_drop, List.append_assoc, List.take_append_drop, List.take_append_drop]
    · rw [if_neg hu] at h3
      exact absurd h3 hu
  · rw [if_neg h0] at h
    simp only [Prod.mk.injEq] at h
    exact absurd (h.2.2.trans he) h0
theorem failS_ok (s : RSt) : failS true s = s := rfl
theorem failS_zero {ok : Bool} {s : RSt} (h : (failS ok s).2 = 0) : ok = true ∧ failS ok s = s := by
  unfold failS at h ⊢
  cases ok with
  | true => exact ⟨rfl, rfl⟩
  | false =>
    simp only [Bool.false_eq_true, if_false] at h
    unfold failR at h
    split at h
    · simp at h
    · rename_i hn; exact absurd h hn
theorem read_opL {kind x y : Int} {key val : ByteArray} {cl seq : Int} (h : opB kind x y key val cl seq = true) (r : List UInt8) : readOp (opL kind x y key val cl seq ++ r, 0) = ((kind, x, y, key, val, cl, seq), (r, 0)) := by
  have hb := opB_bd h
  have e : opL kind x y key val cl seq ++ r = numL kind ++ (numL x ++ (numL y ++ (textL key ++ (textL val ++ (numL cl ++ (numL seq ++ r)))))) := by unfold opL; simp
  rw [e]
  unfold readOp
  simp only [numS_numL (show 0 ≤ kind ∧ kind ≤ 9007199254740992 by omega), numS_numL (show 0 ≤ x ∧ x ≤ 9007199254740992 by omega), numS_numL (show 0 ≤ y ∧ y ≤ 9007199254740992 by omega), txS_textL (show key.size ≤ 32 by omega), txS_textL (show val.size ≤ 32 by omega), numS_numL (show 0 ≤ cl ∧ cl ≤ 9007199254740992 by omega), numS_numL (show 0 ≤ seq ∧ seq ≤ 9007199254740992 by omega), h, failS_ok, if_true]
theorem op_came {l : List UInt8} {kind x y : Int} {key val : ByteArray} {cl seq : Int} {t : RSt} (h : readOp (l, 0) = ((kind, x, y, key, val, cl, seq), t)) (ht : t.2 = 0) : opB kind x y key val cl seq = true ∧ l = opL kind x y key val cl seq ++ t.1 := by
  unfold readOp at h
  obtain ⟨⟨a0, s0⟩, e0⟩ : ∃ r, numS (l, 0) = r := ⟨_, rfl⟩
  obtain ⟨⟨a1, s1⟩, e1⟩ : ∃ r, numS s0 = r := ⟨_, rfl⟩
  obtain ⟨⟨a2, s2⟩, e2⟩ : ∃ r, numS s1 = r := ⟨_, rfl⟩
  obtain ⟨⟨a3, s3⟩, e3⟩ : ∃ r, txS s2 = r := ⟨_, rfl⟩
  obtain ⟨⟨a4, s4⟩, e4⟩ : ∃ r, txS s3 = r := ⟨_, rfl⟩
  obtain ⟨⟨a5, s5⟩, e5⟩ : ∃ r, numS s4 = r := ⟨_, rfl⟩
  obtain ⟨⟨a6, s6⟩, e6⟩ : ∃ r, numS s5 = r := ⟨_, rfl⟩
  simp only [e0, e1, e2, e3, e4, e5, e6] at h
  injection h with h1 h2
  rw [h2, if_pos ht] at h1
  simp only [Prod.mk.injEq] at h1
  obtain ⟨rfl, rfl, rfl, rfl, rfl, rfl, rfl⟩ := h1
  rw [← h2] at ht
  obtain ⟨hok, hs⟩ := failS_zero ht
  rw [hs] at h2 ht
  subst h2
  obtain ⟨k5, _, q6⟩ := numS_came e6 ht
  obtain ⟨k4, _, q5⟩ := numS_came e5 k5
  obtain ⟨k3, _, q4⟩ := txS_came e4 k4
  obtain ⟨k2, _, q3⟩ := txS_came e3 k3
  obtain ⟨k1, _, q2⟩ := numS_came e2 k2
  obtain ⟨k0, _, q1⟩ := numS_came e1 k1
  obtain ⟨_, _, q0⟩ := numS_came e0 k0
  refine ⟨hok, ?_⟩
  rw [q0, q1, q2, q3, q4, q5, q6]
  unfold opL
  simp
end Go.Proofs.YtimmnmidhjbanaaDoor
