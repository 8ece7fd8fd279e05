/- There and back: what is put is read as it was, what is read is put as it was. Pure. -/
import Derived.Test.YtbgfjkgpekkciaaDoorK18
import Derived.Test.YtbgfjkgpekkciaaDoorK19
namespace Go.Proofs.YtbgfjkgpekkciaaDoor
set_option linter.unusedVariables false
theorem numS_numL {z : Int} (h : 0 ≤ z ∧ z ≤ 9007199254740992) (r : List UInt8) : numS (numL z ++ r, 0) = (z, (r, 0)) := by
  have e : numL z = numB z.toNat := by unfold numL; rw [if_pos h]
  unfold numS numR
  simp only [if_true]
  rw [e, dec_numB _ z.toNat (Nat.le_refl _) (by omega)]
  simp only [List.drop_left, Prod.mk.injEq, and_true]
  omega
theorem txS_textL {s : ByteArray} (h : s.size ≤ 32) (r : List UInt8) : txS (textL s ++ r, 0) = (s, (r, 0)) := by
  have hl : s.data.toList.length = s.size := by simp
  have e1 : up 32 (textL s ++ r) = (s.size, (numB s.size).length, 0) := by
    unfold textL textB
    rw [hl, List.append_assoc]
    exact up_numB 32 s.size (by omega) (by omega) _
  have e2 : tx 32 (textL s ++ r) = (s.data.toList, (textL s).length, 0) := by
    unfold tx
    rw [e1]
    have hn : ¬ (textL s ++ r).length < (numB s.size).length + s.size := by
      unfold textL textB
      rw [hl]
      simp [hl]
    rw [if_pos rfl, if_neg hn]
    have h3 : (textL s ++ r).drop (numB s.size).length = s.data.toList ++ r := by
      unfold textL textB
      rw [hl, List.append_assoc, List.drop_left]
    simp only [h3, Prod.mk.injEq, and_true]
    refine ⟨?_, ?_⟩
    · rw [← hl, List.take_left]
    · unfold textL textB
      rw [hl, List.length_append, hl]
  unfold txS txR
  simp only [if_true]
  rw [e2]
  simp
/-- What was read as a number. -/
theorem numS_came {l l' : List UInt8} {x e' : Int} {e : Int} (h : numS (l, e) = (x, (l', e'))) (he : e' = 0) : e = 0 ∧ (0 ≤ x ∧ x ≤ 9007199254740992) ∧ l = numL x ++ l' := by
  unfold numS numR at h
  by_cases h0 : e = 0
  · subst h0
    simp only [if_true, Prod.mk.injEq] at h
    obtain ⟨h1, h2, h3⟩ := h
    rcases dec_came 9007199254740992 l 0 0 with ⟨_, _, h4⟩ | ⟨t, N, g1, g2, g3, g4, g5, g6, _⟩
    · rw [h3] at h4; omega
    · have hx : x = (N : Int) := by rw [← h1, g4]; simp
      have hr : 0 ≤ x ∧ x ≤ 9007199254740992 := by rw [← h1]; omega
      refine ⟨rfl, hr, ?_⟩
      unfold numL
      rw [if_pos hr, hx]
      have : (N : Int).toNat = N := by omega
      rw [this, g5, ← h2, g2, Nat.zero_add, List.take_append_drop]
  · rw [if_neg h0] at h
    simp only [Prod.mk.injEq] at h
    exact absurd (h.2.2.trans he) h0
theorem txS_came {l l' : List UInt8} {x : ByteArray} {e' e : Int} (h : txS (l, e) = (x, (l', e'))) (he : e' = 0) : e = 0 ∧ x.size ≤ 32 ∧ l = textL x ++ l' := by
  unfold txS txR at h
  by_cases h0 : e = 0
  · subst h0
    simp only [if_true, Prod.mk.injEq] at h
    obtain ⟨h1, h2, h3⟩ := h
    rw [he] at h3
    unfold tx at h1 h2 h3
    by_cases hu : (up 32 l).2.2 = 0
    · rw [if_pos hu] at h1 h2 h3
      by_cases hlt : l.length < (up 32 l).2.1 + (up 32 l).1
      · rw [if_pos hlt] at h3; simp at h3
      · rw [if_neg hlt] at h1 h2 h3
        simp only at h1 h2 h3
        have hup : up 32 l = dec 9007199254740992 0 0 l ∧ (up 32 l).1 ≤ 32 := by
          unfold up at hu ⊢
          by_cases hc : (dec 9007199254740992 0 0 l).2.2 = 0 ∧ (32 : Int) < ((dec 9007199254740992 0 0 l).1 : Int)
          · rw [if_pos hc] at hu; simp at hu
          · rw [if_neg hc] at hu ⊢
            exact ⟨rfl, by omega⟩
        obtain ⟨hd, h32⟩ := hup
        rw [hd] at h1 h2 hu hlt h32
        rcases dec_came 9007199254740992 l 0 0 with ⟨_, _, h4⟩ | ⟨t, N, g1, g2, g3, g4, g5, g6, _⟩
        · rw [hu] at h4; omega
        · have hN : (dec 9007199254740992 0 0 l).1 = N := by rw [g4]; simp
          have ht : (dec 9007199254740992 0 0 l).2.1 = t := by omega
          rw [hN, ht] at h1 h2 hlt
          rw [hN] at h32
          have hsz : x.size = N := by
            rw [← h1]
            show ((List.take N (List.drop t l)).toArray).size = N
            rw [List.size_toArray, List.length_take, List.length_drop]
            omega
          have hxl : x.data.toList = (l.drop t).take N := by rw [← h1]
          refine ⟨rfl, by omega, ?_⟩
          unfold textL textB
          have hlen : x.data.toList.length = N := by rw [hxl, List.length_take, List.length_drop]; omega
          rw [hlen, g5, hxl, ← h2, ← List.drop_drop, List.append_assoc, List.take_append_drop, List.take_append_drop]
    · rw [if_neg hu] at h3
      exact absurd h3 hu
  · rw [if_neg h0] at h
    simp only [Prod.mk.injEq] at h
    exact absurd (h.2.2.trans he) h0
theorem failS_ok (s : RSt) : failS true s = s := rfl
theorem failS_zero {ok : Bool} {s : RSt} (h : (failS ok s).2 = 0) : ok = true ∧ failS ok s = s := by
  unfold failS at h ⊢
  cases ok with
  | true => exact ⟨rfl, rfl⟩
  | false =>
    simp only [Bool.false_eq_true, if_false] at h
    unfold failR at h
    split at h
    · simp at h
    · rename_i hn; exact absurd h hn
theorem read_ansL {er : Int} {fd : Bool} {val : ByteArray} {ver : Int} (h : ansB er fd val ver = true) (r : List UInt8) : readAns (ansL er fd val ver ++ r, 0) = ((er, fd, val, ver), (r, 0)) := by
  have hb := ansB_bd h
  have e : ansL er fd val ver ++ r = numL er ++ (numL (if fd then 1 else 0) ++ (textL val ++ (numL ver ++ r))) := by unfold ansL; simp
  rw [e]
  unfold readAns
  cases fd with
  | true =>
    simp only [if_true, numS_numL (show 0 ≤ er ∧ er ≤ 9007199254740992 by omega), numS_numL (show (0 : Int) ≤ 1 ∧ (1 : Int) ≤ 9007199254740992 by omega), txS_textL (show val.size ≤ 32 by omega), numS_numL (show 0 ≤ ver ∧ ver ≤ 9007199254740992 by omega)]
    have : (decide ((1 : Int) ≤ 1) && ansB er ((1 : Int) == 1) val ver) = true := by simp [h]
    rw [this, failS_ok]
    simp
  | false =>
    simp only [Bool.false_eq_true, if_false, numS_numL (show 0 ≤ er ∧ er ≤ 9007199254740992 by omega), numS_numL (show (0 : Int) ≤ 0 ∧ (0 : Int) ≤ 9007199254740992 by omega), txS_textL (show val.size ≤ 32 by omega), numS_numL (show 0 ≤ ver ∧ ver ≤ 9007199254740992 by omega)]
    have : (decide ((0 : Int) ≤ 1) && ansB er ((0 : Int) == 1) val ver) = true := by simp [h]
    rw [this, failS_ok]
    simp
end Go.Proofs.YtbgfjkgpekkciaaDoor
