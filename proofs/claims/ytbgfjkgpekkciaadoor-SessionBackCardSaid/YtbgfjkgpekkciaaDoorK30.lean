/- Tables there and back: what is put is read as it was, what is read is put as it was. Pure. -/
import Derived.Test.YtbgfjkgpekkciaaDoorK20
import Derived.Test.YtbgfjkgpekkciaaDoorK28
import Derived.Test.YtbgfjkgpekkciaaDoorK29
namespace Go.Proofs.YtbgfjkgpekkciaaDoor
set_option linter.unusedVariables false
theorem upS_numL {z : Int} (h : 0 ≤ z ∧ z ≤ 1099511627776) (r : List UInt8) : upS (numL z ++ r, 0) = (z, (r, 0)) := by
  have e : numL z = numB z.toNat := by unfold numL; rw [if_pos (by omega)]
  unfold upS upR
  simp only [if_true]
  rw [e, up_numB _ z.toNat (by omega) (by omega)]
  simp only [List.drop_left, Prod.mk.injEq, and_true]
  omega
theorem upS_came {l l' : List UInt8} {x e' : Int} {e : Int} (h : upS (l, e) = (x, (l', e'))) (he : e' = 0) : e = 0 ∧ (0 ≤ x ∧ x ≤ 1099511627776) ∧ l = numL x ++ l' := by
  unfold upS upR at h
  by_cases h0 : e = 0
  · subst h0
    simp only [if_true] at h
    unfold up at h
    split at h
    · simp only [Prod.mk.injEq] at h
      exact absurd (h.2.2.trans he) (by decide)
    · next hn =>
      have h9 : numS (l, 0) = (x, (l', e')) := by
        unfold numS numR
        simp only [if_true]
        exact h
      obtain ⟨_, h2, h3⟩ := numS_came h9 he
      refine ⟨rfl, ⟨h2.1, ?_⟩, h3⟩
      simp only [Prod.mk.injEq] at h
      obtain ⟨g1, _, g3⟩ := h
      rw [g3, he] at hn
      omega
  · rw [if_neg h0] at h
    simp only [Prod.mk.injEq] at h
    exact absurd (h.2.2.trans he) h0
theorem read_rowL {r : SR} (h : r.ok) (l : List UInt8) : readRow (rowL r ++ l, 0) = (r, (l, 0)) := by
  rcases h with rfl | ⟨hs, ha⟩
  · have e : rowL SR.zero = numL 0 := by unfold rowL; rw [if_pos (show SR.zero.seq = 0 from rfl), List.append_nil]; rfl
    have h := upS_numL (z := 0) ⟨by decide, by decide⟩ l
    unfold readRow
    rw [e]
    simp only [h]
    rfl
  · have hz : ¬ r.seq = 0 := by omega
    have hp : 0 < r.seq := by omega
    have e : rowL r ++ l = numL r.seq ++ (ansL r.er r.fd r.val r.ver ++ l) := by unfold rowL; rw [if_neg hz, List.append_assoc]
    have h := upS_numL (z := r.seq) ⟨by omega, by omega⟩ (ansL r.er r.fd r.val r.ver ++ l)
    unfold readRow
    rw [e]
    simp only [h, read_ansL ha l]
    rw [if_pos hp]
theorem read_rows (L : STab) (hok : ∀ r ∈ L, r.ok) : ∀ (n : Nat), n ≤ L.length → ∀ l, readRows n (tabL (L.take n) ++ l, 0) = (L.take n, (l, 0)) := by
  intro n
  induction n with
  | zero => intro _ l; simp [readRows, tabL]
  | succ n ih =>
    intro hn l
    have hr : L[n]? = some (L[n]'(by omega)) := List.getElem?_eq_getElem (by omega)
    have h1 := ih (by omega) (rowL (L[n]'(by omega)) ++ l)
    have h2 := read_rowL (hok _ (List.getElem_mem (by omega : n < L.length))) l
    rw [tabL_next hr, List.append_assoc]
    simp only [readRows, h1, h2]
    rw [List.take_add_one, hr]
    rfl
theorem read_tab {L : STab} (h : tabOk L) (l : List UInt8) : readRows 8 (tabL L ++ l, 0) = (L, (l, 0)) := by
  have := read_rows L h.2 8 (by rw [h.1]; exact Nat.le_refl _) l
  rwa [List.take_of_length_le (by rw [h.1]; exact Nat.le_refl _)] at this
theorem tabL_inj {L M : STab} (h : tabOk L) (h' : tabOk M) : tabL L = tabL M ↔ L = M := by
  constructor
  · intro e
    have h1 := read_tab h []
    have h2 := read_tab h' []
    rw [e, h2] at h1
    exact ((Prod.mk.inj h1).1).symm
  · rintro rfl; rfl
theorem ans_came {s t : RSt} {er : Int} {fd : Bool} {val : ByteArray} {ver : Int} (h : readAns s = ((er, fd, val, ver), t)) (ht : t.2 = 0) : s.2 = 0 ∧ ansB er fd val ver = true ∧ s.1 = ansL er fd val ver ++ t.1 := by
  unfold readAns at h
  obtain ⟨l, e⟩ := s
  obtain ⟨⟨a0, s0⟩, e0⟩ : ∃ r, numS (l, e) = r := ⟨_, rfl⟩
  obtain ⟨⟨a1, s1⟩, e1⟩ : ∃ r, numS s0 = r := ⟨_, rfl⟩
  obtain ⟨⟨a2, s2⟩, e2⟩ : ∃ r, txS s1 = r := ⟨_, rfl⟩
  obtain ⟨⟨a3, s3⟩, e3⟩ : ∃ r, numS s2 = r := ⟨_, rfl⟩
  simp only [e0, e1, e2, e3] at h
  injection h with h1 h2
  rw [h2, if_pos ht] at h1
  simp only [Prod.mk.injEq] at h1
  obtain ⟨rfl, hfd, rfl, rfl⟩ := h1
  rw [← h2] at ht
  obtain ⟨hok, hs⟩ := failS_zero ht
  rw [hs] at h2 ht
  subst h2
  rw [Bool.and_eq_true, decide_eq_true_iff] at hok
  obtain ⟨k2, _, q3⟩ := numS_came e3 ht
  obtain ⟨k1, _, q2⟩ := txS_came e2 k2
  obtain ⟨k0, r1, q1⟩ := numS_came e1 k1
  obtain ⟨k, _, q0⟩ := numS_came e0 k0
  rw [hfd] at hok
  have ha : a1 = if fd then 1 else 0 := by
    rw [← hfd]
    by_cases h1 : a1 = 1
    · subst h1; rfl
    · rw [show (a1 == 1) = false by simpa using h1]
      simp only [Bool.false_eq_true, if_false]
      omega
  refine ⟨k, hok.2, ?_⟩
  rw [q0, q1, q2, q3, ha]
  unfold ansL
  simp
theorem row_came {s t : RSt} {r : SR} (h : readRow s = (r, t)) (ht : t.2 = 0) : s.2 = 0 ∧ r.ok ∧ s.1 = rowL r ++ t.1 := by
  unfold readRow at h
  obtain ⟨l, e⟩ := s
  obtain ⟨⟨x, l1, e1⟩, hx⟩ : ∃ p, upS (l, e) = p := ⟨_, rfl⟩
  simp only [hx] at h
  by_cases hp : 0 < x
  · rw [if_pos hp] at h
    obtain ⟨⟨⟨er, fd, val, ver⟩, s2⟩, ha⟩ : ∃ p, readAns (l1, e1) = p := ⟨_, rfl⟩
    rw [ha] at h
    injection h with h1 h2
    subst h1; subst h2
    obtain ⟨k1, k2, k3⟩ := ans_came ha ht
    obtain ⟨g1, g2, g3⟩ := upS_came hx k1
    refine ⟨g1, .inr ⟨⟨by dsimp only; omega, g2.2⟩, k2⟩, ?_⟩
    unfold rowL
    dsimp only at k3 ⊢
    rw [if_neg (by omega), g3, k3, List.append_assoc]
  · rw [if_neg hp] at h
    injection h with h1 h2
    subst h1; subst h2
    obtain ⟨g1, g2, g3⟩ := upS_came hx ht
    obtain rfl : x = 0 := by omega
    refine ⟨g1, .inl rfl, ?_⟩
    unfold rowL
    rw [if_pos (show SR.zero.seq = 0 from rfl), List.append_nil]
    exact g3
theorem rows_came : ∀ (n : Nat) {s t : RSt} {L : STab}, readRows n s = (L, t) → t.2 = 0 → s.2 = 0 ∧ (∀ r ∈ L, r.ok) ∧ s.1 = tabL L ++ t.1
  | 0, s, t, L, h, ht => by
    simp only [readRows, Prod.mk.injEq] at h
    obtain ⟨rfl, rfl⟩ := h
    exact ⟨ht, fun r hr => by simp at hr, rfl⟩
  | n + 1, s, t, L, h, ht => by
    obtain ⟨⟨L1, s1⟩, h1⟩ : ∃ p, readRows n s = p := ⟨_, rfl⟩
    obtain ⟨⟨r, s2⟩, h2⟩ : ∃ p, readRow s1 = p := ⟨_, rfl⟩
    simp only [readRows, h1, h2, Prod.mk.injEq] at h
    obtain ⟨rfl, rfl⟩ := h
    obtain ⟨k1, k2, k3⟩ := row_came h2 ht
    obtain ⟨g1, g2, g3⟩ := rows_came n h1 k1
    refine ⟨g1, ?_, ?_⟩
    · intro x hx
      rcases List.mem_append.1 hx with hx | hx
      · exact g2 x hx
      · rw [List.mem_singleton.1 hx]; exact k2
    · rw [g3, k3]
      unfold tabL
      simp
theorem tab_came {l l' : List UInt8} {L : STab} {e : Int} (h : readRows 8 (l, 0) = (L, (l', e))) (he : e = 0) : tabOk L ∧ l = tabL L ++ l' := by
  obtain ⟨_, h2, h3⟩ := rows_came 8 h he
  refine ⟨⟨?_, h2⟩, h3⟩
  have := readRows_len 8 (l, (0 : Int))
  rw [h] at this
  exact this
end Go.Proofs.YtbgfjkgpekkciaaDoor
