/- SessionOnce: what a Note changes. Pure. -/
import Derived.Test.YtbgfjkgpekkciaaK31
namespace Go.Proofs.Ytbgfjkgpekkciaa
set_option linter.unusedVariables false
theorem rowT_set {L : STab} (h : L.length = 8) {c : Int} (h0 : 0 ≤ c) (h1 : c < 8) (a : SR) (d : Int) (hd : 0 ≤ d) : rowT (L.set c.toNat a) d = if d = c then a else rowT L d := by
  unfold rowT
  rw [List.getD_eq_getElem?_getD, List.getD_eq_getElem?_getD, List.getElem?_set]
  by_cases e : d = c
  · subst e
    rw [if_pos rfl, if_pos rfl, if_pos (by omega)]
    rfl
  · rw [if_neg e, if_neg (by omega)]
theorem last_other {L : STab} (h : L.length = 8) {c : Int} {a : SR} {o : Int} (ho : o ≠ c) : lastT (notedT L c a) o = lastT L o := by
  unfold notedT
  split
  · next hz =>
    obtain ⟨hc, _, _⟩ := noteT_zero hz
    obtain ⟨c0, c1⟩ := (cliB_iff c).1 hc
    unfold lastT
    cases hb : cliB o with
    | false => rfl
    | true =>
      obtain ⟨o0, o1⟩ := (cliB_iff o).1 hb
      rw [if_pos rfl, if_pos rfl, rowT_set h c0 c1 a o o0, if_neg ho]
  · rfl
theorem last_kept {L : STab} {c : Int} {a : SR} (h : noteT L c a.seq (ansB a.er a.fd a.val a.ver) ≠ 0) : notedT L c a = L := by unfold notedT; rw [if_neg h]
theorem noted_yes {L : STab} (h : L.length = 8) {c : Int} {a : SR} (hz : noteT L c a.seq (ansB a.er a.fd a.val a.ver) = 0) :
    lastT (notedT L c a) c = a ∧ (lastT L c).seq < a.seq ∧ (1 ≤ a.seq ∧ a.seq ≤ 1099511627776) ∧ lookT (notedT L c a) c a.seq = 2 ∧
    (a.seq ≠ 1 → lookT (notedT L c a) c (a.seq - 1) = 3) ∧ (a.seq ≠ 1099511627776 → lookT (notedT L c a) c (a.seq + 1) = 1) := by
  obtain ⟨hc, hk, hok⟩ := noteT_zero hz
  obtain ⟨c0, c1⟩ := (cliB_iff c).1 hc
  have e : notedT L c a = L.set c.toNat a := by unfold notedT; rw [if_pos hz]
  have hb : (cliB c && seqB a.seq) = true := by
    cases h : cliB c && seqB a.seq with
    | true => rfl
    | false => rw [(lookT_zero L c a.seq).2 h] at hk; cases hk
  have hs := (seqB_iff _).1 (Bool.and_eq_true_iff.1 hb).2
  have hr : rowT (L.set c.toNat a) c = a := by rw [rowT_set h c0 c1 a c c0, if_pos rfl]
  have hl : (lastT L c).seq < a.seq := by
    unfold lastT
    rw [hc, if_pos rfl]
    unfold lookT cmpT at hk
    rw [hb, if_pos rfl] at hk
    split at hk
    · assumption
    · split at hk <;> cases hk
  have hlk : ∀ s, 1 ≤ s → s ≤ 1099511627776 → lookT (L.set c.toNat a) c s = cmpT a.seq s := by
    intro s s1 s2
    unfold lookT
    rw [hc, (seqB_iff s).2 ⟨s1, s2⟩, hr]
    rfl
  refine ⟨?_, hl, hs, ?_, ?_, ?_⟩
  · rw [e]; unfold lastT; rw [hc, if_pos rfl]; exact hr
  · rw [e, hlk _ hs.1 hs.2]; unfold cmpT; rw [if_neg (by omega), if_pos rfl]
  · intro h1
    rw [e, hlk _ (by omega) (by omega)]; unfold cmpT; rw [if_neg (by omega), if_neg (by omega)]
  · intro h1
    rw [e, hlk _ (by omega) (by omega)]; unfold cmpT; rw [if_pos (by omega)]
end Go.Proofs.Ytbgfjkgpekkciaa
