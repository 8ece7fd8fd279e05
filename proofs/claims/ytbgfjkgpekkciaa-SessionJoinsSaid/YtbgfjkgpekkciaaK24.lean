/- session.none, has, Look, New. -/
import Derived.Test.YtbgfjkgpekkciaaK08
import Derived.Test.YtbgfjkgpekkciaaK23
namespace Go.Proofs.Ytbgfjkgpekkciaa
open Go.RowKit
set_option linter.unusedVariables false
set_option linter.unusedSimpArgs false
section
variable {w : World} {g : Nat} {L : STab}
theorem none_any (h : PTab w g L) : Calls Try.prog 37 #[.pointer (some ⟨g, 0, none⟩)] w fun e w' => e = .returned (.bool false) ∧ w = w' := by
  have c0 := h.made w (Since.refl w)
  clear h
  go_enter Try.func37, Try.ntmps37
  go_wp2
  go_ret
  exact ⟨rfl, rfl⟩
/-- No table, or one that nobody made. -/
def Un (w : World) (v : Value) : Prop := v = .pointer none ∨ ∃ g, v = .pointer (some ⟨g, 0, none⟩) ∧ w.cell? ⟨g, 0, none⟩ = some (.bool false)
theorem Un.nil (w : World) : Un w (.pointer none) := .inl rfl
theorem Un.since {w w' : World} {v : Value} (h : Un w v) (hs : Since w w') : Un w' v := by
  rcases h with rfl | ⟨g, rfl, hc⟩
  · exact .inl rfl
  · refine .inr ⟨g, rfl, ?_⟩
    rw [← hc]
    exact World.cell?_of_block (hs.block g (World.block_lt_of_cell? w _ hc))
theorem thas_any (h : PTab w g L) {c : Int} {b : Bool} (hb : cliB c = b) : Calls Try.prog 34 #[.pointer (some ⟨g, 0, none⟩), .int .i64 c] w fun e w' => e = .returned (.bool b) ∧ w = w' := by
  subst hb
  unfold cliB
  cases h0 : decide (0 ≤ c) <;> cases h1 : decide (c < 8)
  all_goals
    go_enter Try.func34, Try.ntmps34
    go_wp2_with (go_at_call 37; (with_reducible refine (none_any h).mono ?_); rintro e w' ⟨rfl, rfl⟩)
    go_ret
    exact ⟨rfl, rfl⟩
theorem look_any (h : PTab w g L) {c s r : Int} (hr : lookT L c s = r) : Calls Try.prog 23 #[.pointer (some ⟨g, 0, none⟩), .int .i64 c, .int .i64 s] w fun e w' => e = .returned (.int .i64 r) ∧ w = w' := by
  unfold lookT at hr
  cases hc : cliB c with
  | false =>
    rw [hc] at hr
    have HC := Lib.hid hc
    obtain rfl : 0 = r := hr
    clear hc
    go_enter Try.func23, Try.ntmps23
    go_wp2_with (go_at_call 34; (with_reducible refine (thas_any h HC.out).mono ?_); rintro e w' ⟨rfl, rfl⟩)
    go_ret
    exact ⟨rfl, rfl⟩
  | true =>
    rw [hc, Bool.true_and] at hr
    have HC := Lib.hid hc
    have HS : Hid (seqB s = seqB s) := Lib.hid rfl
    obtain ⟨h0, h1⟩ := (cliB_iff c).1 hc
    clear hc
    cases hs : seqB s with
    | false =>
      rw [hs] at hr
      obtain rfl : 0 = r := hr
      have hsn : ¬ (1 ≤ s ∧ s ≤ 1099511627776) := fun e => by rw [(seqB_iff s).2 e] at hs; cases hs
      clear hs
      go_enter Try.func23, Try.ntmps23
      go_wp2_with (go_at_call 34; (with_reducible refine (thas_any h HC.out).mono ?_); rintro e w' ⟨rfl, rfl⟩)
      all_goals
        go_ret
        exact ⟨rfl, rfl⟩
    | true =>
      obtain ⟨hs1, hs2⟩ := (seqB_iff s).1 hs
      rw [hs, if_pos rfl] at hr
      clear hs
      obtain ⟨i, hi⟩ : ∃ i, i = c.toNat := ⟨_, rfl⟩
      have hci : c = (i : Int) := by omega
      have hL := rowT_get h.1 h0 h1
      obtain ⟨R, hR⟩ : ∃ R, R = rowT L c := ⟨_, rfl⟩
      rw [← hR, ← hi] at hL
      rw [← hR] at hr
      subst hci
      have c4 := h.c4 hL w (Since.refl w)
      obtain ⟨n, hn⟩ : ∃ n, n = R.seq := ⟨_, rfl⟩
      rw [← hn] at hr c4
      have hi8 : i < 8 := by omega
      clear hi h0 h1 hL hR hn
      unfold cmpT at hr
      by_cases ha : n < s
      · rw [if_pos ha] at hr
        subst hr
        go_enter Try.func23, Try.ntmps23
        go_wp2_with (go_at_call 34; (with_reducible refine (thas_any h HC.out).mono ?_); rintro e w' ⟨rfl, rfl⟩)
        go_ret
        exact ⟨rfl, rfl⟩
      · rw [if_neg ha] at hr
        by_cases hb : s = n
        · rw [if_pos hb] at hr
          subst hr
          subst hb
          go_enter Try.func23, Try.ntmps23
          go_wp2_with (go_at_call 34; (with_reducible refine (thas_any h HC.out).mono ?_); rintro e w' ⟨rfl, rfl⟩)
          go_ret
          exact ⟨rfl, rfl⟩
        · rw [if_neg hb] at hr
          subst hr
          go_enter Try.func23, Try.ntmps23
          go_wp2_with (go_at_call 34; (with_reducible refine (thas_any h HC.out).mono ?_); rintro e w' ⟨rfl, rfl⟩)
          go_ret
          exact ⟨rfl, rfl⟩
end
theorem tabNew_any (w : World) : Calls Try.prog 19 #[] w fun e w' => e = .returned (.pointer (some ⟨w.heap.size, 0, none⟩)) ∧ PTab w' w.heap.size tab0 ∧ Since w w' := by
  go_enter Try.func19, Try.ntmps19
  go_wp2
  go_ret
  exact ⟨rfl, ⟨rfl, Whole.new w _ _⟩, (Since.refl w).alloc _⟩
end Go.Proofs.Ytbgfjkgpekkciaa
