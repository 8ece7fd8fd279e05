/- What Heirs answers, of a split or a move that may be. No program. -/
import Derived.Test.YtimmnmidhjbanaaDoorK23
namespace Go.Proofs.YtimmnmidhjbanaaDoor
open Go.RowKit
set_option linter.unusedVariables false
theorem lessL_len {l : List Int} (hd : l.Nodup) {n : Int} (h : n ∈ l) : (lessL l n).length + 1 = l.length := by
  unfold lessL
  induction l with
  | nil => cases h
  | cons y l ih =>
    rw [List.nodup_cons] at hd
    by_cases hy : y = n
    · subst hy
      have : l.filter (· != y) = l := List.filter_eq_self.2 fun z hz => by
        rw [bne_iff_ne]
        rintro rfl
        exact hd.1 hz
      simp [this]
    · have h2 : n ∈ l := by
        rcases List.mem_cons.1 h with e | e
        · exact absurd e.symm hy
        · exact e
      have : (y != n) = true := by rw [bne_iff_ne]; exact hy
      rw [List.filter_cons, if_pos this, List.length_cons, ih hd.2 h2, List.length_cons]
theorem mem_less {l : List Int} {n x : Int} : x ∈ lessL l n ↔ x ∈ l ∧ x ≠ n := by
  unfold lessL
  rw [List.mem_filter, bne_iff_ne]
theorem move_parts {e : En} {l : List Int} (h : rightB e l = true) (hk : e.kind = 4 ∨ e.kind = 5) : (0 ≤ e.bx ∧ e.bx < 8) ∧ ChainP l ∧ e.nd ∈ l ∧ e.bx ∉ l := by
  unfold rightB at h
  rw [if_neg (by omega), if_neg (by omega), if_pos hk] at h
  simp only [Bool.and_eq_true, nodeB_iff, chainB_iff, memZ_iff, Bool.not_eq_true', memZ_false] at h
  exact ⟨h.2.2.1, h.2.2.2.1, h.2.2.2.2.1, h.2.2.2.2.2⟩
theorem second_facts {e : En} {l : List Int} (h : rightB e l = true) (hk : e.kind = 4 ∨ e.kind = 5) :
    heirs2 e l = e.bx :: lessL l e.nd ∧ chainB (heirs2 e l) = true ∧ (heirs2 e l).length = l.length ∧ 0 < l.length ∧ memZ (heirs2 e l) e.nd = false ∧ ∀ x ∈ l, x ≠ e.nd → memZ (heirs2 e l) x = true := by
  obtain ⟨h1, h2, h3, h4⟩ := move_parts h hk
  have e2 : heirs2 e l = e.bx :: lessL l e.nd := by unfold heirs2; rw [if_pos ⟨h, hk⟩]
  rw [e2]
  refine ⟨rfl, (chainB_iff _).2 ⟨fun x hx => ?_, ?_⟩, ?_, ?_, (memZ_false _ _).2 fun hm => ?_, fun x hx hn => (memZ_iff _ _).2 (List.mem_cons_of_mem _ (mem_less.2 ⟨hx, hn⟩))⟩
  · rcases List.mem_cons.1 hx with rfl | hx
    · exact h1
    · exact h2.1 x (mem_less.1 hx).1
  · rw [List.nodup_cons]
    exact ⟨fun hm => h4 (mem_less.1 hm).1, h2.2.sublist List.filter_sublist⟩
  · rw [List.length_cons, lessL_len h2.2 h3]
  · exact List.length_pos_of_mem h3
  · rcases List.mem_cons.1 hm with e1 | hm
    · exact h4 (e1 ▸ h3)
    · exact (mem_less.1 hm).2 rfl
theorem first_split {e : En} {l : List Int} (h : rightB e l = true) (hk : e.kind = 4) : heirs1 e l = l ∧ chainB l = true := by
  exact ⟨by unfold heirs1; rw [if_pos ⟨h, hk⟩], (chainB_iff _).2 (move_parts h (.inl hk)).2.1⟩
theorem first_none {e : En} {l : List Int} (hk : e.kind ≠ 4) : heirs1 e l = [] := by unfold heirs1; rw [if_neg fun h => hk h.2]
theorem heirs_bad {e : En} {l : List Int} (h : rightB e l = false ∨ (e.kind ≠ 4 ∧ e.kind ≠ 5)) : heirs1 e l = [] ∧ heirs2 e l = [] := by
  unfold heirs1 heirs2
  rcases h with h | h
  · rw [if_neg (by rw [h]; simp), if_neg (by rw [h]; simp)]
    exact ⟨rfl, rfl⟩
  · rw [if_neg (fun z => h.1 z.2), if_neg (fun z => z.2.elim h.1 h.2)]
    exact ⟨rfl, rfl⟩
end Go.Proofs.YtimmnmidhjbanaaDoor
