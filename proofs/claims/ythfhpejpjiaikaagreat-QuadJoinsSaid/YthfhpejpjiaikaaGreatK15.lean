/- slices.Delete of one record out of a list of the call's own. -/
import Derived.Test.YthfhpejpjiaikaaGreatK11
import Derived.Deep.Cut
import Derived.Deep.CutRange
namespace Go.Proofs.YthfhpejpjiaikaaGreat
open Go.RowKit
set_option linter.unusedVariables false
set_option linter.unusedSimpArgs false
theorem zeroRec (w : World) : (Go.zeroValue 55).run Tryz.prog w = .ok (.agg #[.int .i64 0, .int .i64 0, .string ⟨#[]⟩, .string ⟨#[]⟩, .int .i64 0]) w := by
  obtain ⟨i0, hi, hz0, hz1, hz2⟩ := info_parts infoRec
  simp [Go.zeroValue, typeInfo, hi, hz0]
theorem zero_one : ∀ v ∈ (Builtin.zeroCells (Value.agg #[.int .i64 0, .int .i64 0, .string ⟨#[]⟩, .string ⟨#[]⟩, .int .i64 0]).cells 1).toList, v.oneCell' = true := by
  have h : ((Builtin.zeroCells (Value.agg #[.int .i64 0, .int .i64 0, .string ⟨#[]⟩, .string ⟨#[]⟩, .int .i64 0]).cells 1).toList.all fun v => v.oneCell') = true := by kernel_rfl
  exact List.all_eq_true.1 h
theorem cut_cells {A E C S : List Value} {a : Nat} (hA : A.length = a) (hE : E.length = 5) {c1 : List Value} (h1 : c1 = (A ++ E ++ C ++ S).take a ++ C ++ (A ++ E ++ C ++ S).drop (a + C.length)) (z : List Value) (hz : z.length = 5) :
    ∃ X, c1.take (a + C.length) ++ z ++ c1.drop (a + C.length + 5) = A ++ C ++ X ∧ X.length = 5 + S.length ∧ c1.length = a + C.length + 5 + S.length := by
  have e0 : (A ++ E ++ C ++ S).take a = A := by rw [List.append_assoc, List.append_assoc, ← hA, List.take_left]
  have hl : (A ++ C).length = a + C.length := by rw [List.length_append]; omega
  have e1 : c1.take (a + C.length) = A ++ C := by rw [h1, e0, ← hl, List.take_left]
  have hd : ((A ++ E ++ C ++ S).drop (a + C.length)).length = 5 + S.length := by
    rw [List.length_drop]
    simp only [List.length_append]
    omega
  refine ⟨z ++ c1.drop (a + C.length + 5), by rw [e1, List.append_assoc], ?_, ?_⟩
  · rw [List.length_append, List.length_drop, h1, e0, List.length_append, hl, hd]; omega
  · rw [h1, e0, List.length_append, hl, hd]; omega
theorem del_len' (L : List Rq) {i : Nat} (h : i < L.length) : (L.take i ++ L.drop (i + 1)).length = L.length - 1 := by
  simp; omega
set_option maxRecDepth 100000 in
set_option maxHeartbeats 6400000 in
theorem delete_any {W : World} {base : Nat} {v : Value} {L : List Rq} (hrow : RowE encQ 5 W base 55 v L) {i : Nat} (hi : i < L.length) (hlen : L.length ≤ 100000) :
    Calls Tryz.prog 89 #[v, .int .i64 (i : Nat), .int .i64 ((i : Int) + 1)] W fun e W' => ∃ v', e = .returned v' ∧ RowE encQ 5 W' base 55 v' (L.take i ++ L.drop (i + 1)) ∧ Off (fun b => v.ownBlock = some b) W W' ∧ v'.ownBlock = v.ownBlock := by
  obtain ⟨i0, hi0, hz0, hz1, hz2⟩ := info_parts infoRec
  rcases hrow.cur with ⟨_, rfl⟩ | ⟨g, cap, S, rfl, hb, hg, hcl, hm, hfl0, hS⟩
  · exact absurd hi (Nat.not_lt_zero _)
  obtain ⟨n, hn⟩ : ∃ n, n = L.length := ⟨_, rfl⟩
  have hA : ((L.take i).flatMap encQ).length = i * 5 := by rw [rows_len encQ_len, List.length_take]; congr 1; omega
  have hB : ((L.drop (i + 1)).flatMap encQ).length = (n - (i + 1)) * 5 := by rw [rows_len encQ_len, List.length_drop, hn]
  have hsp : L.flatMap encQ = (L.take i).flatMap encQ ++ encQ L[i] ++ (L.drop (i + 1)).flatMap encQ := by
    rw [flat_split L i, List.drop_eq_getElem_cons hi, List.flatMap_cons, List.append_assoc]
  have hfin : (L.take i ++ L.drop (i + 1)).flatMap encQ = (L.take i).flatMap encQ ++ (L.drop (i + 1)).flatMap encQ := List.flatMap_append
  have hfl := del_len' L hi
  have hffl := rows_len encQ_len (L.take i ++ L.drop (i + 1))
  rw [hsp] at hg
  obtain ⟨A, hAe⟩ : ∃ A, (L.take i).flatMap encQ = A := ⟨_, rfl⟩
  obtain ⟨C, hCe⟩ : ∃ C, (L.drop (i + 1)).flatMap encQ = C := ⟨_, rfl⟩
  have oneC : ∀ u ∈ C, u.oneCell' = true := by rw [← hCe]; exact flat_one encQ_one _
  rw [hAe] at hA hg hfin
  rw [hCe] at hB hg hfin
  obtain ⟨E, hE⟩ : ∃ E, encQ L[i] = E := ⟨_, rfl⟩
  have hEl : E.length = 5 := by rw [← hE]; rfl
  rw [hE] at hg
  obtain ⟨M, hM⟩ : ∃ M, L.take i ++ L.drop (i + 1) = M := ⟨_, rfl⟩
  rw [hM] at hfin hfl hffl ⊢
  rw [← hn] at hi hcl hlen hfl hS ⊢
  obtain ⟨c1, hc1⟩ : ∃ c1, c1 = (A ++ E ++ C ++ S).take (i * 5) ++ C ++ (A ++ E ++ C ++ S).drop (i * 5 + C.length) := ⟨_, rfl⟩
  obtain ⟨X, hX1, hX2, hX3⟩ := cut_cells (A := A) (E := E) (C := C) (S := S) hA hEl hc1 (Builtin.zeroCells (Value.agg #[.int .i64 0, .int .i64 0, .string ⟨#[]⟩, .string ⟨#[]⟩, .int .i64 0]).cells 1).toList (by rw [Array.length_toList, size_zeroCells]; rfl)
  obtain ⟨W1, hW1⟩ : ∃ W1, W1 = W.drew.setRow g c1.toArray := ⟨_, rfl⟩
  have hg1 : W1.heap[g]? = some (.cells c1.toArray 55 (0, 0)) := by rw [hW1]; exact heap_setRow (W := W.drew) hg _
  have hcn : i * 5 + C.length = (n - 1) * 5 := by rw [hB]; omega
  obtain ⟨W2, hW2⟩ : ∃ W2, W2 = W1.setRow g (A ++ C ++ X).toArray := ⟨_, rfl⟩
  have hap : ∀ ty a c, (n - (i + 1) = 0 ∨ a = ⟨g, (i + 1) * 5, none⟩) → (Builtin.append_ #[31, 31] ty #[.slice (some ⟨g, 0, none⟩) i cap, .slice (some a) (n - (i + 1)) c]).run Tryz.prog W.drew = .ok (.slice (some ⟨g, 0, none⟩) (n - 1) cap) W1 := fun ty a c ha => by
    have h := run_append_room (P := Tryz.prog) W.drew 31 ty 55 i0 Tryz.underlying31 hi0 g i cap (A ++ E ++ C ++ S).toArray hg a (n - (i + 1)) c C (by rw [hz1]; exact hB) (fun j u hj => by
      have hjl := (List.getElem?_eq_some_iff.1 hj).1
      rcases ha with z | rfl
      · rw [hB, z] at hjl; omega
      · rw [Addr.add_lit, cell_of_row W.drew g _ _ _ _ hg, List.getElem?_toArray, List.append_assoc, List.getElem?_append_right (by rw [List.length_append]; omega), List.length_append, show (i + 1) * 5 + j - (A.length + E.length) = j by omega, List.getElem?_append_left hjl]
        exact hj) oneC (by omega) (by rw [hz1, List.size_toArray]; simp only [List.length_append]; omega)
    rw [h, hW1, hc1, hz1, List.toList_toArray, show i + (n - (i + 1)) = n - 1 by omega]
  have hcl2 : ∀ ty c, (Builtin.clear_ #[31] ty #[.slice (some ⟨g, (n - 1) * 5, none⟩) 1 c]).run Tryz.prog W1 = .ok (.tuple #[]) W2 := fun ty c => by
    have h := run_clear_k (P := Tryz.prog) W1 31 55 ty _ 5 Tryz.underlying31 zeroRec rfl zero_one g ((n - 1) * 5) c c1.toArray 55 hg1 (by rw [List.size_toArray, hX3]; omega)
    rw [h, hW2, List.toList_toArray, ← hcn, hX1]
  have hrow2 : RowE encQ 5 W2 base 55 (.slice (some ⟨g, 0, none⟩) (n - 1) cap) M := by
    have h2 : W2.heap[g]? = some (.cells (M.flatMap encQ ++ X).toArray 55 (0, 0)) := by rw [hW2, heap_setRow hg1, hfin]
    rw [← hfl]
    exact RowE.of hb h2 (by omega) hm hffl (by rw [hX2, hS, hfl]; omega)
  have hoff : Off (fun b => b = g) W W2 := by rw [hW2, hW1]; exact off_row (off_row (Off.refl _ W).drew _) _
  have HF := Lib.hid (And.intro hrow2 hoff)
  have mixed : Tryz.prog.follows Departure.mixedOrders = true := by kernel_rfl
  have hin : i ≤ n := by omega
  have hw1 : IntKind.i64.wrap ((i : Int) + 1) = (i : Int) + 1 := IntWalk.i64_in _ (by omega)
  have ht1 : ((i : Int) + 1).toNat = i + 1 := by omega
  have hb1 : (0 : Int) ≤ (i : Int) + 1 := by omega
  have hb2 : (i : Int) ≤ (i : Int) + 1 := by omega
  have hb3 : (i : Int) + 1 ≤ (n : Int) := by omega
  have hb4 : (n : Int) ≤ (cap : Int) := by omega
  have hb5 : i + 1 ≤ n := hi
  have hb6 : n - 1 ≤ n := by omega
  have hb7 : ((n - 1 : Nat) : Int) ≤ (n : Int) := by omega
  have hb8 : ¬ (cap = n - 1) := by omega
  have hb9 : n - (n - 1) = 1 := by omega
  have hc0 : ¬ (n = i) := by omega
  have hc2 : ¬ (cap = i) := by omega
  have d2 : ((i : Int) == (i : Int) + 1) = false := by simp; omega
  have hic : i ≤ cap := by omega
  have HM := Lib.hid (And.intro hi hcl)
  clear hrow hrow2 hoff hX1 hX2 hX3 hW1 hW2 hg1 hfin hffl hfl hM hA hB oneC hAe hCe hg hn hc1 hE hEl hS hfl0 hsp hcn
  by_cases hce : cap = i + 1
  · have hn1 : n = i + 1 := by omega
    subst hce
    subst hn1
    have hap' : ∀ ty c, (Builtin.append_ #[31, 31] ty #[.slice (some ⟨g, 0, none⟩) i (i + 1), .slice (some ⟨g, 0, none⟩) 0 c]).run Tryz.prog W.drew = .ok (.slice (some ⟨g, 0, none⟩) i (i + 1)) W1 := fun ty c => by
      have h := hap ty ⟨g, 0, none⟩ c (.inl (Nat.sub_self _))
      rwa [Nat.sub_self, Nat.add_sub_cancel] at h
    rw [Nat.add_sub_cancel] at HF hcl2
    clear hap
    go_enter Tryz.func89, Tryz.ntmps89
    go_upto_region 5 with fail
    refine wp_region_held_drew (S := fun _ => True) (by kernel_rfl) trivial (fun hHeld => ?_)
    refine wpAnyH_take (i := 0) (v := ?_) rfl (by kernel_rfl) (by kernel_rfl) (by kernel_rfl) (fun _ _ _ h => h) (Or.inl ⟨by rfl, ?_⟩) (by assumption) ?_
    rotate_left 1
    · (intro W hW; clear hW; go_simp; try with_reducible rfl)
    simp only [Act.put, List.getElem_toArray, List.getElem_cons_zero, List.setIfInBounds_toArray, List.set_cons_zero, List.set_cons_succ]
    refine wpAnyH_take (i := 1) (v := ?_) rfl (by kernel_rfl) (by kernel_rfl) (by kernel_rfl) (fun _ _ _ h => h) (Or.inl ⟨by rfl, ?_⟩) (by assumption) ?_
    rotate_left 1
    · (intro W hW; clear hW; go_simp; try with_reducible rfl)
    simp only [Act.put, List.getElem_toArray, List.getElem_cons_succ, List.getElem_cons_zero, List.setIfInBounds_toArray, List.set_cons_zero, List.set_cons_succ]
    refine wpAnyH_take (i := 2) (v := ?_) rfl (by kernel_rfl) (by kernel_rfl) (by kernel_rfl) (fun _ _ _ h => h) (Or.inl ⟨by rfl, ?_⟩) (by assumption) ?_
    rotate_left 1
    · (intro W hW; clear hW; go_simp; try with_reducible rfl)
    simp only [Act.put, List.getElem_toArray, List.getElem_cons_succ, List.getElem_cons_zero, List.setIfInBounds_toArray, List.set_cons_zero, List.set_cons_succ]
    refine wpAnyH_take (i := 3) (v := ?_) rfl (by kernel_rfl) (by kernel_rfl) (by kernel_rfl) (fun _ _ _ h => h) (Or.inl ⟨by rfl, ?_⟩) (by assumption) ?_
    rotate_left 1
    · (intro W hW; clear hW; go_simp; try with_reducible rfl)
    simp only [Act.put, List.getElem_toArray, List.getElem_cons_succ, List.getElem_cons_zero, List.setIfInBounds_toArray, List.set_cons_zero, List.set_cons_succ]
    refine wpAnyH_take (i := 4) (v := ?_) rfl (by kernel_rfl) (by kernel_rfl) (by kernel_rfl) (fun _ _ _ h => h) (Or.inl ⟨by rfl, ?_⟩) (by assumption) ?_
    rotate_left 1
    · (intro W hW; clear hW; go_simp; try with_reducible rfl)
    simp only [Act.put, List.getElem_toArray, List.getElem_cons_succ, List.getElem_cons_zero, List.setIfInBounds_toArray, List.set_cons_zero, List.set_cons_succ]
    refine wpAnyH_take (i := 5) (v := ?_) rfl (by kernel_rfl) (by kernel_rfl) (by kernel_rfl) (fun _ _ _ h => h) (Or.inl ⟨by rfl, ?_⟩) (by assumption) ?_
    rotate_left 1
    · (intro W hW; clear hW; go_simp; try with_reducible rfl)
    simp only [Act.put, List.getElem_toArray, List.getElem_cons_succ, List.getElem_cons_zero, List.setIfInBounds_toArray, List.set_cons_zero, List.set_cons_succ]
    refine wpAnyH_ready (rs := [6]) (by kernel_rfl) (by simp) ?_
    refine AllReadyH.cons rfl (fun K hK => ?_) AllReadyH.nil
    refine step_append_runI rfl _ _ 31 31 rfl (.slice (some ⟨g, 0, none⟩) i (i + 1)) (.slice (some ⟨g, 0, none⟩) 0 0) (by simp [Act.eval, Act.put]) (by simp [Act.eval, Act.put]) _ _ (hap' _ _) ?_
    refine hK.out _ _ (trivial) (fun hHeld => ?_)
    clear hK K
    try simp only [Act.put, List.getElem_toArray, List.getElem_cons_succ, List.getElem_cons_zero, List.setIfInBounds_toArray, List.set_cons_zero, List.set_cons_succ]
    refine wpAnyH_take (i := 7) (v := ?_) rfl (by kernel_rfl) (by kernel_rfl) (by kernel_rfl) (fun _ _ _ h => h) (Or.inl ⟨by rfl, ?_⟩) (by assumption) ?_
    rotate_left 1
    · (intro W hW; clear hW; go_simp; try with_reducible rfl)
    simp only [Act.put, List.getElem_toArray, List.getElem_cons_succ, List.getElem_cons_zero, List.setIfInBounds_toArray, List.set_cons_zero, List.set_cons_succ]
    refine wpAnyH_done (by kernel_rfl) ?_ _
    go_wp2_with fail
    go_ret
    exact ⟨_, rfl, HF.out.1, HF.out.2.mono (fun b _ e => by subst e; rfl), rfl⟩
  · have hap' := fun ty c => hap ty ⟨g, (i + 1) * 5, none⟩ c (.inr rfl)
    clear hap
    go_enter Tryz.func89, Tryz.ntmps89
    go_upto_region 5 with fail
    refine wp_region_held_drew (S := fun _ => True) (by kernel_rfl) trivial (fun hHeld => ?_)
    refine wpAnyH_take (i := 0) (v := ?_) rfl (by kernel_rfl) (by kernel_rfl) (by kernel_rfl) (fun _ _ _ h => h) (Or.inl ⟨by rfl, ?_⟩) (by assumption) ?_
    rotate_left 1
    · (intro W hW; clear hW; go_simp; try with_reducible rfl)
    simp only [Act.put, List.getElem_toArray, List.getElem_cons_zero, List.setIfInBounds_toArray, List.set_cons_zero, List.set_cons_succ]
    refine wpAnyH_take (i := 1) (v := ?_) rfl (by kernel_rfl) (by kernel_rfl) (by kernel_rfl) (fun _ _ _ h => h) (Or.inl ⟨by rfl, ?_⟩) (by assumption) ?_
    rotate_left 1
    · (intro W hW; clear hW; go_simp; try with_reducible rfl)
    simp only [Act.put, List.getElem_toArray, List.getElem_cons_succ, List.getElem_cons_zero, List.setIfInBounds_toArray, List.set_cons_zero, List.set_cons_succ]
    refine wpAnyH_take (i := 2) (v := ?_) rfl (by kernel_rfl) (by kernel_rfl) (by kernel_rfl) (fun _ _ _ h => h) (Or.inl ⟨by rfl, ?_⟩) (by assumption) ?_
    rotate_left 1
    · (intro W hW; clear hW; go_simp; try with_reducible rfl)
    simp only [Act.put, List.getElem_toArray, List.getElem_cons_succ, List.getElem_cons_zero, List.setIfInBounds_toArray, List.set_cons_zero, List.set_cons_succ]
    refine wpAnyH_take (i := 3) (v := ?_) rfl (by kernel_rfl) (by kernel_rfl) (by kernel_rfl) (fun _ _ _ h => h) (Or.inl ⟨by rfl, ?_⟩) (by assumption) ?_
    rotate_left 1
    · (intro W hW; clear hW; go_simp; try with_reducible rfl)
    simp only [Act.put, List.getElem_toArray, List.getElem_cons_succ, List.getElem_cons_zero, List.setIfInBounds_toArray, List.set_cons_zero, List.set_cons_succ]
    refine wpAnyH_take (i := 4) (v := ?_) rfl (by kernel_rfl) (by kernel_rfl) (by kernel_rfl) (fun _ _ _ h => h) (Or.inl ⟨by rfl, ?_⟩) (by assumption) ?_
    rotate_left 1
    · (intro W hW; clear hW; go_simp; try with_reducible rfl)
    simp only [Act.put, List.getElem_toArray, List.getElem_cons_succ, List.getElem_cons_zero, List.setIfInBounds_toArray, List.set_cons_zero, List.set_cons_succ]
    refine wpAnyH_take (i := 5) (v := ?_) rfl (by kernel_rfl) (by kernel_rfl) (by kernel_rfl) (fun _ _ _ h => h) (Or.inl ⟨by rfl, ?_⟩) (by assumption) ?_
    rotate_left 1
    · (intro W hW; clear hW; go_simp; try with_reducible rfl)
    simp only [Act.put, List.getElem_toArray, List.getElem_cons_succ, List.getElem_cons_zero, List.setIfInBounds_toArray, List.set_cons_zero, List.set_cons_succ]
    refine wpAnyH_ready (rs := [6]) (by kernel_rfl) (by simp) ?_
    refine AllReadyH.cons rfl (fun K hK => ?_) AllReadyH.nil
    refine step_append_runI rfl _ _ 31 31 rfl (.slice (some ⟨g, 0, none⟩) i cap) (.slice (some ⟨g, (i + 1) * 5, none⟩) (n - (i + 1)) (cap - (i + 1))) (by simp [Act.eval, Act.put]) (by simp [Act.eval, Act.put]) _ _ (hap' _ _) ?_
    refine hK.out _ _ (trivial) (fun hHeld => ?_)
    clear hK K
    try simp only [Act.put, List.getElem_toArray, List.getElem_cons_succ, List.getElem_cons_zero, List.setIfInBounds_toArray, List.set_cons_zero, List.set_cons_succ]
    refine wpAnyH_take (i := 7) (v := ?_) rfl (by kernel_rfl) (by kernel_rfl) (by kernel_rfl) (fun _ _ _ h => h) (Or.inl ⟨by rfl, ?_⟩) (by assumption) ?_
    rotate_left 1
    · (intro W hW; clear hW; go_simp; try with_reducible rfl)
    simp only [Act.put, List.getElem_toArray, List.getElem_cons_succ, List.getElem_cons_zero, List.setIfInBounds_toArray, List.set_cons_zero, List.set_cons_succ]
    refine wpAnyH_done (by kernel_rfl) ?_ _
    go_wp2_with fail
    go_ret
    exact ⟨_, rfl, HF.out.1, HF.out.2.mono (fun b _ e => by subst e; rfl), rfl⟩
end Go.Proofs.YthfhpejpjiaikaaGreat
