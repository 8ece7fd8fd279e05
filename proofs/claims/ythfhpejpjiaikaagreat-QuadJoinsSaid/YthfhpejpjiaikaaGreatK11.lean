/- slices.Insert of one record into a list of the call's own. -/
import Derived.Test.YthfhpejpjiaikaaGreatK06
import Derived.Test.YthfhpejpjiaikaaGreatK10
namespace Go.Proofs.YthfhpejpjiaikaaGreat
open Go.RowKit
set_option linter.unusedVariables false
set_option linter.unusedSimpArgs false
theorem encQ_one : ∀ r, ∀ u ∈ encQ r, u.oneCell' = true := by
  intro r u hu
  simp only [encQ, List.mem_cons, List.not_mem_nil, or_false] at hu
  rcases hu with rfl | rfl | rfl | rfl | rfl <;> rfl
theorem infoRec : (Tryz.prog.info? 55).map (fun i => (i.zero, i.size, i.bytes)) = some (some (.agg #[.int .i64 0, .int .i64 0, .string ⟨#[]⟩, .string ⟨#[]⟩, .int .i64 0]), 5, 56) := by kernel_rfl
theorem sizeRec (w : World) : (Go.sizeOf 55).run Tryz.prog w = .ok 5 w := by
  obtain ⟨i0, hi, hz0, hz1, hz2⟩ := info_parts infoRec
  simp [Go.sizeOf, typeInfo, hi, hz1]
/-- What it does. -/
def InsP (W : World) (base : Nat) (v : Value) (L : List Rq) (e : Ending) (W' : World) : Prop :=
  ∃ v', e = .returned v' ∧ RowE encQ 5 W' base 55 v' L ∧ Off (fun b => v.ownBlock = some b) W W' ∧ (v'.ownBlock = v.ownBlock ∨ ∃ g, v'.ownBlock = some g ∧ W.heap.size ≤ g)
theorem grown_off {W W' : World} {o : Option Nat} (h : W.grownBy W' o) : Off (fun b => o = some b) W W' := ⟨h.os, h.tape, h.output, h.size, fun b hb hn => h.block b hb (fun e => hn e.symm)⟩
set_option maxRecDepth 100000 in
set_option maxHeartbeats 3200000 in
theorem ins_end {W : World} {base : Nat} {v : Value} {L : List Rq} (hrow : RowE encQ 5 W base 55 v L) (hbase : base ≤ W.heap.size) (hlen : L.length ≤ 100000) (r : Rq) {vb : Nat} (hv : Whole W vb 55 (encQ r).toArray) :
    Calls Tryz.prog 75 #[v, .int .i64 (L.length : Nat), .slice (some ⟨vb, 0, none⟩) 1 1] W (InsP W base v (L ++ [r])) := by
  obtain ⟨i0, hi, hz0, hz1, hz2⟩ := info_parts infoRec
  have hrow0 := hrow
  have hcell : ∀ j u, (encQ r)[j]? = some u → W.cell? ((⟨vb, 0, none⟩ : Addr).add j) = some u := fun j u hu => by rw [add_at, hv.cell, List.getElem?_toArray]; exact hu
  have h63 : L.length + 1 ≤ maxLen := Nat.le_trans (show _ ≤ 100001 by omega) (by decide)
  have hby : (L.length + 1) * 56 ≤ 140737488355328 := by omega
  rcases hrow.cur with ⟨rfl, rfl⟩ | ⟨g, cap, S, rfl, hg1, hg2, hc1, hc2, hl, hS⟩
  · go_enter Tryz.func75, Tryz.ntmps75
    go_wp2_with (at_builtin; refine wpList_append_own_at _ rfl (.tmp 23) (.tmp 24) 31 rfl base 55 i0 _ 5 56 Tryz.underlying31 hi hz0 hz1 hz2 rfl (by decide) _ 0 [] rfl hrow0 ⟨vb, 0, none⟩ 1 1 (encQ r) rfl rfl hcell (encQ_one r) h63 hby hbase ?_; intro v' w' h1 h2 h3 h4)
    go_ret
    exact ⟨v', rfl, RowE.more (l := []) h1, grown_off h2, h4.imp id (fun e => ⟨_, e, Nat.le_refl _⟩)⟩
  · have hn : (0 : Int) ≤ (L.length : Nat) := by omega
    have hnl : L.length ≤ L.length := Nat.le_refl _
    go_enter Tryz.func75, Tryz.ntmps75
    go_wp2_with (at_builtin; refine wpList_append_own_at _ rfl (.tmp 23) (.tmp 24) 31 rfl base 55 i0 _ 5 56 Tryz.underlying31 hi hz0 hz1 hz2 rfl (by decide) _ L.length (L.flatMap encQ) rfl hrow0 ⟨vb, 0, none⟩ 1 1 (encQ r) rfl rfl hcell (encQ_one r) h63 hby hbase ?_; intro v' w' h1 h2 h3 h4)
    all_goals
      go_ret
      exact ⟨v', rfl, RowE.more h1, grown_off h2, h4.imp id (fun e => ⟨_, e, Nat.le_refl _⟩)⟩
theorem shift_cells {A B S e : List Value} {a : Nat} (hA : A.length = a) (he : e.length = 5) (hS : 5 ≤ S.length) {c1 : List Value} (h1 : c1 = (A ++ B ++ S).take (a + 5) ++ B ++ (A ++ B ++ S).drop (a + 5 + B.length)) :
    c1.take a ++ e ++ c1.drop (a + 5) = A ++ e ++ B ++ S.drop 5 := by
  have hl : ((A ++ B ++ S).take (a + 5)).length = a + 5 := by rw [List.length_take, List.length_append, List.length_append]; omega
  have e1 : c1.take a = A := by
    rw [h1, List.append_assoc, List.take_append_of_le_length (by omega), List.take_take, Nat.min_eq_left (by omega), List.append_assoc, ← hA, List.take_left]
  have e2 : c1.drop (a + 5) = B ++ S.drop 5 := by
    rw [h1, List.append_assoc, List.drop_left' hl]
    congr 1
    rw [show a + 5 + B.length = (A ++ B).length + 5 by rw [List.length_append]; omega, List.drop_append, List.drop_eq_nil_of_le (by omega), List.nil_append]
    congr 1
    omega
  rw [e1, e2, ← List.append_assoc]
theorem grow_cells {A B Y e : List Value} {a : Nat} (hA : A.length = a) (he : e.length = 5) {c1 : List Value} (h1 : c1 = (A ++ Y).take a ++ e ++ (A ++ Y).drop (a + 5)) :
    c1.take (a + 5) ++ B ++ c1.drop (a + 5 + B.length) = A ++ e ++ B ++ Y.drop (5 + B.length) := by
  have e0 : c1 = A ++ e ++ Y.drop 5 := by
    rw [h1, ← hA, List.take_left, List.drop_append, List.drop_eq_nil_of_le (by omega), List.nil_append]
    congr 2
    omega
  have hl : (A ++ e).length = a + 5 := by rw [List.length_append]; omega
  have e1 : c1.take (a + 5) = A ++ e := by rw [e0, ← hl, List.take_left]
  have e2 : c1.drop (a + 5 + B.length) = Y.drop (5 + B.length) := by
    rw [e0, ← hl, List.drop_append, List.drop_eq_nil_of_le (by omega), List.nil_append, List.drop_drop]
    congr 1
    omega
  rw [e1, e2]
theorem ins_flat (L : List Rq) (i : Nat) (r : Rq) : (L.take i ++ r :: L.drop i).flatMap encQ = (L.take i).flatMap encQ ++ encQ r ++ (L.drop i).flatMap encQ := by
  rw [List.flatMap_append, List.flatMap_cons, List.append_assoc]
theorem flat_split (L : List Rq) (i : Nat) : L.flatMap encQ = (L.take i).flatMap encQ ++ (L.drop i).flatMap encQ := by
  rw [← List.flatMap_append, List.take_append_drop]
theorem ins_len (L : List Rq) {i : Nat} (h : i ≤ L.length) (r : Rq) : (L.take i ++ r :: L.drop i).length = L.length + 1 := by
  simp; omega
theorem heap_setRow {W : World} {g : Nat} {cur : Array Value} {t : TypeId} (hg : W.heap[g]? = some (.cells cur t (0, 0))) (cs : Array Value) : (W.setRow g cs).heap[g]? = some (.cells cs t (0, 0)) := setRow_heap W g cur cs t _ hg
set_option maxRecDepth 100000 in
set_option maxHeartbeats 6400000 in
theorem ins_room {W : World} {base : Nat} {L : List Rq} {g cap : Nat} {S : List Value} (hb : base ≤ g) (hg : W.heap[g]? = some (.cells (L.flatMap encQ ++ S).toArray 55 (0, 0))) (hcap : L.length + 1 ≤ cap) (hm : cap ≤ maxLen) (hS : S.length = (cap - L.length) * 5)
    {i : Nat} (hi : i < L.length) (hlen : L.length ≤ 100000) (r : Rq) {vb : Nat} (hv : Whole W vb 55 (encQ r).toArray) (hne : vb ≠ g) :
    Calls Tryz.prog 75 #[.slice (some ⟨g, 0, none⟩) L.length cap, .int .i64 (i : Nat), .slice (some ⟨vb, 0, none⟩) 1 1] W (InsP W base (.slice (some ⟨g, 0, none⟩) L.length cap) (L.take i ++ r :: L.drop i)) := by
  obtain ⟨i0, hi0, hz0, hz1, hz2⟩ := info_parts infoRec
  have hsz : (Tryz.prog.info? 55).map (·.size) = some 5 := by rw [hi0]; simp [hz1]
  obtain ⟨n, hn⟩ : ∃ n, n = L.length := ⟨_, rfl⟩
  have hA : ((L.take i).flatMap encQ).length = i * 5 := by rw [rows_len encQ_len, List.length_take]; congr 1; omega
  have hB : ((L.drop i).flatMap encQ).length = (n - i) * 5 := by rw [rows_len encQ_len, List.length_drop, hn]
  rw [flat_split L i] at hg
  have hfin : (L.take i ++ r :: L.drop i).flatMap encQ = _ := ins_flat L i r
  have hfl := ins_len L (Nat.le_of_lt hi) r
  have hffl := rows_len encQ_len (L.take i ++ r :: L.drop i)
  obtain ⟨A, hAe⟩ : ∃ A, (L.take i).flatMap encQ = A := ⟨_, rfl⟩
  obtain ⟨C, hCe⟩ : ∃ C, (L.drop i).flatMap encQ = C := ⟨_, rfl⟩
  have oneC : ∀ u ∈ C, u.oneCell' = true := by rw [← hCe]; exact flat_one encQ_one _
  rw [hAe] at hA hg hfin
  rw [hCe] at hB hg hfin
  obtain ⟨M, hM⟩ : ∃ M, L.take i ++ r :: L.drop i = M := ⟨_, rfl⟩
  rw [hM] at hfin hfl hffl ⊢
  rw [← hn] at hi hcap hlen hfl hS ⊢
  have hov : ∀ lb cb, (callFunc 102 #[.slice (some ⟨vb, 0, none⟩) 1 1, .slice (some ⟨g, (i + 1) * 5, none⟩) lb cb]).run Tryz.prog W = .ok (.value (.bool false)) W := fun lb cb => by
    rw [run_callFunc_extern Tryz.func102 (by kernel_rfl) (by kernel_rfl) (by kernel_rfl) (e := Extern.SlicesOverlaps.overlaps #[31, 31] #[4]) (by kernel_rfl),
      Lib.run_overlaps_apart W 31 4 55 Tryz.underlying31 5 sizeRec ⟨vb, 0, none⟩ ⟨g, (i + 1) * 5, none⟩ 1 1 lb cb hne 55 55 5 (A ++ C ++ S).toArray.size
        (by unfold World.shape?; rw [show W.heap[vb]? = _ from hv]; rfl) (by unfold World.shape?; rw [hg]) (by rw [List.size_toArray, List.length_append, List.length_append]; omega) (hv.frozen 0) (hv.frozen 5)]
    rfl
  obtain ⟨c1, hc1⟩ : ∃ c1, c1 = (A ++ C ++ S).take (i * 5 + 5) ++ C ++ (A ++ C ++ S).drop (i * 5 + 5 + C.length) := ⟨_, rfl⟩
  obtain ⟨W1, hW1⟩ : ∃ W1, W1 = W.drew.setRow g c1.toArray := ⟨_, rfl⟩
  have hg1 : W1.heap[g]? = some (.cells c1.toArray 55 (0, 0)) := by rw [hW1]; exact heap_setRow (W := W.drew) hg _
  have hv1 : Whole W1 vb 55 (encQ r).toArray := by rw [hW1]; exact (off_setRow (F := fun b => b = g) (Off.refl _ W.drew) (.inr rfl) _).whole hv.drew hne
  have hl1 : c1.length = (A ++ C ++ S).length := by
    rw [hc1]
    simp only [List.length_append, List.length_take, List.length_drop]
    omega
  have hlA : (A ++ C ++ S).length = cap * 5 := by rw [List.length_append, List.length_append, hA, hB, hS]; omega
  obtain ⟨W2, hW2⟩ : ∃ W2, W2 = W1.setRow g (c1.take (i * 5) ++ encQ r ++ c1.drop (i * 5 + 5)).toArray := ⟨_, rfl⟩
  have hc2 := shift_cells (A := A) (B := C) (S := S) (e := encQ r) hA (encQ_len r) (by rw [hS]; omega) hc1
  have hcp1 : ∀ ty dc sc, (Builtin.copy_ #[31, 31] ty #[.slice (some ⟨g, (i + 1) * 5, none⟩) (n + 1 - (i + 1)) dc, .slice (some ⟨g, i * 5, none⟩) (n + 1 - i) sc]).run Tryz.prog W.drew = .ok (goInt (n - i : Nat)) W1 := fun ty dc sc => by
    rw [hW1, hc1]
    refine (run_copy_k W.drew _ _ ty 55 5 g ((i + 1) * 5) _ dc ⟨g, i * 5, none⟩ _ sc (n - i) (A ++ C ++ S).toArray 55 C Tryz.underlying31 hsz hg (by simp only [Nat.min_def]; split <;> omega) hB (fun j v hj => ?_) (by rw [List.size_toArray, hlA, hB]; omega) oneC).trans ?_
    · rw [Addr.add_lit, cell_of_row W.drew g _ _ _ _ hg, List.getElem?_toArray, List.append_assoc, List.getElem?_append_right (by omega), show i * 5 + j - A.length = j by omega]
      rw [List.getElem?_append_left (List.getElem?_eq_some_iff.1 hj).1]
      exact hj
    · rw [List.toList_toArray, show (i + 1) * 5 = i * 5 + 5 by omega]
  have hcp2 : ∀ ty dc, (Builtin.copy_ #[31, 31] ty #[.slice (some ⟨g, i * 5, none⟩) (n + 1 - i) dc, .slice (some ⟨vb, 0, none⟩) 1 1]).run Tryz.prog W1 = .ok (goInt 1) W2 := fun ty dc => by
    rw [hW2]
    refine (run_copy_k W1 _ _ ty 55 5 g (i * 5) _ dc ⟨vb, 0, none⟩ 1 1 1 c1.toArray 55 (encQ r) Tryz.underlying31 hsz hg1 (by simp only [Nat.min_def]; split <;> omega) rfl (fun j v hj => ?_) (by rw [List.size_toArray, hl1, hlA, encQ_len]; omega) (encQ_one r)).trans ?_
    · rw [Addr.add_lit, Nat.zero_add, hv1.cell, List.getElem?_toArray]; exact hj
    · rw [List.toList_toArray, encQ_len]; rfl
  have hrow : RowE encQ 5 W2 base 55 (.slice (some ⟨g, 0, none⟩) (n + 1) cap) M := by
    have h2 : W2.heap[g]? = some (.cells (M.flatMap encQ ++ S.drop 5).toArray 55 (0, 0)) := by rw [hW2, heap_setRow hg1, hc2, hfin]
    rw [← hfl]
    exact RowE.of hb h2 (by omega) hm hffl (by rw [List.length_drop, hS, hfl]; omega)
  have hoff : Off (fun b => (Value.slice (some ⟨g, 0, none⟩) n cap).ownBlock = some b) W W2 := by
    rw [hW2, hW1]
    have z : ∀ W', Off (fun b => (Value.slice (some ⟨g, 0, none⟩) n cap).ownBlock = some b) W W' → ∀ cs, Off (fun b => (Value.slice (some ⟨g, 0, none⟩) n cap).ownBlock = some b) W (W'.setRow g cs) := fun W' h cs => off_setRow h (.inr rfl) cs
    exact z _ (z _ (Off.refl _ W).drew _) _
  have HF := Lib.hid (And.intro hrow hoff)
  have hw1 : IntKind.i64.wrap ((i : Int) + 1) = (i : Int) + 1 := IntWalk.i64_in _ (by omega)
  have hw2 : IntKind.i64.wrap ((n : Int) + 1) = (n : Int) + 1 := IntWalk.i64_in _ (by omega)
  have hb1 : (0 : Int) ≤ (i : Int) + 1 := by omega
  have hb2 : (0 : Int) ≤ (n : Int) + 1 := by omega
  have hin : i ≤ n := by omega
  have ht1 : ((i : Int) + 1).toNat = i + 1 := by omega
  have ht2 : ((n : Int) + 1).toNat = n + 1 := by omega
  have hz2 : ¬ ((i : Int) = (n : Int)) := by omega
  have hb3 : ¬ (cap = i + 1) := by omega
  have hb4 : (i : Int) ≤ (n : Int) + 1 := by omega
  have hb5 : ¬ (cap = i) := by omega
  have hb6 : (i : Int) + 1 ≤ (n : Int) + 1 := by omega
  have hb7 : ¬ ((cap : Int) < (n : Int) + 1) := by omega
  have hb8 : ((n : Int) + 1) ≤ (cap : Int) := by omega
  have hb9 : n + 1 ≤ cap := hcap
  have d1 : decide ((cap : Int) < (n : Int) + 1) = false := decide_eq_false hb7
  have d2 : ((i : Int) == (n : Int)) = false := by simpa using hz2
  clear hrow hoff hc2 hl1 hlA hW1 hW2 hc1 hg1 hv1 hfin hffl hfl hM hA hB hS oneC hAe hCe hg hsz hn
  have mixed : Tryz.prog.follows Departure.mixedOrders = true := by kernel_rfl
  go_enter Tryz.func75, Tryz.ntmps75
  go_wp2_with (simp only [hov])
  refine wp_region_held_drew (S := fun _ => True) (by kernel_rfl) trivial (fun hHeld => ?_)
  refine wpAnyH_take (i := 0) (v := ?_) rfl (by kernel_rfl) (by kernel_rfl) (by kernel_rfl) (fun _ _ _ h => h) (Or.inl ⟨by rfl, ?_⟩) (by assumption) ?_
  rotate_left 1
  · (intro W hW; clear hW; go_simp; try with_reducible rfl)
  simp only [Act.put, List.getElem_toArray, List.getElem_cons_zero, List.setIfInBounds_toArray, List.set_cons_zero, List.set_cons_succ]
  refine wpAnyH_take (i := 1) (v := ?_) rfl (by kernel_rfl) (by kernel_rfl) (by kernel_rfl) (fun _ _ _ h => h) (Or.inl ⟨by rfl, ?_⟩) (by assumption) ?_
  rotate_left 1
  · (intro W hW; clear hW; go_simp; try with_reducible rfl)
  simp only [Act.put, List.getElem_toArray, List.getElem_cons_succ, List.getElem_cons_zero, List.setIfInBounds_toArray, List.set_cons_zero, List.set_cons_succ]
  refine wpAnyH_take (i := 2) (v := ?_) rfl (by kernel_rfl) (by kernel_rfl) (by kernel_rfl) (fun _ _ _ h => h) (Or.inl ⟨by rfl, ?_⟩) (by assumption) ?_
  rotate_left 1
  · (intro W hW; clear hW; go_simp; try with_reducible rfl)
  simp only [Act.put, List.getElem_toArray, List.getElem_cons_succ, List.getElem_cons_zero, List.setIfInBounds_toArray, List.set_cons_zero, List.set_cons_succ]
  refine wpAnyH_take (i := 3) (v := ?_) rfl (by kernel_rfl) (by kernel_rfl) (by kernel_rfl) (fun _ _ _ h => h) (Or.inl ⟨by rfl, ?_⟩) (by assumption) ?_
  rotate_left 1
  · (intro W hW; clear hW; go_simp; try with_reducible rfl)
  simp only [Act.put, List.getElem_toArray, List.getElem_cons_succ, List.getElem_cons_zero, List.setIfInBounds_toArray, List.set_cons_zero, List.set_cons_succ]
  refine wpAnyH_take (i := 4) (v := ?_) rfl (by kernel_rfl) (by kernel_rfl) (by kernel_rfl) (fun _ _ _ h => h) (Or.inl ⟨by rfl, ?_⟩) (by assumption) ?_
  rotate_left 1
  · (intro W hW; clear hW; go_simp; try with_reducible rfl)
  simp only [Act.put, List.getElem_toArray, List.getElem_cons_succ, List.getElem_cons_zero, List.setIfInBounds_toArray, List.set_cons_zero, List.set_cons_succ]
  refine wpAnyH_take (i := 5) (v := ?_) rfl (by kernel_rfl) (by kernel_rfl) (by kernel_rfl) (fun _ _ _ h => h) (Or.inl ⟨by rfl, ?_⟩) (by assumption) ?_
  rotate_left 1
  · (intro W hW; clear hW; go_simp; try with_reducible rfl)
  simp only [Act.put, List.getElem_toArray, List.getElem_cons_succ, List.getElem_cons_zero, List.setIfInBounds_toArray, List.set_cons_zero, List.set_cons_succ]
  refine wpAnyH_take (i := 6) (v := ?_) rfl (by kernel_rfl) (by kernel_rfl) (by kernel_rfl) (fun _ _ _ h => h) (Or.inl ⟨by rfl, ?_⟩) (by assumption) ?_
  rotate_left 1
  · (intro W hW; clear hW; go_simp; try with_reducible rfl)
  simp only [Act.put, List.getElem_toArray, List.getElem_cons_succ, List.getElem_cons_zero, List.setIfInBounds_toArray, List.set_cons_zero, List.set_cons_succ]
  refine wpAnyH_take (i := 7) (v := ?_) rfl (by kernel_rfl) (by kernel_rfl) (by kernel_rfl) (fun _ _ _ h => h) (Or.inl ⟨by rfl, ?_⟩) (by assumption) ?_
  rotate_left 1
  · (intro W hW; clear hW; go_simp; try with_reducible rfl)
  simp only [Act.put, List.getElem_toArray, List.getElem_cons_succ, List.getElem_cons_zero, List.setIfInBounds_toArray, List.set_cons_zero, List.set_cons_succ]
  refine wpAnyH_ready (rs := [8]) (by kernel_rfl) (by simp) ?_
  refine AllReadyH.cons rfl (fun K hK => ?_) AllReadyH.nil
  refine step_copy_runI rfl _ _ 31 31 rfl (.slice (some ⟨g, (i + 1) * 5, none⟩) (n + 1 - (i + 1)) (cap - (i + 1))) (.slice (some ⟨g, i * 5, none⟩) (n + 1 - i) (cap - i)) (by simp [Act.eval, Act.put]) (by simp [Act.eval, Act.put]) (hcp1 _ _ _) ?_
  refine hK.out _ _ (trivial) (fun hHeld => ?_)
  clear hK K
  try simp only [Act.put, List.getElem_toArray, List.getElem_cons_succ, List.getElem_cons_zero, List.setIfInBounds_toArray, List.set_cons_zero, List.set_cons_succ]
  refine wpAnyH_done (by kernel_rfl) ?_ _
  go_wp2_with (at_builtin; refine wpList_copy_runI _ rfl _ _ 31 31 rfl _ _ rfl rfl (hcp2 _ _) ?_)
  go_ret
  exact ⟨_, rfl, HF.out.1, HF.out.2, .inl rfl⟩
set_option maxRecDepth 100000 in
set_option maxHeartbeats 6400000 in
theorem ins_grow {W : World} {base : Nat} {L : List Rq} {g cap : Nat} {S : List Value} (hg : W.heap[g]? = some (.cells (L.flatMap encQ ++ S).toArray 55 (0, 0))) (hcap : cap < L.length + 1) (hcl : L.length ≤ cap)
    {i : Nat} (hi : i < L.length) (hlen : L.length ≤ 100000) (hbase : base ≤ W.heap.size) (r : Rq) {vb : Nat} (hv : Whole W vb 55 (encQ r).toArray) :
    Calls Tryz.prog 75 #[.slice (some ⟨g, 0, none⟩) L.length cap, .int .i64 (i : Nat), .slice (some ⟨vb, 0, none⟩) 1 1] W (InsP W base (.slice (some ⟨g, 0, none⟩) L.length cap) (L.take i ++ r :: L.drop i)) := by
  obtain ⟨i0, hi0, hz0, hz1, hz2⟩ := info_parts infoRec
  have hsz : (Tryz.prog.info? 55).map (·.size) = some 5 := by rw [hi0]; simp [hz1]
  obtain ⟨n, hn⟩ : ∃ n, n = L.length := ⟨_, rfl⟩
  have hA : ((L.take i).flatMap encQ).length = i * 5 := by rw [rows_len encQ_len, List.length_take]; congr 1; omega
  have hB : ((L.drop i).flatMap encQ).length = (n - i) * 5 := by rw [rows_len encQ_len, List.length_drop, hn]
  rw [flat_split L i] at hg
  have hfin : (L.take i ++ r :: L.drop i).flatMap encQ = _ := ins_flat L i r
  have hfl := ins_len L (Nat.le_of_lt hi) r
  have hffl := rows_len encQ_len (L.take i ++ r :: L.drop i)
  obtain ⟨A, hAe⟩ : ∃ A, (L.take i).flatMap encQ = A := ⟨_, rfl⟩
  obtain ⟨C, hCe⟩ : ∃ C, (L.drop i).flatMap encQ = C := ⟨_, rfl⟩
  have oneC : ∀ u ∈ C, u.oneCell' = true := by rw [← hCe]; exact flat_one encQ_one _
  rw [hAe] at hA hg hfin
  rw [hCe] at hB hg hfin
  obtain ⟨M, hM⟩ : ∃ M, L.take i ++ r :: L.drop i = M := ⟨_, rfl⟩
  rw [hM] at hfin hfl hffl ⊢
  rw [← hn] at hi hcap hcl hlen hfl ⊢
  have hcn : cap = n := by omega
  subst hcn
  obtain ⟨n, hn2⟩ : ∃ n, n = cap := ⟨_, rfl⟩
  subst hn2
  have hold : (Builtin.firstCells i0.size i (.slice (some ⟨g, 0, none⟩) i n)).run Tryz.prog W.drew = .ok A.toArray W.drew := by
    rw [hz1]
    refine run_firstCells_some W.drew 5 i ⟨g, 0, none⟩ i n A hA (fun j v hj => ?_)
    rw [add_at, cell_of_row W.drew g _ _ _ _ hg, List.getElem?_toArray, List.append_assoc, List.getElem?_append_left (List.getElem?_eq_some_iff.1 hj).1]
    exact hj
  obtain ⟨k, hk⟩ : ∃ k, k = n + 1 - i := ⟨_, rfl⟩
  obtain ⟨C0, hC0⟩ : ∃ C0, C0 = grownCap W (i + k) n 55 := ⟨_, rfl⟩
  have hik : i + k = n + 1 := by omega
  have hapz : ∀ ty, (Builtin.append_ #[31, 3] ty #[.slice (some ⟨g, 0, none⟩) i n, .int .i64 (k : Nat)]).run Tryz.prog W = _ := fun ty =>
    Lib.run_append_grow_zeros W 31 3 ty 55 i0 _ .i64 .i64 Tryz.underlying31 Tryz.underlying3 hi0 hz0 (some ⟨g, 0, none⟩) i n A hold k (by omega) (by rw [hz1]; decide) (by omega) (by omega) (by rw [hz2]; omega) (by rw [hz2]; exact growslice_fits (by omega) (by omega))
  obtain ⟨Y, hY⟩ : ∃ Y, Y = (Builtin.zeroCells (Value.agg #[.int .i64 0, .int .i64 0, .string ⟨#[]⟩, .string ⟨#[]⟩, .int .i64 0]).cells k).toList ++ (Builtin.zeroCells (Value.agg #[.int .i64 0, .int .i64 0, .string ⟨#[]⟩, .string ⟨#[]⟩, .int .i64 0]).cells (C0 - (i + k))).toList := ⟨_, rfl⟩
  have hge : i + k ≤ C0 := by rw [hC0]; exact grownCap_ge W (i + k) n _
  have hle : C0 ≤ maxLen := by rw [hC0]; exact grownCap_le_maxLen W (i + k) n _ (Nat.le_trans (show _ ≤ 100001 by omega) (by decide))
  have hYl : Y.length = (C0 - i) * 5 := by
    rw [hY, List.length_append, Array.length_toList, Array.length_toList, size_zeroCells, size_zeroCells]
    show k * 5 + (C0 - (i + k)) * 5 = _
    omega
  obtain ⟨W1, hW1⟩ : ∃ W1, W1 = W.drew.alloc (.cells (A ++ Y).toArray 55) := ⟨_, rfl⟩
  have hapz' : ∀ ty, (Builtin.append_ #[31, 3] ty #[.slice (some ⟨g, 0, none⟩) i n, .int .i64 (k : Nat)]).run Tryz.prog W = .ok (.slice (some ⟨W.heap.size, 0, none⟩) (n + 1) C0) W1 := fun ty => by
    rw [hapz ty, ← hC0, hik, hW1, hY]
    congr 2
    simp [← hik]
  clear hapz hold
  have hgl : g < W.heap.size := (Array.getElem?_eq_some_iff.1 hg).1
  have hg1 : W1.heap[W.heap.size]? = some (.cells (A ++ Y).toArray 55 (0, 0)) := by rw [hW1]; exact heap_alloc_new W.drew _
  have hs1 : Since W W1 := by rw [hW1]; exact (Since.refl W).drew.alloc _
  have hv1 := Since.whole hs1 hv
  obtain ⟨c1, hc1⟩ : ∃ c1, c1 = (A ++ Y).take (i * 5) ++ encQ r ++ (A ++ Y).drop (i * 5 + 5) := ⟨_, rfl⟩
  obtain ⟨W2, hW2⟩ : ∃ W2, W2 = W1.setRow W.heap.size c1.toArray := ⟨_, rfl⟩
  have hlY : (A ++ Y).length = C0 * 5 := by rw [List.length_append, hA, hYl]; omega
  have hl1 : c1.length = C0 * 5 := by
    rw [hc1]
    simp only [List.length_append, List.length_take, List.length_drop, encQ_len]
    simp only [List.length_append] at hlY
    omega
  have ho2 : Off (fun b => b = W.heap.size) W1 W2 := by rw [hW2]; exact off_row (Off.refl _ W1) _
  have hgW2 : W2.heap[g]? = some (.cells (A ++ C ++ S).toArray 55 (0, 0)) := by
    rw [ho2.block g (Nat.lt_of_lt_of_le hgl hs1.size_) (by omega), hs1.block g hgl]; exact hg
  have hg2 : W2.heap[W.heap.size]? = some (.cells c1.toArray 55 (0, 0)) := by rw [hW2]; exact heap_setRow hg1 _
  obtain ⟨W3, hW3⟩ : ∃ W3, W3 = W2.drew.setRow W.heap.size (c1.take (i * 5 + 5) ++ C ++ c1.drop (i * 5 + 5 + C.length)).toArray := ⟨_, rfl⟩
  have hc2 := grow_cells (A := A) (B := C) (Y := Y) (e := encQ r) hA (encQ_len r) hc1
  have hcp1 : ∀ ty dc, (Builtin.copy_ #[31, 31] ty #[.slice (some ⟨W.heap.size, i * 5, none⟩) (n + 1 - i) dc, .slice (some ⟨vb, 0, none⟩) 1 1]).run Tryz.prog W1 = .ok (goInt 1) W2 := fun ty dc => by
    rw [hW2, hc1]
    refine (run_copy_k W1 _ _ ty 55 5 W.heap.size (i * 5) _ dc ⟨vb, 0, none⟩ 1 1 1 (A ++ Y).toArray 55 (encQ r) Tryz.underlying31 hsz hg1 (by simp only [Nat.min_def]; split <;> omega) rfl (fun j v hj => ?_) (by rw [List.size_toArray, hlY, encQ_len]; omega) (encQ_one r)).trans ?_
    · rw [Addr.add_lit, Nat.zero_add, hv1.cell, List.getElem?_toArray]; exact hj
    · rw [List.toList_toArray, encQ_len]; rfl
  have hcp2 : ∀ ty dc sc, (Builtin.copy_ #[31, 31] ty #[.slice (some ⟨W.heap.size, (i + 1) * 5, none⟩) (n + 1 - (i + 1)) dc, .slice (some ⟨g, i * 5, none⟩) (n - i) sc]).run Tryz.prog W2.drew = .ok (goInt (n - i : Nat)) W3 := fun ty dc sc => by
    rw [hW3]
    refine (run_copy_k W2.drew _ _ ty 55 5 W.heap.size ((i + 1) * 5) _ dc ⟨g, i * 5, none⟩ _ sc (n - i) c1.toArray 55 C Tryz.underlying31 hsz hg2 (by simp only [Nat.min_def]; split <;> omega) hB (fun j v hj => ?_) (by rw [List.size_toArray, hl1, hB]; omega) oneC).trans ?_
    · rw [Addr.add_lit, cell_of_row W2.drew g _ _ _ _ hgW2, List.getElem?_toArray, List.append_assoc, List.getElem?_append_right (by omega), show i * 5 + j - A.length = j by omega]
      rw [List.getElem?_append_left (List.getElem?_eq_some_iff.1 hj).1]
      exact hj
    · rw [List.toList_toArray, show (i + 1) * 5 = i * 5 + 5 by omega]
  have hrow : RowE encQ 5 W3 base 55 (.slice (some ⟨W.heap.size, 0, none⟩) (n + 1) C0) M := by
    have h2 : W3.heap[W.heap.size]? = some (.cells (M.flatMap encQ ++ Y.drop (5 + C.length)).toArray 55 (0, 0)) := by rw [hW3, heap_setRow (W := W2.drew) hg2, hc2, hfin]
    rw [← hfl]
    exact RowE.of hbase h2 (by omega) hle hffl (by rw [List.length_drop, hYl, hB, hfl]; omega)
  have hs3 : Since W W3 := by
    have h : Off (fun b => b = W.heap.size) W1 W3 := by rw [hW3]; exact off_row ho2.drew _
    exact ⟨h.os.trans hs1.os, h.tape.trans hs1.tape, h.output.trans hs1.output, Nat.le_trans hs1.size h.size, fun b hb => (h.block b (Nat.lt_of_lt_of_le hb hs1.size) (by omega)).trans (hs1.block b hb)⟩
  have HF := Lib.hid (And.intro hrow hs3)
  have hkk : (n : Int) + 1 - (i : Int) = (k : Int) := by omega
  have hw0 : IntKind.i64.wrap (k : Int) = (k : Int) := IntWalk.i64_in _ (by omega)
  have hw1 : IntKind.i64.wrap ((i : Int) + 1) = (i : Int) + 1 := IntWalk.i64_in _ (by omega)
  have hw2 : IntKind.i64.wrap ((n : Int) + 1) = (n : Int) + 1 := IntWalk.i64_in _ (by omega)
  have hb1 : (0 : Int) ≤ (i : Int) + 1 := by omega
  have hin : i ≤ n := by omega
  have hin1 : i ≤ n + 1 := by omega
  have ht1 : ((i : Int) + 1).toNat = i + 1 := by omega
  have hz2' : ¬ ((i : Int) = (n : Int)) := by omega
  have hb3 : ¬ (C0 = i + 1) ∨ True := .inr trivial
  have hb4 : (i : Int) ≤ (n : Int) + 1 := by omega
  have hb5 : ¬ (C0 = i) := by omega
  have hb6 : (i : Int) + 1 ≤ (n : Int) + 1 := by omega
  have hb7 : ¬ (n = i) := by omega
  have hb8 : i + 1 ≤ n + 1 := by omega
  have d1 : decide ((n : Int) < (n : Int) + 1) = true := decide_eq_true (by omega)
  have d2 : ((i : Int) == (n : Int)) = false := by simpa using hz2'
  have hb9 : ¬ (C0 = i + 1) := by omega
  clear hrow hs3 hc2 hl1 hlY hW1 hW2 hW3 hc1 hg1 hg2 hgW2 hv1 hfin hffl hfl hM hA hB oneC hAe hCe hg hsz hn hs1 ho2 hY hYl hC0 hk hb3
  go_enter Tryz.func75, Tryz.ntmps75
  go_wp2_with (first | (at_builtin; refine Lib.wpList_append_run _ rfl _ _ _ _ rfl _ _ rfl rfl _ _ (hapz' _) ?_) | (at_builtin; refine wpList_copy_runI _ rfl _ _ 31 31 rfl _ _ rfl rfl (hcp1 _ _) ?_))
  refine wp_region_held_drew (S := fun _ => True) (by kernel_rfl) trivial (fun hHeld => ?_)
  refine wpAnyH_take (i := 0) (v := ?_) rfl (by kernel_rfl) (by kernel_rfl) (by kernel_rfl) (fun _ _ _ h => h) (Or.inl ⟨by rfl, ?_⟩) (by assumption) ?_
  rotate_left 1
  · (intro W hW; clear hW; go_simp; try with_reducible rfl)
  simp only [Act.put, List.getElem_toArray, List.getElem_cons_zero, List.setIfInBounds_toArray, List.set_cons_zero, List.set_cons_succ]
  refine wpAnyH_take (i := 1) (v := ?_) rfl (by kernel_rfl) (by kernel_rfl) (by kernel_rfl) (fun _ _ _ h => h) (Or.inl ⟨by rfl, ?_⟩) (by assumption) ?_
  rotate_left 1
  · (intro W hW; clear hW; go_simp; try with_reducible rfl)
  simp only [Act.put, List.getElem_toArray, List.getElem_cons_succ, List.getElem_cons_zero, List.setIfInBounds_toArray, List.set_cons_zero, List.set_cons_succ]
  refine wpAnyH_take (i := 2) (v := ?_) rfl (by kernel_rfl) (by kernel_rfl) (by kernel_rfl) (fun _ _ _ h => h) (Or.inl ⟨by rfl, ?_⟩) (by assumption) ?_
  rotate_left 1
  · (intro W hW; clear hW; go_simp; try with_reducible rfl)
  simp only [Act.put, List.getElem_toArray, List.getElem_cons_succ, List.getElem_cons_zero, List.setIfInBounds_toArray, List.set_cons_zero, List.set_cons_succ]
  refine wpAnyH_take (i := 3) (v := ?_) rfl (by kernel_rfl) (by kernel_rfl) (by kernel_rfl) (fun _ _ _ h => h) (Or.inl ⟨by rfl, ?_⟩) (by assumption) ?_
  rotate_left 1
  · (intro W hW; clear hW; go_simp; try with_reducible rfl)
  simp only [Act.put, List.getElem_toArray, List.getElem_cons_succ, List.getElem_cons_zero, List.setIfInBounds_toArray, List.set_cons_zero, List.set_cons_succ]
  refine wpAnyH_take (i := 4) (v := ?_) rfl (by kernel_rfl) (by kernel_rfl) (by kernel_rfl) (fun _ _ _ h => h) (Or.inl ⟨by rfl, ?_⟩) (by assumption) ?_
  rotate_left 1
  · (intro W hW; clear hW; go_simp; try with_reducible rfl)
  simp only [Act.put, List.getElem_toArray, List.getElem_cons_succ, List.getElem_cons_zero, List.setIfInBounds_toArray, List.set_cons_zero, List.set_cons_succ]
  refine wpAnyH_take (i := 5) (v := ?_) rfl (by kernel_rfl) (by kernel_rfl) (by kernel_rfl) (fun _ _ _ h => h) (Or.inl ⟨by rfl, ?_⟩) (by assumption) ?_
  rotate_left 1
  · (intro W hW; clear hW; go_simp; try with_reducible rfl)
  simp only [Act.put, List.getElem_toArray, List.getElem_cons_succ, List.getElem_cons_zero, List.setIfInBounds_toArray, List.set_cons_zero, List.set_cons_succ]
  refine wpAnyH_take (i := 6) (v := ?_) rfl (by kernel_rfl) (by kernel_rfl) (by kernel_rfl) (fun _ _ _ h => h) (Or.inl ⟨by rfl, ?_⟩) (by assumption) ?_
  rotate_left 1
  · (intro W hW; clear hW; go_simp; try with_reducible rfl)
  simp only [Act.put, List.getElem_toArray, List.getElem_cons_succ, List.getElem_cons_zero, List.setIfInBounds_toArray, List.set_cons_zero, List.set_cons_succ]
  refine wpAnyH_take (i := 7) (v := ?_) rfl (by kernel_rfl) (by kernel_rfl) (by kernel_rfl) (fun _ _ _ h => h) (Or.inl ⟨by rfl, ?_⟩) (by assumption) ?_
  rotate_left 1
  · (intro W hW; clear hW; go_simp; try with_reducible rfl)
  simp only [Act.put, List.getElem_toArray, List.getElem_cons_succ, List.getElem_cons_zero, List.setIfInBounds_toArray, List.set_cons_zero, List.set_cons_succ]
  refine wpAnyH_ready (rs := [8]) (by kernel_rfl) (by simp) ?_
  refine AllReadyH.cons rfl (fun K hK => ?_) AllReadyH.nil
  refine step_copy_runI rfl _ _ 31 31 rfl (.slice (some ⟨W.heap.size, (i + 1) * 5, none⟩) (n + 1 - (i + 1)) (C0 - (i + 1))) (.slice (some ⟨g, i * 5, none⟩) (n - i) (n - i)) (by simp [Act.eval, Act.put]) (by simp [Act.eval, Act.put]) (hcp2 _ _ _) ?_
  refine hK.out _ _ (trivial) (fun hHeld => ?_)
  clear hK K
  try simp only [Act.put, List.getElem_toArray, List.getElem_cons_succ, List.getElem_cons_zero, List.setIfInBounds_toArray, List.set_cons_zero, List.set_cons_succ]
  refine wpAnyH_done (by kernel_rfl) ?_ _
  go_wp2_with fail
  go_ret
  exact ⟨_, rfl, HF.out.1, HF.out.2.off _, .inr ⟨_, rfl, Nat.le_refl _⟩⟩
/-- **Insert of one record.** -/
theorem insert_any {W : World} {base : Nat} {v : Value} {L : List Rq} (hrow : RowE encQ 5 W base 55 v L) (hbase : base ≤ W.heap.size) (hlen : L.length ≤ 100000) {i : Nat} (hi : i ≤ L.length) (r : Rq) {vb : Nat} (hv : Whole W vb 55 (encQ r).toArray) (hne : v.ownBlock ≠ some vb) :
    Calls Tryz.prog 75 #[v, .int .i64 (i : Nat), .slice (some ⟨vb, 0, none⟩) 1 1] W (InsP W base v (L.take i ++ r :: L.drop i)) := by
  rcases Nat.lt_or_eq_of_le hi with h | h
  · rcases hrow.cur with ⟨_, rfl⟩ | ⟨g, cap, S, rfl, hg1, hg2, hc1, hc2, hl, hS⟩
    · exact absurd h (Nat.not_lt_zero _)
    · by_cases hr : L.length + 1 ≤ cap
      · exact ins_room hg1 hg2 hr hc2 hS h hlen r hv (fun e => hne (by rw [e]; rfl))
      · exact ins_grow hg2 (by omega) hc1 h hlen hbase r hv
  · subst h
    rw [List.take_length, List.drop_length]
    exact ins_end hrow hbase hlen r hv
end Go.Proofs.YthfhpejpjiaikaaGreat
