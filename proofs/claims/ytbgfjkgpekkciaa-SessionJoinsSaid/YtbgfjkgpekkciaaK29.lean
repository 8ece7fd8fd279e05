/- session.Join, Same. -/
import Derived.Test.YtbgfjkgpekkciaaK06
import Derived.Test.YtbgfjkgpekkciaaK28
namespace Go.Proofs.Ytbgfjkgpekkciaa
open Go.RowKit
set_option linter.unusedVariables false
set_option linter.unusedSimpArgs false
/-- Joined so far: the first i rows. -/
def joinK (L M : STab) (i : Nat) : STab := joinT (L.take i) (M.take i) ++ L.drop i
theorem joinK_zero (L M : STab) : joinK L M 0 = L := by simp [joinK, joinT]
theorem joinK_end {L M : STab} (h : L.length = 8) (h' : M.length = 8) : joinK L M 8 = joinT L M := by
  unfold joinK
  rw [List.take_of_length_le (by omega), List.take_of_length_le (by omega), List.drop_eq_nil_of_le (by omega), List.append_nil]
theorem joinT_take_len {L M : STab} (h : L.length = 8) (h' : M.length = 8) {i : Nat} (hi : i ≤ 8) : (joinT (L.take i) (M.take i)).length = i := by
  unfold joinT
  rw [List.length_zipWith, List.length_take, List.length_take, h, h']
  omega
theorem joinK_len {L M : STab} (h : L.length = 8) (h' : M.length = 8) {i : Nat} (hi : i ≤ 8) : (joinK L M i).length = 8 := by
  unfold joinK
  rw [List.length_append, joinT_take_len h h' hi, List.length_drop]
  omega
theorem joinK_at {L M : STab} (h : L.length = 8) (h' : M.length = 8) {i : Nat} (hi : i < 8) : (joinK L M i)[i]? = L[i]? := by
  unfold joinK
  have hl := joinT_take_len h h' (Nat.le_of_lt hi)
  rw [List.getElem?_append_right (by omega), hl, Nat.sub_self, List.getElem?_drop, Nat.add_zero]
theorem joinK_next {L M : STab} (h : L.length = 8) (h' : M.length = 8) {i : Nat} (hi : i < 8) {a b : SR} (ha : L[i]? = some a) (hb : M[i]? = some b) : joinK L M (i + 1) = (joinK L M i).set i (later a b) := by
  have hl := joinT_take_len h h' (Nat.le_of_lt hi)
  obtain ⟨ha1, ha2⟩ := List.getElem?_eq_some_iff.1 ha
  obtain ⟨hb1, hb2⟩ := List.getElem?_eq_some_iff.1 hb
  unfold joinK
  rw [List.set_append_right _ _ (by omega), hl, Nat.sub_self, List.drop_eq_getElem_cons ha1, List.set_cons_zero]
  rw [List.take_add_one, List.take_add_one, ha, hb]
  unfold joinT at hl ⊢
  rw [List.zipWith_append (by simp; omega)]
  simp
theorem set_same {α : Type} {l : List α} {i : Nat} {a : α} (h : l[i]? = some a) : l.set i a = l := by
  obtain ⟨h1, rfl⟩ := List.getElem?_eq_some_iff.1 h
  exact List.set_getElem_self h1
theorem row_part {L : STab} {i : Nat} {r : SR} (hi : L[i]? = some r) : ((L.flatMap encSP).drop (i * 5)).take 5 = encSP r := by
  obtain ⟨hl, rfl⟩ := List.getElem?_eq_some_iff.1 hi
  rw [← flat_drop encSP_len, List.drop_eq_getElem_cons hl, List.flatMap_cons, List.take_append_of_le_length (by rw [encSP_len]; exact Nat.le_refl _), List.take_of_length_le (by rw [encSP_len]; exact Nat.le_refl _)]
theorem rows_info : (Try.prog.info? 68).map (·.size) = some 40 := by kernel_rfl
theorem row_info : (Try.prog.info? 67).map (·.size) = some 5 := by kernel_rfl
section
variable {w : World} {g u : Nat} {L M : STab}
theorem load_rows (h : PTab w g L) : ∀ W, Since w W → (Instr.loadAt 68 (.pointer (some ⟨g, 1, none⟩))).run Try.prog W = .ok (.agg (rcells L)) W := fun W hW =>
  loadAt_cells 68 g 1 40 _ _ _ _ _ (hW.whole h.2) (show _ = L.flatMap encSP from List.take_of_length_le (by rw [List.drop_succ_cons, List.drop_zero, flatSP_len, h.1]; decide)) (by rw [flatSP_len, h.1]) Try.underlying68 rfl rows_info
theorem index_rows {i : Nat} {r : SR} (hi8 : i < 8) (hi : L[i]? = some r) (W : World) : (Instr.index 68 (.agg (rcells L)) (.int .i64 (i : Int))).run Try.prog W = .ok (.agg #[.int .i64 r.er, .bool r.fd, .string r.val, .int .i64 r.ver, .int .i64 r.seq]) W :=
  index_part 68 67 8 i 5 _ (encSP r) _ Try.underlying68 hi8 (row_part hi) rfl Try.underlying67 rfl row_info
set_option maxRecDepth 100000 in
theorem tjoin_any (h : PTab w g L) (h' : PTab w u M) : Calls Try.prog 25 #[.pointer (some ⟨g, 0, none⟩), .pointer (some ⟨u, 0, none⟩)] w fun e w' => e = .returned (.pointer (some ⟨w.heap.size, 0, none⟩)) ∧ PTab w' w.heap.size (joinT L M) ∧ Since w w' := by
  have HLd := Lib.hid (load_rows h')
  obtain ⟨J, hJ⟩ : ∃ J, J = w.heap.size := ⟨_, rfl⟩
  have hJg : w.heap.size ≤ J := by omega
  rw [← hJ]
  go_enter Try.func25, Try.ntmps25
  go_wp2_with (first
    | (go_at_call 37; (with_reducible refine (none_any h).mono ?_); rintro e w' ⟨rfl, rfl⟩)
    | (go_at_call 37; (with_reducible refine (none_any h').mono ?_); rintro e w' ⟨rfl, rfl⟩)
    | (go_at_call 38; (with_reducible refine (tclone_any h).mono ?_); rintro e w1 ⟨rfl, hP1, hs1⟩)
    | refine wpList_load_is rfl _ _ rfl rfl (HLd.out _ (by assumption)) ?_)
  rw [← hJ] at hP1 ⊢
  go_loopw [20] (fun i wr => ∃ k : Nat, i = .int .i64 (k : Int) ∧ k ≤ 8 ∧ PTab wr J (joinK L M k) ∧ Since w wr) (fun i _ => 8 - (intOf i).toNat)
  case atStart => exact ⟨0, rfl, Nat.zero_le _, by rw [joinK_zero]; exact hP1, hs1⟩
  case round =>
    obtain ⟨k, rfl, hk, hP, hS⟩ := hrel
    clear hP1 hs1
    by_cases hlt : k < 8
    · obtain ⟨a, ha⟩ : ∃ a, L[k]? = some a := ⟨_, List.getElem?_eq_getElem (by rw [h.1]; exact hlt)⟩
      obtain ⟨b, hb⟩ : ∃ b, M[k]? = some b := ⟨_, List.getElem?_eq_getElem (by rw [h'.1]; exact hlt)⟩
      have HX := Lib.hid (joinK_next h.1 h'.1 hlt ha hb)
      have HI := Lib.hid (fun W => index_rows (L := M) hlt hb W)
      have hat := (joinK_at h.1 h'.1 hlt).trans ha
      have hjl : k < (joinK L M k).length := by rw [joinK_len h.1 h'.1 (by omega)]; exact hlt
      have hklt : (k : Int) < 8 := by omega
      obtain ⟨er, fd, val, ver, seq⟩ := b
      obtain ⟨er', fd', val', ver', seq'⟩ := a
      clear HLd h h' ha hb hJ
      generalize joinK L M k = N at hP HX hat hjl
      go_wp2_with (refine wpList_index_is rfl _ _ _ rfl rfl rfl (HI.out _) ?_)
      obtain ⟨w2, hw2⟩ : ∃ w2, w2 = wr.alloc (.cells #[.int .i64 er, .bool fd, .string val, .int .i64 ver, .int .i64 seq] 67) := ⟨_, rfl⟩
      have hs2 : Since wr w2 := by rw [hw2]; exact (Since.refl wr).alloc _
      have wh2 : Whole w2 wr.heap.size 67 #[.int .i64 er, .bool fd, .string val, .int .i64 ver, .int .i64 seq] := by rw [hw2]; exact Whole.new wr _ _
      rw [← hw2]
      have hP2 := hP.since hs2
      have hJlt := hP.lt
      have hS2 := hS.trans hs2
      clear hw2 hP HI hS
      have x4 := (wh2.drew).cell 4
      have z4 := hP2.c4 hat w2 (Since.refl w2)
      have b4 := wh2.cell 4
      go_quiet (fail)
      obtain ⟨w3, hw3⟩ : ∃ w3, w3 = w2.drewN nq := ⟨_, rfl⟩
      have hs3 : Since w2 w3 := by rw [hw3]; exact (Since.refl w2).drewN _
      rw [← hw3]
      clear hw3 x4 b4 z4
      by_cases hlt2 : seq' < seq
      · have hX : later ⟨er', fd', val', ver', seq'⟩ ⟨er, fd, val, ver, seq⟩ = ⟨er, fd, val, ver, seq⟩ := if_pos hlt2
        rw [hX] at HX
        clear hX
        go_wp2_with fail
        obtain ⟨wq, hwq⟩ : ∃ wq, wq = w3.drew := ⟨_, rfl⟩
        have hsq : Since w2 wq := by rw [hwq]; exact hs3.drew
        refine wp_region_held_drew (S := fun W => Off (fun b => b = J) w2 W) (by kernel_rfl) (hs3.drew.off _) (fun hHeld => ?_)
        rw [← hwq] at hHeld ⊢
        clear hwq
        have hgn : ¬ wr.heap.size = J := by omega
        have d0 := off_cell (F := fun b => b = J) wh2 hgn 0 _ rfl
        have d1 := off_cell (F := fun b => b = J) wh2 hgn 1 _ rfl
        have d2 := off_cell (F := fun b => b = J) wh2 hgn 2 _ rfl
        have d3 := off_cell (F := fun b => b = J) wh2 hgn 3 _ rfl
        have d4 := off_cell (F := fun b => b = J) wh2 hgn 4 _ rfl
        have hP4 := hP2.since hsq
        have e0 := hP4.c0 hat wq (Since.refl _)
        have e1 := hP4.c1 hat wq (Since.refl _)
        have e2 := hP4.c2 hat wq (Since.refl _)
        have e3 := hP4.c3 hat wq (Since.refl _)
        have e4 := hP4.c4 hat wq (Since.refl _)
        have f0 := hP4.frozen (1 + k * 5) wq (Since.refl _)
        have f1 := hP4.frozen (1 + k * 5 + 1) wq (Since.refl _)
        have f2 := hP4.frozen (1 + k * 5 + 2) wq (Since.refl _)
        have f3 := hP4.frozen (1 + k * 5 + 3) wq (Since.refl _)
        have f4 := hP4.frozen (1 + k * 5 + 4) wq (Since.refl _)
        refine wpAnyH_take (i := 0) (v := ?_) rfl (by kernel_rfl) (by kernel_rfl) (by kernel_rfl) (fun _ _ _ h => h) (Or.inl ⟨by rfl, ?_⟩) (by assumption) ?_
        rotate_left 1
        · (intro W hW; clear hW; go_simp; try with_reducible rfl)
        simp only [Act.put, List.getElem_toArray, List.getElem_cons_zero, List.setIfInBounds_toArray, List.set_cons_zero, List.set_cons_succ]
        refine wpAnyH_take (i := 1) (v := ?_) rfl (by kernel_rfl) (by kernel_rfl) (by kernel_rfl) (fun _ _ _ h => h) (Or.inl ⟨by rfl, ?_⟩) (by assumption) ?_
        rotate_left 1
        · (intro W hW; clear hW; go_simp; try with_reducible rfl)
        simp only [Act.put, List.getElem_toArray, List.getElem_cons_succ, List.getElem_cons_zero, List.setIfInBounds_toArray, List.set_cons_zero, List.set_cons_succ]
        refine wpAnyH_take (i := 2) (v := ?_) rfl (by kernel_rfl) (by kernel_rfl) (by kernel_rfl) (fun _ _ _ h => h) (Or.inl ⟨by rfl, ?_⟩) (by assumption) ?_
        rotate_left 1
        · (intro W hW; skip; go_simp; try with_reducible rfl)
        simp only [Act.put, List.getElem_toArray, List.getElem_cons_succ, List.getElem_cons_zero, List.setIfInBounds_toArray, List.set_cons_zero, List.set_cons_succ]
        refine wpAnyH_take (i := 3) (v := ?_) rfl (by kernel_rfl) (by kernel_rfl) (by kernel_rfl) (fun _ _ _ h => h) (Or.inl ⟨by rfl, ?_⟩) (by assumption) ?_
        rotate_left 1
        · (intro W hW; clear hW; go_simp; try with_reducible rfl)
        simp only [Act.put, List.getElem_toArray, List.getElem_cons_succ, List.getElem_cons_zero, List.setIfInBounds_toArray, List.set_cons_zero, List.set_cons_succ]
        refine wpAnyH_take (i := 4) (v := ?_) rfl (by kernel_rfl) (by kernel_rfl) (by kernel_rfl) (fun _ _ _ h => h) (Or.inl ⟨by rfl, ?_⟩) (by assumption) ?_
        rotate_left 1
        · (intro W hW; clear hW; go_simp; try with_reducible rfl)
        simp only [Act.put, List.getElem_toArray, List.getElem_cons_succ, List.getElem_cons_zero, List.setIfInBounds_toArray, List.set_cons_zero, List.set_cons_succ]
        refine wpAnyH_take (i := 5) (v := ?_) rfl (by kernel_rfl) (by kernel_rfl) (by kernel_rfl) (fun _ _ _ h => h) (Or.inl ⟨by rfl, ?_⟩) (by assumption) ?_
        rotate_left 1
        · (intro W hW; clear hW; go_simp; try with_reducible rfl)
        simp only [Act.put, List.getElem_toArray, List.getElem_cons_succ, List.getElem_cons_zero, List.setIfInBounds_toArray, List.set_cons_zero, List.set_cons_succ]
        refine wpAnyH_ready (rs := [6]) (by kernel_rfl) (by simp) ?_
        refine AllReadyH.cons rfl (fun K hK => ?_) AllReadyH.nil
        go_simp
        skip
        refine hK.out _ _ (((((hHeld.setCell (p := ⟨J, 1 + k * 5, none⟩) (.inr rfl) _).setCell (p := ⟨J, 1 + k * 5 + 1, none⟩) (.inr rfl) _).setCell (p := ⟨J, 1 + k * 5 + 2, none⟩) (.inr rfl) _).setCell (p := ⟨J, 1 + k * 5 + 3, none⟩) (.inr rfl) _).setCell (p := ⟨J, 1 + k * 5 + 4, none⟩) (.inr rfl) _) (fun hHeld => ?_)
        clear hK K
        try simp only [Act.put, List.getElem_toArray, List.getElem_cons_succ, List.getElem_cons_zero, List.setIfInBounds_toArray, List.set_cons_zero, List.set_cons_succ]
        refine wpAnyH_done (by kernel_rfl) ?_ _
        have hh := ((((hP4.2.set_ (1 + k * 5) (.int .i64 er)).set_ (1 + k * 5 + 1) (.bool fd)).set_ (1 + k * 5 + 2) (.string val)).set_ (1 + k * 5 + 3) (.int .i64 ver)).set_ (1 + k * 5 + 4) (.int .i64 seq)
        rw [pcells_set hjl ⟨er, fd, val, ver, seq⟩] at hh
        have hS5 := ((((((hS2.trans hsq).setCell (p := ⟨J, 1 + k * 5, none⟩) hJg (.int .i64 er)).setCell (p := ⟨J, 1 + k * 5 + 1, none⟩) hJg (.bool fd)).setCell (p := ⟨J, 1 + k * 5 + 2, none⟩) hJg (.string val)).setCell (p := ⟨J, 1 + k * 5 + 3, none⟩) hJg (.int .i64 ver)).setCell (p := ⟨J, 1 + k * 5 + 4, none⟩) hJg (.int .i64 seq))
        clear e0 e1 e2 e3 e4 f0 f1 f2 f3 f4 d0 d1 d2 d3 d4
        obtain ⟨w5, hw5⟩ : ∃ w5, w5 = ((((wq.setCell ⟨J, 1 + k * 5, none⟩ (.int .i64 er)).setCell ⟨J, 1 + k * 5 + 1, none⟩ (.bool fd)).setCell ⟨J, 1 + k * 5 + 2, none⟩ (.string val)).setCell ⟨J, 1 + k * 5 + 3, none⟩ (.int .i64 ver)).setCell ⟨J, 1 + k * 5 + 4, none⟩ (.int .i64 seq) := ⟨_, rfl⟩
        rw [← hw5] at hh hS5 ⊢
        clear hw5
        go_wp2
        go_roundw
        case rel => exact ⟨k + 1, by go_num, by omega, ⟨by rw [HX.out]; exact len_set hP2.1 _ _, by rw [HX.out]; exact hh⟩, hS5⟩
        case measure => simp [intOf]; omega
      · have hX : later ⟨er', fd', val', ver', seq'⟩ ⟨er, fd, val, ver, seq⟩ = ⟨er', fd', val', ver', seq'⟩ := if_neg hlt2
        rw [hX, set_same hat] at HX
        clear hX
        have hP3 := hP2.since hs3
        have hS3 := hS2.trans hs3
        go_wp2
        go_roundw
        case rel => exact ⟨k + 1, by go_num, by omega, by rw [HX.out]; exact hP3, hS3⟩
        case measure => simp [intOf]; omega
    · obtain rfl : k = 8 := by omega
      rw [joinK_end h.1 h'.1] at hP
      go_wp2
      go_ret
      exact ⟨rfl, hP, hS⟩
end
end Go.Proofs.Ytbgfjkgpekkciaa
