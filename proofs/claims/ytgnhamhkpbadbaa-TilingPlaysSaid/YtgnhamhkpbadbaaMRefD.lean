/- Merge of a list by places is that of tiles in order. Pure. The document's tilings: Split. The document's tilings: New. -/
import Derived.Test.YtgnhamhkpbadbaaMRefA
import Derived.Test.YtgnhamhkpbadbaaMRefC
import Derived.Test.YtgnhamhkpbadbaaMRefB
import Derived.Test.YtgnhamhkpbadbaaGNew
namespace Go.Proofs.Ytgnhamhkpbadbaa
set_option linter.unusedSimpArgs false
theorem cut_filter {L : List Tl} (hp : L.Pairwise Tl.ltB) {j : Nat} {t : Tl} (h : L[j]? = some t) : L.take j ++ L.drop (j + 1) = L.filter fun s => !(s.d == t.d && s.b == t.b) := by
  obtain ⟨e, f1, f2⟩ := uniq_split hp h
  conv => rhs; rw [e]
  rw [List.filter_append, List.filter_cons_of_neg (by simp), filter_self f1, filter_self f2]
theorem mrg_side {d b : Int} : ∀ l : List Tl, (∀ s ∈ l, ¬ (s.d = d + 1 ∧ s.b = 2 * b)) → (l.flatMap fun s => if s.d = d + 1 ∧ s.b = 2 * b then [(⟨d, b, s.who⟩ : Tl)] else if s.d = d + 1 ∧ s.b = 2 * b + 1 then [] else [s]) = l.filter fun s => !(s.d == d + 1 && s.b == 2 * b + 1)
  | [], _ => rfl
  | x :: l, h => by
    rw [List.flatMap_cons, mrg_side l (fun s hs => h s (List.mem_cons_of_mem _ hs)), if_neg (h x List.mem_cons_self)]
    by_cases hv : x.d = d + 1 ∧ x.b = 2 * b + 1
    · rw [if_pos hv, List.filter_cons_of_neg (by simp [hv.1, hv.2])]; rfl
    · rw [if_neg hv, List.filter_cons_of_pos (by
        cases e : (x.d == d + 1 && x.b == 2 * b + 1) with
        | false => rfl
        | true => exact absurd (by simpa using e) hv)]; rfl
/-- Merge of a list, both halves there: by places. -/
theorem merge_ins {L : List Tl} (hp : L.Pairwise Tl.ltB) {d b : Int} {i j : Nat} {u v : Tl} (hi : L[i]? = some u) (hu : u.d = d + 1 ∧ u.b = 2 * b) (hj : (L.take i ++ L.drop (i + 1))[j]? = some v) (hv : v.d = d + 1 ∧ v.b = 2 * b + 1)
    (h2 : (mrgT L d b).Pairwise Tl.ltB) (hf : ∀ s ∈ mrgT L d b, fine s.d s.b = true) : insT ((L.take i ++ L.drop (i + 1)).take j ++ (L.take i ++ L.drop (i + 1)).drop (j + 1)) ⟨d, b, u.who⟩ = mrgT L d b := by
  obtain ⟨e, f1, f2⟩ := uniq_split hp hi
  have hp1 : (L.take i ++ L.drop (i + 1)).Pairwise Tl.ltB := hp.sublist (by
    conv => rhs; rw [e]
    exact (List.Sublist.refl _).append (List.sublist_cons_self _ _))
  have em : mrgT L d b = (L.take i).filter (fun s => !(s.d == d + 1 && s.b == 2 * b + 1)) ++ [⟨d, b, u.who⟩] ++ (L.drop (i + 1)).filter (fun s => !(s.d == d + 1 && s.b == 2 * b + 1)) := by
    conv => lhs; rw [e]
    unfold mrgT
    rw [List.flatMap_append, List.flatMap_cons, mrg_side _ (by rw [← hu.1, ← hu.2]; exact f1), mrg_side _ (by rw [← hu.1, ← hu.2]; exact f2), if_pos hu]
    simp
  rw [cut_filter hp1 hj, hv.1, hv.2, List.filter_append]
  rw [em] at h2 hf ⊢
  exact ins_pair h2 hf
end Go.Proofs.Ytgnhamhkpbadbaa
namespace Go.Proofs.Ytgnhamhkpbadbaa
open Go.RowKit
set_option linter.unusedVariables false
set_option linter.unusedSimpArgs false
theorem insT_len (L : List Tl) (t : Tl) : (insT L t).length = L.length + 1 := by
  rw [← take_bef L t, List.length_append, List.length_append, List.length_take, List.length_drop]
  have := nBef_le L t
  simp; omega
set_option maxRecDepth 100000 in
set_option maxHeartbeats 3200000 in
theorem refSplit_any {gr : Nat} {k : Int} {L : List Tl} {v : Value} {w : World} (h : RefO gr k L v w) (d b who : Int) (hm : L.length ≤ 900) (hk : 0 ≤ k ∧ k ≤ 16) (hf : ∀ s ∈ L, fine s.d s.b = true ∧ s.d ≤ 2 * k) : Calls Try.prog 53 #[.pointer (some ⟨gr, 0, none⟩), .agg #[.int .i64 d, .int .i64 b], .int .i64 who] w (RefC gr k (splitG k L d b who) w) := by
  have hat := fun W (hW : Since w W) => refAtL_any (h.since hW) d b (by omega)
  obtain ⟨va, vc, rfl⟩ := h.size
  have hbx := h.box
  have c0 := box_cell hbx 0 (.int .i64 k) rfl
  have c1 := box_cell hbx 1 (.slice va L.length vc) rfl
  obtain ⟨wl, hwl⟩ : ∃ wl, wl = w.alloc (.cells #[.int .i64 d, .int .i64 b] 27) := ⟨_, rfl⟩
  have hs0 : Since w wl := by rw [hwl]; exact (Since.refl w).alloc _
  have wh0 : Whole wl w.heap.size 27 #[.int .i64 d, .int .i64 b] := by rw [hwl]; exact Whole.new w _ _
  have p0 := box_cell wh0 0 (.int .i64 d) rfl
  have p1 := box_cell wh0 1 (.int .i64 b) rfl
  have x0 := wh0.cell 0
  have y0 := wh0.frozen 0
  have x1 := wh0.cell 1
  have y1 := wh0.frozen 1
  replace c0 := fun W (hW : Since wl W) => c0 W (hs0.trans hW)
  replace c1 := fun W (hW : Since wl W) => c1 W (hs0.trans hW)
  have hk2 : wrap64 (2 * k) = 2 * k := IntWalk.wrap64_in _ ⟨by omega, by omega⟩
  have hk3 : IntKind.i64.wrap (2 * k) = 2 * k := IntWalk.i64_in _ ⟨by omega, by omega⟩
  have HAT := Lib.hid hat
  have H := Lib.hid h
  have HS0 := Lib.hid hs0
  clear hat h hbx
  rcases atG_cases d b L 0 with ⟨e1, e2⟩ | ⟨i, e1, e2, e3, t, e4, rfl, rfl⟩
  · have hr : splitG k L d b who = (3, L) := by unfold splitG; rw [if_pos (by rw [e1]; decide)]
    rw [hr]
    rw [e1] at HAT
    clear hr e1 e2 c0 c1
    go_enter Try.func53, Try.ntmps53
    go_wp2_with fail
    rw [← hwl]
    go_wp2_with (go_at_call 65; (with_reducible refine (HAT.out _ (by assumption)).mono ?_); rintro e w2 ⟨rfl, hb2⟩)
    go_ret
    exact ⟨rfl, ⟨_, H.out.since (HS0.out.trans hb2)⟩, (HS0.out.trans hb2).off _⟩
  · have hfi := hf t (List.mem_of_getElem? e4)
    obtain ⟨td, tb, tw⟩ := t
    dsimp only at *
    rw [e2, Nat.zero_add] at HAT
    have di : decide ((i : Int) < 0) = false := decide_eq_false (by omega)
    have hsp : splitG k L td tb who = if td = 2 * k then (30, L) else if 64 ≤ L.length then (7, L) else (0, insT (insT (L.take i ++ L.drop (i + 1)) ⟨td + 1, 2 * tb, tw⟩) ⟨td + 1, 2 * tb + 1, who⟩) := by
      unfold splitG
      rw [if_neg (by rw [e2]; omega), e2, Nat.zero_add, Int.toNat_natCast, e4]
      rfl
    rw [hsp]
    by_cases hd : td = 2 * k
    · rw [if_pos hd]
      have hde : (td == 2 * k) = true := by simpa using hd
      clear hsp e1 e2 e3 e4 hf hfi hd
      go_enter Try.func53, Try.ntmps53
      go_wp2_with fail
      rw [← hwl]
      go_wp2_with (go_at_call 65; (with_reducible refine (HAT.out _ (by assumption)).mono ?_); rintro e w2 ⟨rfl, hb2⟩)
      have cr0 := fun W (hW : Since w2 W) => c0 W (Since.trans hb2 hW)
      have pr0 := fun W (hW : Since w2 W) => p0 W (Since.trans hb2 hW)
      clear hwl
      have had : Since w2 w2.drew := (Since.refl w2).drew
      obtain ⟨wp, hwp⟩ : ∃ wp, wp = w2.drew := ⟨_, rfl⟩
      refine wp_region_held_drew (S := fun W => Since w2 W) (by kernel_rfl) had (fun hHeld => ?_)
      rw [← hwp] at hHeld ⊢
      have hq : Since w2 wp := hHeld
      clear hwp had
      refine wpAnyH_take (i := 0) (v := ?_) rfl (by kernel_rfl) (by kernel_rfl) (by kernel_rfl) (fun _ _ _ h => h) (Or.inl ⟨by rfl, ?_⟩) (by assumption) ?_
      rotate_left 1
      · (intro W hW; clear hW; go_simp; try with_reducible rfl)
      simp only [Act.put, List.getElem_toArray, List.getElem_cons_zero, List.setIfInBounds_toArray, List.set_cons_zero, List.set_cons_succ]
      refine wpAnyH_take (i := 1) (v := ?_) rfl (by kernel_rfl) (by kernel_rfl) (by kernel_rfl) (fun _ _ _ h => h) (Or.inl ⟨by rfl, ?_⟩) (by assumption) ?_
      rotate_left 1
      · (intro W hW; skip; go_simp; try with_reducible rfl)
      simp only [Act.put, List.getElem_toArray, List.getElem_cons_succ, List.getElem_cons_zero, List.setIfInBounds_toArray, List.set_cons_zero, List.set_cons_succ]
      refine wpAnyH_take (i := 2) (v := ?_) rfl (by kernel_rfl) (by kernel_rfl) (by kernel_rfl) (fun _ _ _ h => h) (Or.inl ⟨by rfl, ?_⟩) (by assumption) ?_
      rotate_left 1
      · (intro W hW; clear hW; go_simp; try with_reducible rfl)
      simp only [Act.put, List.getElem_toArray, List.getElem_cons_succ, List.getElem_cons_zero, List.setIfInBounds_toArray, List.set_cons_zero, List.set_cons_succ]
      refine wpAnyH_take (i := 3) (v := ?_) rfl (by kernel_rfl) (by kernel_rfl) (by kernel_rfl) (fun _ _ _ h => h) (Or.inl ⟨by rfl, ?_⟩) (by assumption) ?_
      rotate_left 1
      · (intro W hW; clear hW; go_simp; try with_reducible rfl)
      simp only [Act.put, List.getElem_toArray, List.getElem_cons_succ, List.getElem_cons_zero, List.setIfInBounds_toArray, List.set_cons_zero, List.set_cons_succ]
      refine wpAnyH_take (i := 4) (v := ?_) rfl (by kernel_rfl) (by kernel_rfl) (by kernel_rfl) (fun _ _ _ h => h) (Or.inl ⟨by rfl, ?_⟩) (by assumption) ?_
      rotate_left 1
      · (intro W hW; clear hW; go_simp; try with_reducible rfl)
      simp only [Act.put, List.getElem_toArray, List.getElem_cons_succ, List.getElem_cons_zero, List.setIfInBounds_toArray, List.set_cons_zero, List.set_cons_succ]
      refine wpAnyH_take (i := 5) (v := ?_) rfl (by kernel_rfl) (by kernel_rfl) (by kernel_rfl) (fun _ _ _ h => h) (Or.inl ⟨by rfl, ?_⟩) (by assumption) ?_
      rotate_left 1
      · (intro W hW; skip; go_simp; try with_reducible rfl)
      simp only [Act.put, List.getElem_toArray, List.getElem_cons_succ, List.getElem_cons_zero, List.setIfInBounds_toArray, List.set_cons_zero, List.set_cons_succ]
      refine wpAnyH_take (i := 6) (v := ?_) rfl (by kernel_rfl) (by kernel_rfl) (by kernel_rfl) (fun _ _ _ h => h) (Or.inl ⟨by rfl, ?_⟩) (by assumption) ?_
      rotate_left 1
      · (intro W hW; clear hW; go_simp; try with_reducible rfl)
      simp only [Act.put, List.getElem_toArray, List.getElem_cons_succ, List.getElem_cons_zero, List.setIfInBounds_toArray, List.set_cons_zero, List.set_cons_succ]
      refine wpAnyH_take (i := 7) (v := ?_) rfl (by kernel_rfl) (by kernel_rfl) (by kernel_rfl) (fun _ _ _ h => h) (Or.inl ⟨by rfl, ?_⟩) (by assumption) ?_
      rotate_left 1
      · (intro W hW; clear hW; go_simp; try with_reducible rfl)
      simp only [Act.put, List.getElem_toArray, List.getElem_cons_succ, List.getElem_cons_zero, List.setIfInBounds_toArray, List.set_cons_zero, List.set_cons_succ]
      refine wpAnyH_take (i := 8) (v := ?_) rfl (by kernel_rfl) (by kernel_rfl) (by kernel_rfl) (fun _ _ _ h => h) (Or.inl ⟨by rfl, ?_⟩) (by assumption) ?_
      rotate_left 1
      · (intro W hW; clear hW; go_simp; try with_reducible rfl)
      simp only [Act.put, List.getElem_toArray, List.getElem_cons_succ, List.getElem_cons_zero, List.setIfInBounds_toArray, List.set_cons_zero, List.set_cons_succ]
      refine wpAnyH_done (by kernel_rfl) ?_ _
      go_wp2_with fail
      go_ret
      exact ⟨rfl, ⟨_, H.out.since (HS0.out.trans (Since.trans hb2 hq))⟩, (HS0.out.trans (Since.trans hb2 hq)).off _⟩
    · rw [if_neg hd]
      have hde : (td == 2 * k) = false := by simpa using hd
      by_cases h64 : 64 ≤ L.length
      · rw [if_pos h64]
        have d64 : decide ((64 : Int) ≤ L.length) = true := decide_eq_true (by omega)
        clear hsp e1 e2 e3 e4 hf hfi hd
        go_enter Try.func53, Try.ntmps53
        go_wp2_with fail
        rw [← hwl]
        go_wp2_with (go_at_call 65; (with_reducible refine (HAT.out _ (by assumption)).mono ?_); rintro e w2 ⟨rfl, hb2⟩)
        have cr0 := fun W (hW : Since w2 W) => c0 W (Since.trans hb2 hW)
        have pr0 := fun W (hW : Since w2 W) => p0 W (Since.trans hb2 hW)
        clear hwl
        have had : Since w2 w2.drew := (Since.refl w2).drew
        obtain ⟨wp, hwp⟩ : ∃ wp, wp = w2.drew := ⟨_, rfl⟩
        refine wp_region_held_drew (S := fun W => Since w2 W) (by kernel_rfl) had (fun hHeld => ?_)
        rw [← hwp] at hHeld ⊢
        have hq : Since w2 wp := hHeld
        clear hwp had
        refine wpAnyH_take (i := 0) (v := ?_) rfl (by kernel_rfl) (by kernel_rfl) (by kernel_rfl) (fun _ _ _ h => h) (Or.inl ⟨by rfl, ?_⟩) (by assumption) ?_
        rotate_left 1
        · (intro W hW; clear hW; go_simp; try with_reducible rfl)
        simp only [Act.put, List.getElem_toArray, List.getElem_cons_zero, List.setIfInBounds_toArray, List.set_cons_zero, List.set_cons_succ]
        refine wpAnyH_take (i := 1) (v := ?_) rfl (by kernel_rfl) (by kernel_rfl) (by kernel_rfl) (fun _ _ _ h => h) (Or.inl ⟨by rfl, ?_⟩) (by assumption) ?_
        rotate_left 1
        · (intro W hW; skip; go_simp; try with_reducible rfl)
        simp only [Act.put, List.getElem_toArray, List.getElem_cons_succ, List.getElem_cons_zero, List.setIfInBounds_toArray, List.set_cons_zero, List.set_cons_succ]
        refine wpAnyH_take (i := 2) (v := ?_) rfl (by kernel_rfl) (by kernel_rfl) (by kernel_rfl) (fun _ _ _ h => h) (Or.inl ⟨by rfl, ?_⟩) (by assumption) ?_
        rotate_left 1
        · (intro W hW; clear hW; go_simp; try with_reducible rfl)
        simp only [Act.put, List.getElem_toArray, List.getElem_cons_succ, List.getElem_cons_zero, List.setIfInBounds_toArray, List.set_cons_zero, List.set_cons_succ]
        refine wpAnyH_take (i := 3) (v := ?_) rfl (by kernel_rfl) (by kernel_rfl) (by kernel_rfl) (fun _ _ _ h => h) (Or.inl ⟨by rfl, ?_⟩) (by assumption) ?_
        rotate_left 1
        · (intro W hW; clear hW; go_simp; try with_reducible rfl)
        simp only [Act.put, List.getElem_toArray, List.getElem_cons_succ, List.getElem_cons_zero, List.setIfInBounds_toArray, List.set_cons_zero, List.set_cons_succ]
        refine wpAnyH_take (i := 4) (v := ?_) rfl (by kernel_rfl) (by kernel_rfl) (by kernel_rfl) (fun _ _ _ h => h) (Or.inl ⟨by rfl, ?_⟩) (by assumption) ?_
        rotate_left 1
        · (intro W hW; clear hW; go_simp; try with_reducible rfl)
        simp only [Act.put, List.getElem_toArray, List.getElem_cons_succ, List.getElem_cons_zero, List.setIfInBounds_toArray, List.set_cons_zero, List.set_cons_succ]
        refine wpAnyH_take (i := 5) (v := ?_) rfl (by kernel_rfl) (by kernel_rfl) (by kernel_rfl) (fun _ _ _ h => h) (Or.inl ⟨by rfl, ?_⟩) (by assumption) ?_
        rotate_left 1
        · (intro W hW; skip; go_simp; try with_reducible rfl)
        simp only [Act.put, List.getElem_toArray, List.getElem_cons_succ, List.getElem_cons_zero, List.setIfInBounds_toArray, List.set_cons_zero, List.set_cons_succ]
        refine wpAnyH_take (i := 6) (v := ?_) rfl (by kernel_rfl) (by kernel_rfl) (by kernel_rfl) (fun _ _ _ h => h) (Or.inl ⟨by rfl, ?_⟩) (by assumption) ?_
        rotate_left 1
        · (intro W hW; clear hW; go_simp; try with_reducible rfl)
        simp only [Act.put, List.getElem_toArray, List.getElem_cons_succ, List.getElem_cons_zero, List.setIfInBounds_toArray, List.set_cons_zero, List.set_cons_succ]
        refine wpAnyH_take (i := 7) (v := ?_) rfl (by kernel_rfl) (by kernel_rfl) (by kernel_rfl) (fun _ _ _ h => h) (Or.inl ⟨by rfl, ?_⟩) (by assumption) ?_
        rotate_left 1
        · (intro W hW; clear hW; go_simp; try with_reducible rfl)
        simp only [Act.put, List.getElem_toArray, List.getElem_cons_succ, List.getElem_cons_zero, List.setIfInBounds_toArray, List.set_cons_zero, List.set_cons_succ]
        refine wpAnyH_take (i := 8) (v := ?_) rfl (by kernel_rfl) (by kernel_rfl) (by kernel_rfl) (fun _ _ _ h => h) (Or.inl ⟨by rfl, ?_⟩) (by assumption) ?_
        rotate_left 1
        · (intro W hW; clear hW; go_simp; try with_reducible rfl)
        simp only [Act.put, List.getElem_toArray, List.getElem_cons_succ, List.getElem_cons_zero, List.setIfInBounds_toArray, List.set_cons_zero, List.set_cons_succ]
        refine wpAnyH_done (by kernel_rfl) ?_ _
        have q1 := c1 _ (Since.trans hb2 hq)
        go_wp2_with fail
        go_ret
        exact ⟨rfl, ⟨_, H.out.since (HS0.out.trans (Since.trans hb2 hq))⟩, (HS0.out.trans (Since.trans hb2 hq)).off _⟩
      · rw [if_neg h64]
        have d64 : decide ((64 : Int) ≤ L.length) = false := decide_eq_false (by omega)
        have hgl : gr < w.heap.size := H.out.box.lt
        have HC0 := Lib.hid (fun W => show Calls Try.prog 102 #[.agg #[.int .i64 td, .int .i64 tb], .int .i64 0] W fun e w' => e = .returned (.tuple #[.agg #[.int .i64 (td + 1), .int .i64 (2 * tb)], .int .i64 0]) ∧ Below W.heap.size W w' by
          have z := refChild_yes td tb 0 W hfi.1 (by have := hfi.2; omega) (.inl rfl)
          rw [Int.add_zero] at z
          exact z)
        have HC1 := Lib.hid (fun W => refChild_yes td tb 1 W hfi.1 (by have := hfi.2; omega) (.inr rfl))
        have HCU := Lib.hid (fun W (hW : Since w W) => refCut_any (H.out.since hW) i e1 (by omega))
        obtain ⟨g, cap, e0, hcap, _⟩ := H.out.form e1
        injection e0 with e5 e6 e7
        subst e5 e7
        have hLi : L[i] = ⟨td, tb, tw⟩ := (List.getElem?_eq_some_iff.1 e4).2
        have HTI := Lib.hid (fun W (hW : Since wl W) => (H.out.tile (HS0.out.trans hW) e1 rfl).2.2.trans (by rw [hLi]))
        clear hsp e2 e3 e4 hf hfi hd hLi e6
        go_enter Try.func53, Try.ntmps53
        go_wp2_with fail
        rw [← hwl]
        go_wp2_with (go_at_call 65; (with_reducible refine (HAT.out _ (by assumption)).mono ?_); rintro e w2 ⟨rfl, hb2⟩)
        have cr0 := fun W (hW : Since w2 W) => c0 W (Since.trans hb2 hW)
        have pr0 := fun W (hW : Since w2 W) => p0 W (Since.trans hb2 hW)
        clear hwl
        have had : Since w2 w2.drew := (Since.refl w2).drew
        obtain ⟨wp, hwp⟩ : ∃ wp, wp = w2.drew := ⟨_, rfl⟩
        refine wp_region_held_drew (S := fun W => Since w2 W) (by kernel_rfl) had (fun hHeld => ?_)
        rw [← hwp] at hHeld ⊢
        have hq : Since w2 wp := hHeld
        clear hwp had
        refine wpAnyH_take (i := 0) (v := ?_) rfl (by kernel_rfl) (by kernel_rfl) (by kernel_rfl) (fun _ _ _ h => h) (Or.inl ⟨by rfl, ?_⟩) (by assumption) ?_
        rotate_left 1
        · (intro W hW; clear hW; go_simp; try with_reducible rfl)
        simp only [Act.put, List.getElem_toArray, List.getElem_cons_zero, List.setIfInBounds_toArray, List.set_cons_zero, List.set_cons_succ]
        refine wpAnyH_take (i := 1) (v := ?_) rfl (by kernel_rfl) (by kernel_rfl) (by kernel_rfl) (fun _ _ _ h => h) (Or.inl ⟨by rfl, ?_⟩) (by assumption) ?_
        rotate_left 1
        · (intro W hW; skip; go_simp; try with_reducible rfl)
        simp only [Act.put, List.getElem_toArray, List.getElem_cons_succ, List.getElem_cons_zero, List.setIfInBounds_toArray, List.set_cons_zero, List.set_cons_succ]
        refine wpAnyH_take (i := 2) (v := ?_) rfl (by kernel_rfl) (by kernel_rfl) (by kernel_rfl) (fun _ _ _ h => h) (Or.inl ⟨by rfl, ?_⟩) (by assumption) ?_
        rotate_left 1
        · (intro W hW; clear hW; go_simp; try with_reducible rfl)
        simp only [Act.put, List.getElem_toArray, List.getElem_cons_succ, List.getElem_cons_zero, List.setIfInBounds_toArray, List.set_cons_zero, List.set_cons_succ]
        refine wpAnyH_take (i := 3) (v := ?_) rfl (by kernel_rfl) (by kernel_rfl) (by kernel_rfl) (fun _ _ _ h => h) (Or.inl ⟨by rfl, ?_⟩) (by assumption) ?_
        rotate_left 1
        · (intro W hW; clear hW; go_simp; try with_reducible rfl)
        simp only [Act.put, List.getElem_toArray, List.getElem_cons_succ, List.getElem_cons_zero, List.setIfInBounds_toArray, List.set_cons_zero, List.set_cons_succ]
        refine wpAnyH_take (i := 4) (v := ?_) rfl (by kernel_rfl) (by kernel_rfl) (by kernel_rfl) (fun _ _ _ h => h) (Or.inl ⟨by rfl, ?_⟩) (by assumption) ?_
        rotate_left 1
        · (intro W hW; clear hW; go_simp; try with_reducible rfl)
        simp only [Act.put, List.getElem_toArray, List.getElem_cons_succ, List.getElem_cons_zero, List.setIfInBounds_toArray, List.set_cons_zero, List.set_cons_succ]
        refine wpAnyH_take (i := 5) (v := ?_) rfl (by kernel_rfl) (by kernel_rfl) (by kernel_rfl) (fun _ _ _ h => h) (Or.inl ⟨by rfl, ?_⟩) (by assumption) ?_
        rotate_left 1
        · (intro W hW; skip; go_simp; try with_reducible rfl)
        simp only [Act.put, List.getElem_toArray, List.getElem_cons_succ, List.getElem_cons_zero, List.setIfInBounds_toArray, List.set_cons_zero, List.set_cons_succ]
        refine wpAnyH_take (i := 6) (v := ?_) rfl (by kernel_rfl) (by kernel_rfl) (by kernel_rfl) (fun _ _ _ h => h) (Or.inl ⟨by rfl, ?_⟩) (by assumption) ?_
        rotate_left 1
        · (intro W hW; clear hW; go_simp; try with_reducible rfl)
        simp only [Act.put, List.getElem_toArray, List.getElem_cons_succ, List.getElem_cons_zero, List.setIfInBounds_toArray, List.set_cons_zero, List.set_cons_succ]
        refine wpAnyH_take (i := 7) (v := ?_) rfl (by kernel_rfl) (by kernel_rfl) (by kernel_rfl) (fun _ _ _ h => h) (Or.inl ⟨by rfl, ?_⟩) (by assumption) ?_
        rotate_left 1
        · (intro W hW; clear hW; go_simp; try with_reducible rfl)
        simp only [Act.put, List.getElem_toArray, List.getElem_cons_succ, List.getElem_cons_zero, List.setIfInBounds_toArray, List.set_cons_zero, List.set_cons_succ]
        refine wpAnyH_take (i := 8) (v := ?_) rfl (by kernel_rfl) (by kernel_rfl) (by kernel_rfl) (fun _ _ _ h => h) (Or.inl ⟨by rfl, ?_⟩) (by assumption) ?_
        rotate_left 1
        · (intro W hW; clear hW; go_simp; try with_reducible rfl)
        simp only [Act.put, List.getElem_toArray, List.getElem_cons_succ, List.getElem_cons_zero, List.setIfInBounds_toArray, List.set_cons_zero, List.set_cons_succ]
        refine wpAnyH_done (by kernel_rfl) ?_ _
        have hsq : Since wl wp := Since.trans hb2 hq
        have hs0q : Since w wp := HS0.out.trans hsq
        have q1 := c1 _ hsq
        have r0 := p0 _ hsq
        have r1 := p1 _ hsq
        go_wp2_with (first | (go_at_call 102; (with_reducible refine (HC0.out _).mono ?_); rintro e w3 ⟨rfl, hb3⟩; have hs3 : Since wl (w3.alloc (.cells #[.int .i64 (td + 1), .int .i64 (2 * tb)] 27)) := Since.alloc (hsq.trans hb3) _; have f0 := p0 _ hs3; have f1 := p1 _ hs3; have hNa : Whole (w3.alloc (.cells #[.int .i64 (td + 1), .int .i64 (2 * tb)] 27)) w3.heap.size 27 #[.int .i64 (td + 1), .int .i64 (2 * tb)] := Whole.new w3 _ _) | (go_at_call 102; (with_reducible refine (HC1.out _).mono ?_); rintro e w4 ⟨rfl, hb4⟩; have hs4 : Since wl (w4.alloc (.cells #[.int .i64 (td + 1), .int .i64 (2 * tb + 1)] 27)) := Since.alloc (hs3.trans hb4) _; have hNa4 := Since.whole (Since.alloc hb4 (.cells #[.int .i64 (td + 1), .int .i64 (2 * tb + 1)] 27)) hNa; have hNb : Whole (w4.alloc (.cells #[.int .i64 (td + 1), .int .i64 (2 * tb + 1)] 27)) w4.heap.size 27 #[.int .i64 (td + 1), .int .i64 (2 * tb + 1)] := Whole.new w4 _ _; have q4 := c1 _ hs4; have m2 := HTI.out _ hs4) | (go_at_call 101; (with_reducible refine (HCU.out _ (HS0.out.trans hs4)).mono ?_); rintro e w5 ⟨rfl, ⟨v5, g5⟩, o5⟩; have hNa5 := o5.whole hNa4 (by have := Since.size_ (hs0q.trans hb3); omega); have hNb5 := o5.whole hNb (by have := Since.size_ ((HS0.out.trans hs3).trans hb4); omega); have za0 := hNa5.cell 0; have za1 := hNa5.cell 1) | (go_at_call 97; (with_reducible refine (refPut_any g5 (td + 1) (2 * tb) tw (by rw [List.length_append, List.length_take, List.length_drop]; omega)).mono ?_); rintro e w6 ⟨rfl, ⟨v6, g6⟩, o6⟩; have hNb6 := o6.whole hNb5 (by have := Since.size_ ((HS0.out.trans hs3).trans hb4); omega); have zb0 := hNb6.cell 0; have zb1 := hNb6.cell 1) | (go_at_call 97; (with_reducible refine (refPut_any g6 (td + 1) (2 * tb + 1) who (by rw [insT_len, List.length_append, List.length_take, List.length_drop]; omega)).mono ?_); rintro e w7 ⟨rfl, ⟨v7, g7⟩, o7⟩))
        go_ret
        exact ⟨rfl, ⟨_, g7⟩, ((((Since.off (HS0.out.trans hs4) _).trans o5 (fun _ _ z => z)).trans o6 (fun _ _ z => z))).trans o7 (fun _ _ z => z)⟩
end Go.Proofs.Ytgnhamhkpbadbaa
namespace Go.Proofs.Ytgnhamhkpbadbaa
open Go.RowKit
set_option linter.unusedVariables false
set_option linter.unusedSimpArgs false
theorem addT_len (k : Int) (L : List Tl) (t : Tl) : (addT k L t).2.length ≤ L.length + 1 := by
  unfold addT
  split
  · split
    · simp
    · split
      · simp
      · rw [insT_len]; exact Nat.le_refl _
  · simp
/-- Behind the document's New. -/
def RefN (k : Int) (r : Int × List Tl) (w : World) (e : Ending) (W' : World) : Prop :=
  (r.1 = 0 ∧ ∃ g v, e = .returned (.tuple #[.pointer (some ⟨g, 0, none⟩), .int .i64 0]) ∧ RefO g k r.2 v W' ∧ w.heap.size ≤ g ∧ Since w W') ∨
  (r.1 ≠ 0 ∧ e = .returned (.tuple #[.pointer none, .int .i64 r.1]) ∧ Since w W')
set_option maxRecDepth 100000 in
set_option maxHeartbeats 3200000 in
theorem refNew_any {k : Int} {B : Nat} {v : Value} {L : List Tl} (w : World) (hL : LentE encT 3 B w v L) (hB : B ≤ w.heap.size) (hlen : L.length ≤ 900) : Calls Try.prog 11 #[.int .i64 k, v] w (RefN k (newT k L) w) := by
  obtain ⟨va, cap, rfl, hform⟩ := hL
  cases hk : rgt k with
  | false =>
    have hr : newT k L = (1, []) := by unfold newT; rw [if_neg (by rw [hk]; exact Bool.false_ne_true)]
    rw [hr]
    have hn := Lib.hid (refRight_at hk w)
    clear hform hr
    go_enter Try.func11, Try.ntmps11
    go_wp2_with (go_at_call 47; (with_reducible refine hn.out.mono ?_); rintro e w1 ⟨rfl, rfl⟩)
    go_ret2
    exact .inr ⟨by decide, rfl, Since.refl _⟩
  | true =>
    have hr : newT k L = addAll k [] L := by unfold newT; rw [if_pos hk]
    rw [hr]
    clear hr
    have hn := Lib.hid (refRight_at hk w)
    have HL := Lib.hid hform
    clear hform
    go_enter Try.func11, Try.ntmps11
    go_wp2_with (go_at_call 47; (with_reducible refine hn.out.mono ?_); rintro e w1 ⟨rfl, rfl⟩)
    obtain ⟨R, hR⟩ : ∃ R, R = addAll k [] L := ⟨_, rfl⟩
    have HR := Lib.hid hR
    clear hR
    go_loopw [7] (fun i wr => ∃ (m : Nat) (acc : List Tl) (v' : Value), i = .int .i64 m ∧ m ≤ L.length ∧ RefO w.heap.size k acc v' wr ∧ acc.length ≤ m ∧ addAll k acc (L.drop m) = R ∧ Since w wr) (fun i _ => L.length - (intOf i).toNat)
    case atStart =>
      exact ⟨0, [], _, rfl, Nat.zero_le _, ⟨Whole.new w _ _, RowE.nil _ _ _, by simp [Value.ownBlock]⟩, Nat.le_refl _, HR.out.symm, (Since.refl w).alloc _⟩
    case round =>
      obtain ⟨m, acc, v', rfl, hm, hO, hal, hA, hs⟩ := hrel
      by_cases hlt : m < L.length
      rotate_left
      · have d1 : decide ((m : Int) < L.length) = false := decide_eq_false (by omega)
        have hR0 : R = (0, acc) := by rw [← hA, List.drop_of_length_le (by omega)]; rfl
        have HR0 := Lib.hid hR0
        have HO := Lib.hid hO
        clear hA hR0 hO
        go_wp2_with fail
        go_ret2
        rw [show addAll k [] L = (0, acc) from HR.out.symm.trans HR0.out]
        exact .inl ⟨rfl, _, _, rfl, HO.out, Nat.le_refl _, hs⟩
      · have d1 : decide ((m : Int) < L.length) = true := decide_eq_true (by omega)
        rcases HL.out with h0 | ⟨g, off, rfl, hg, hcell⟩
        · omega
        obtain ⟨⟨td, tb, tw⟩, ht⟩ : ∃ t, t = L[m] := ⟨_, rfl⟩
        have hbl : ∀ j u, (encT L[m])[j]? = some u → wr.cell? ⟨g, off + m * 3 + j, none⟩ = some u := fun j u hu => (World.cell?_of_block (hs.block g (Nat.lt_of_lt_of_le hg hB))).trans (hcell m hlt j u hu)
        rw [← ht] at hbl
        have q0 : wr.cell? ⟨g, off + m * 3, none⟩ = some (.int .i64 td) := hbl 0 _ rfl
        have q1 : wr.cell? ⟨g, off + m * 3 + 1, none⟩ = some (.int .i64 tb) := hbl 1 _ rfl
        have q2 : wr.cell? ⟨g, off + m * 3 + 2, none⟩ = some (.int .i64 tw) := hbl 2 _ rfl
        have hdr : L.drop m = ⟨td, tb, tw⟩ :: L.drop (m + 1) := by rw [ht]; exact List.drop_eq_getElem_cons hlt
        rw [hdr] at hA
        have hwrap : wrap64 ((m : Int) + 1) = ((m + 1 : Nat) : Int) := IntWalk.wrap64_in _ ⟨by omega, by omega⟩
        obtain ⟨er, her⟩ : ∃ er, er = (addT k acc ⟨td, tb, tw⟩).1 := ⟨_, rfl⟩
        have HA := Lib.hid hA
        have HE := Lib.hid her
        have HADD := Lib.hid (refAdd_any hO td tb tw (by omega))
        have HO := Lib.hid hO
        clear hbl hdr hA ht hcell her hO
        go_wp2_with fail
        refine HADD.out.mono ?_
        rintro e w3 ⟨rfl, ⟨v3, g3⟩, o3⟩
        rw [← HE.out]
        have hs3 : Since w w3 := o3.since_of hs (fun b e => by rw [e]; exact Nat.le_refl _)
        by_cases h0 : er = 0
        · have hA2 : addAll k (addT k acc ⟨td, tb, tw⟩).2 (L.drop (m + 1)) = R := by
            rw [← HA.out, addAll_cons, if_pos (HE.out ▸ h0)]
          have hl2 := addT_len k acc ⟨td, tb, tw⟩
          have HA2 := Lib.hid hA2
          have HG := Lib.hid g3
          have HL2 := Lib.hid (show (addT k acc ⟨td, tb, tw⟩).2.length ≤ m + 1 by omega)
          subst h0
          clear hA2 g3 hl2
          go_wp2_with fail
          go_roundw
          case rel => exact ⟨m + 1, _, _, by go_num, by omega, HG.out, HL2.out, HA2.out, hs3⟩
          case measure => simp [intOf]; omega
        · have hne : (er == 0) = false := by simpa using h0
          have hR2 : addAll k [] L = (er, acc) := by
            rw [← HR.out, ← HA.out, addAll_cons, if_neg (by rw [← HE.out]; exact h0), ← HE.out]
          have HR2 := Lib.hid hR2
          have h00 := Lib.hid h0
          clear hR2 h0 g3
          go_wp2_with fail
          go_ret2
          rw [HR2.out]
          exact .inr ⟨h00.out, rfl, hs3⟩
end Go.Proofs.Ytgnhamhkpbadbaa
