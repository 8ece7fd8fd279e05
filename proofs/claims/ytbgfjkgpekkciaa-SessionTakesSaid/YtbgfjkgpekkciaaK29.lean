/- gleberef09.Take. -/
import Derived.Test.YtbgfjkgpekkciaaK20
import Derived.Test.YtbgfjkgpekkciaaK25
import Derived.Test.YtbgfjkgpekkciaaK28
namespace Go.Proofs.Ytbgfjkgpekkciaa
open Go.RowKit
set_option linter.unusedVariables false
set_option linter.unusedSimpArgs false
theorem dcells_zero {N : STab} {k : Nat} (hat : N[k]? = some .zero) : (dcells N).setIfInBounds k (.int .i64 0) = dcells N := by
  have h := dcells_seq hat
  apply Array.ext_getElem?
  intro i
  rw [Array.getElem?_setIfInBounds]
  split
  · next e =>
    subst e
    rw [h]
    have := (Array.getElem?_eq_some_iff.1 h).1
    simp [this, SR.zero]
  · rfl
section
variable {w : World} {B q n c : Nat} {A : Option Addr} {bb : List UInt8} {s t : RSt}
theorem upD (h : DcS w B q A n c bb s) {x : Int} (hx : upS s = (x, t)) : Calls Try.prog 29 #[.pointer (some ⟨q, 0, none⟩), .int .i64 1099511627776] w (DPs B q A n c bb t (.int .i64 x) w) := by
  obtain ⟨k, h⟩ := h
  refine (rupto h 1099511627776).mono ?_
  rintro y w' ⟨rfl, k', h1, ho⟩
  unfold upS at hx
  injection hx with e1 e2
  subst e1; subst e2
  exact ⟨rfl, ⟨k', h1⟩, ho.off⟩
/-- What the document's Take leaves. -/
def RTakeP (B q n c : Nat) (A : Option Addr) (bb : List UInt8) (J : Nat) (L : STab) (t : RSt) (w : World) (y : Ending) (w' : World) : Prop :=
  ((t.2 = 0 ∧ y = .returned (.pointer (some ⟨J, 0, none⟩)) ∧ DTab w' J L) ∨ (t.2 ≠ 0 ∧ y = .returned (.pointer none))) ∧ DcS w' B q A n c bb t ∧ Off (fun b => b = q) w w'
set_option maxHeartbeats 1600000 in
set_option maxRecDepth 100000 in
theorem refTakeTab_any (h : DcS w B q A n c bb s) {L : STab} {t : RSt} (ht : readRows 8 s = (L, t)) : Calls Try.prog 11 #[.pointer (some ⟨q, 0, none⟩)] w (RTakeP B q n c A bb w.heap.size L t w) := by
  have hg := h.lt
  have HT := Lib.hid ht
  clear ht
  obtain ⟨J, hJ⟩ : ∃ J, J = w.heap.size := ⟨_, rfl⟩
  have hJ0 : w.heap.size ≤ J := by omega
  have hgJ : q < J := by omega
  have HJ := Lib.hid hJ
  rw [← hJ]
  clear hJ
  go_enter Try.func11, Try.ntmps11
  go_wp2_with fail
  obtain ⟨w1, hw1⟩ : ∃ w1, w1 = w.alloc (.cells (dcells tab0) 75) := ⟨_, rfl⟩
  have hP1 : DTab w1 J tab0 := ⟨rfl, by rw [hw1, HJ.out]; exact Whole.new w _ _⟩
  have hs1 : Since w w1 := by rw [hw1]; exact (Since.refl w).alloc _
  have hR1 := h.since hs1
  have ho1 : Off (fun b => b = q) w w1 := hs1.off _
  rw [show w.alloc (.cells #[.int .i64 0, .int .i64 0, .int .i64 0, .int .i64 0, .int .i64 0, .int .i64 0, .int .i64 0, .int .i64 0, .int .i64 0, .bool false, .string ⟨#[]⟩, .int .i64 0, .int .i64 0, .bool false, .string ⟨#[]⟩, .int .i64 0, .int .i64 0, .bool false, .string ⟨#[]⟩, .int .i64 0, .int .i64 0, .bool false, .string ⟨#[]⟩, .int .i64 0, .int .i64 0, .bool false, .string ⟨#[]⟩, .int .i64 0, .int .i64 0, .bool false, .string ⟨#[]⟩, .int .i64 0, .int .i64 0, .bool false, .string ⟨#[]⟩, .int .i64 0, .int .i64 0, .bool false, .string ⟨#[]⟩, .int .i64 0] 75) = w1 from hw1.symm, ← HJ.out]
  clear h hs1 hw1
  go_wp2
  go_loopw [4] (fun i wr => ∃ k : Nat, i = .int .i64 (k : Int) ∧ k ≤ 8 ∧ DTab wr J (rowsK k s) ∧ DcS wr B q A n c bb (readRows k s).2 ∧ Off (fun b => b = q) w wr) (fun i _ => 8 - (intOf i).toNat)
  case atStart => exact ⟨0, rfl, Nat.zero_le _, hP1, hR1, ho1⟩
  case round =>
    obtain ⟨k, rfl, hk, hP, hR, ho⟩ := hrel
    clear hP1 hR1 ho1
    by_cases hlt : k < 8
    · obtain ⟨⟨r, s2⟩, hr⟩ : ∃ p, readRow (readRows k s).2 = p := ⟨_, rfl⟩
      have hat := rowsK_at hlt s
      have hX := rowsK_next hlt s
      have hY : (readRows (k + 1) s).2 = s2 := by show (readRow (readRows k s).2).2 = s2; rw [hr]
      rw [hr] at hX
      have hkl : k < (rowsK k s).length := by rw [rowsK_len (by omega)]; exact hlt
      have HX := Lib.hid hX
      have HY := Lib.hid hY
      have hklt : (k : Int) < 8 := by omega
      clear hX hY
      generalize rowsK k s = N at hP hat hkl HX
      generalize (readRows k s).2 = sk at hR hr
      unfold readRow at hr
      obtain ⟨⟨x, s1⟩, hx⟩ : ∃ p, upS sk = p := ⟨_, rfl⟩
      have hx0 : 0 ≤ x := by have := upS_pos sk; rw [hx] at this; exact this
      have HU := Lib.hid hx
      simp only [hx] at hr
      clear hx
      go_wp2_with fail
      obtain ⟨wq, hwq⟩ : ∃ wq, wq = wr.drew := ⟨_, rfl⟩
      have hsq : Since wr wq := by rw [hwq]; exact (Since.refl wr).drew
      refine wp_region_held_drew (S := fun _ => True) (by kernel_rfl) trivial (fun hHeld => ?_)
      have hPq := hP.since hsq
      have hRq := hR.since hsq
      have hoq := ho.since hsq
      rw [← hwq]
      clear hwq hP hR ho hsq
      refine wpAnyH_take (i := 0) (v := ?_) rfl (by kernel_rfl) (by kernel_rfl) (by kernel_rfl) (fun _ _ _ h => h) (Or.inl ⟨by rfl, ?_⟩) (by assumption) ?_
      rotate_left 1
      · (intro W hW; clear hW; go_simp; try with_reducible rfl)
      simp only [Act.put, List.getElem_toArray, List.getElem_cons_zero, List.setIfInBounds_toArray, List.set_cons_zero, List.set_cons_succ]
      refine wpAnyH_take (i := 1) (v := ?_) rfl (by kernel_rfl) (by kernel_rfl) (by kernel_rfl) (fun _ _ _ h => h) (Or.inl ⟨by rfl, ?_⟩) (by assumption) ?_
      rotate_left 1
      · (intro W hW; clear hW; go_simp; try with_reducible rfl)
      simp only [Act.put, List.getElem_toArray, List.getElem_cons_succ, List.getElem_cons_zero, List.setIfInBounds_toArray, List.set_cons_zero, List.set_cons_succ]
      refine wpAnyH_take (i := 2) (v := ?_) rfl (by kernel_rfl) (by kernel_rfl) (by kernel_rfl) (fun _ _ _ h => h) (Or.inl ⟨by rfl, ?_⟩) (by assumption) ?_
      rotate_left 1
      · (intro W hW; clear hW; go_simp; try with_reducible rfl)
      simp only [Act.put, List.getElem_toArray, List.getElem_cons_succ, List.getElem_cons_zero, List.setIfInBounds_toArray, List.set_cons_zero, List.set_cons_succ]
      refine wpAnyH_take (i := 4) (v := ?_) rfl (by kernel_rfl) (by kernel_rfl) (by kernel_rfl) (fun _ _ _ h => h) (Or.inl ⟨by rfl, ?_⟩) (by assumption) ?_
      rotate_left 1
      · (intro W hW; clear hW; go_simp; try with_reducible rfl)
      simp only [Act.put, List.getElem_toArray, List.getElem_cons_succ, List.getElem_cons_zero, List.setIfInBounds_toArray, List.set_cons_zero, List.set_cons_succ]
      refine wpAnyH_take (i := 5) (v := ?_) rfl (by kernel_rfl) (by kernel_rfl) (by kernel_rfl) (fun _ _ _ h => h) (Or.inl ⟨by rfl, ?_⟩) (by assumption) ?_
      rotate_left 1
      · (intro W hW; clear hW; go_simp; try with_reducible rfl)
      simp only [Act.put, List.getElem_toArray, List.getElem_cons_succ, List.getElem_cons_zero, List.setIfInBounds_toArray, List.set_cons_zero, List.set_cons_succ]
      refine wpAnyH_ready (rs := [3]) (by kernel_rfl) (by simp) ?_
      refine AllReadyH.cons rfl (fun K hK => ?_) AllReadyH.nil
      go_simp
      refine (upD hRq HU.out).mono ?_
      rintro e w2 ⟨rfl, hR2, ho2⟩
      have hP2 := hPq.off ho2 (by omega)
      have es := hP2.seq hat w2 (Since.refl _)
      have fs := hP2.frozen k w2 (Since.refl _)
      go_wp2_with fail
      refine hK.out _ _ (trivial) (fun hHeld => ?_)
      clear hK K
      try simp only [Act.put, List.getElem_toArray, List.getElem_cons_succ, List.getElem_cons_zero, List.setIfInBounds_toArray, List.set_cons_zero, List.set_cons_succ]
      refine wpAnyH_take (i := 6) (v := ?_) rfl (by kernel_rfl) (by kernel_rfl) (by kernel_rfl) (fun _ _ _ h => h) (Or.inl ⟨by rfl, ?_⟩) (by assumption) ?_
      rotate_left 1
      · (intro W hW; clear hW; go_simp; try with_reducible rfl)
      simp only [Act.put, List.getElem_toArray, List.getElem_cons_succ, List.getElem_cons_zero, List.setIfInBounds_toArray, List.set_cons_zero, List.set_cons_succ]
      refine wpAnyH_ready (rs := [7]) (by kernel_rfl) (by simp) ?_
      refine AllReadyH.cons rfl (fun K hK => ?_) AllReadyH.nil
      go_simp
      skip
      refine hK.out _ _ (trivial) (fun hHeld => ?_)
      clear hK K
      try simp only [Act.put, List.getElem_toArray, List.getElem_cons_succ, List.getElem_cons_zero, List.setIfInBounds_toArray, List.set_cons_zero, List.set_cons_succ]
      refine wpAnyH_done (by kernel_rfl) ?_ _
      have ho3 := (hoq.trans ho2 (fun _ _ z => z)).setCell (p := ⟨J, k, none⟩) (.inl hJ0) (.int .i64 x)
      have hR3 := hR2.set_ ⟨J, k, none⟩ hgJ (.int .i64 x)
      have wd := hP2.2.set_ k (.int .i64 x)
      obtain ⟨w3, hw3⟩ : ∃ w3, w3 = w2.setCell ⟨J, k, none⟩ (.int .i64 x) := ⟨_, rfl⟩
      rw [← hw3] at ho3 hR3 wd ⊢
      have c3 : w3.cell? ⟨J, k, none⟩ = some (.int .i64 x) := by
        rw [wd.cell, Array.getElem?_setIfInBounds_self_of_lt]
        have := (Array.getElem?_eq_some_iff.1 (dcells_seq hat)).1
        exact this
      clear hw3 es fs hPq hRq hoq hR2 ho2
      by_cases hp : 0 < x
      · rw [if_pos hp] at hr
        obtain ⟨⟨⟨er, fd, val, ver⟩, s4⟩, ha⟩ : ∃ p, readAns s1 = p := ⟨_, rfl⟩
        rw [ha] at hr
        have HA := Lib.hid ha
        clear ha
        injection hr with hr1 hr2
        subst hr1; subst hr2
        dsimp only at HX
        go_wp2_with fail
        obtain ⟨wz, hwz⟩ : ∃ wz, wz = w3.drew := ⟨_, rfl⟩
        have hsz : Since w3 wz := by rw [hwz]; exact (Since.refl w3).drew
        refine wp_region_held_drew (S := fun _ => True) (by kernel_rfl) trivial (fun hHeld2 => ?_)
        have hRz := hR3.since hsz
        have hoz := ho3.since hsz
        have wdz := hsz.whole wd
        rw [← hwz]
        clear hwz hsz hR3 ho3 wd c3
        refine wpAnyH_take (i := 0) (v := ?_) rfl (by kernel_rfl) (by kernel_rfl) (by kernel_rfl) (fun _ _ _ h => h) (Or.inl ⟨by rfl, ?_⟩) (by assumption) ?_
        rotate_left 1
        · (intro W hW; clear hW; go_simp; try with_reducible rfl)
        simp only [Act.put, List.getElem_toArray, List.getElem_cons_zero, List.setIfInBounds_toArray, List.set_cons_zero, List.set_cons_succ]
        refine wpAnyH_take (i := 1) (v := ?_) rfl (by kernel_rfl) (by kernel_rfl) (by kernel_rfl) (fun _ _ _ h => h) (Or.inl ⟨by rfl, ?_⟩) (by assumption) ?_
        rotate_left 1
        · (intro W hW; clear hW; go_simp; try with_reducible rfl)
        simp only [Act.put, List.getElem_toArray, List.getElem_cons_succ, List.getElem_cons_zero, List.setIfInBounds_toArray, List.set_cons_zero, List.set_cons_succ]
        refine wpAnyH_take (i := 2) (v := ?_) rfl (by kernel_rfl) (by kernel_rfl) (by kernel_rfl) (fun _ _ _ h => h) (Or.inl ⟨by rfl, ?_⟩) (by assumption) ?_
        rotate_left 1
        · (intro W hW; clear hW; go_simp; try with_reducible rfl)
        simp only [Act.put, List.getElem_toArray, List.getElem_cons_succ, List.getElem_cons_zero, List.setIfInBounds_toArray, List.set_cons_zero, List.set_cons_succ]
        refine wpAnyH_take (i := 4) (v := ?_) rfl (by kernel_rfl) (by kernel_rfl) (by kernel_rfl) (fun _ _ _ h => h) (Or.inl ⟨by rfl, ?_⟩) (by assumption) ?_
        rotate_left 1
        · (intro W hW; clear hW; go_simp; try with_reducible rfl)
        simp only [Act.put, List.getElem_toArray, List.getElem_cons_succ, List.getElem_cons_zero, List.setIfInBounds_toArray, List.set_cons_zero, List.set_cons_succ]
        refine wpAnyH_take (i := 5) (v := ?_) rfl (by kernel_rfl) (by kernel_rfl) (by kernel_rfl) (fun _ _ _ h => h) (Or.inl ⟨by rfl, ?_⟩) (by assumption) ?_
        rotate_left 1
        · (intro W hW; clear hW; go_simp; try with_reducible rfl)
        simp only [Act.put, List.getElem_toArray, List.getElem_cons_succ, List.getElem_cons_zero, List.setIfInBounds_toArray, List.set_cons_zero, List.set_cons_succ]
        refine wpAnyH_ready (rs := [3]) (by kernel_rfl) (by simp) ?_
        refine AllReadyH.cons rfl (fun K hK => ?_) AllReadyH.nil
        go_simp
        refine (refTakeAns_any hRz HA.out).mono ?_
        rintro e wy ⟨rfl, hRy, hoy⟩
        have wd3 := hoy.whole wdz (by omega)
        have e0 : wy.cell? ⟨J, 8 + k * 4, none⟩ = some (.int .i64 0) := by rw [wd3.cell, Array.getElem?_setIfInBounds_ne (by omega)]; have := dcells_ans (j := 0) hP2.1 hat (.int .i64 0) rfl; rwa [← Nat.add_assoc] at this
        have e1 : wy.cell? ⟨J, 8 + k * 4 + 1, none⟩ = some (.bool false) := by rw [wd3.cell, Array.getElem?_setIfInBounds_ne (by omega)]; have := dcells_ans (j := 1) hP2.1 hat (.bool false) rfl; rwa [← Nat.add_assoc] at this
        have e2 : wy.cell? ⟨J, 8 + k * 4 + 2, none⟩ = some (.string ⟨#[]⟩) := by rw [wd3.cell, Array.getElem?_setIfInBounds_ne (by omega)]; have := dcells_ans (j := 2) hP2.1 hat (.string ⟨#[]⟩) rfl; rwa [← Nat.add_assoc] at this
        have e3 : wy.cell? ⟨J, 8 + k * 4 + 3, none⟩ = some (.int .i64 0) := by rw [wd3.cell, Array.getElem?_setIfInBounds_ne (by omega)]; have := dcells_ans (j := 3) hP2.1 hat (.int .i64 0) rfl; rwa [← Nat.add_assoc] at this
        have f0 := wd3.frozen (8 + k * 4)
        have f1 := wd3.frozen (8 + k * 4 + 1)
        have f2 := wd3.frozen (8 + k * 4 + 2)
        have f3 := wd3.frozen (8 + k * 4 + 3)
        go_wp2_with fail
        refine hK.out _ _ (trivial) (fun hHeld => ?_)
        clear hK K
        try simp only [Act.put, List.getElem_toArray, List.getElem_cons_succ, List.getElem_cons_zero, List.setIfInBounds_toArray, List.set_cons_zero, List.set_cons_succ]
        refine wpAnyH_take (i := 6) (v := ?_) rfl (by kernel_rfl) (by kernel_rfl) (by kernel_rfl) (fun _ _ _ h => h) (Or.inl ⟨by rfl, ?_⟩) (by assumption) ?_
        rotate_left 1
        · (intro W hW; clear hW; go_simp; try with_reducible rfl)
        simp only [Act.put, List.getElem_toArray, List.getElem_cons_succ, List.getElem_cons_zero, List.setIfInBounds_toArray, List.set_cons_zero, List.set_cons_succ]
        refine wpAnyH_ready (rs := [7]) (by kernel_rfl) (by simp) ?_
        refine AllReadyH.cons rfl (fun K hK => ?_) AllReadyH.nil
        go_simp
        skip
        refine hK.out _ _ (trivial) (fun hHeld => ?_)
        clear hK K
        try simp only [Act.put, List.getElem_toArray, List.getElem_cons_succ, List.getElem_cons_zero, List.setIfInBounds_toArray, List.set_cons_zero, List.set_cons_succ]
        refine wpAnyH_done (by kernel_rfl) ?_ _
        have ho4 := hoz.trans hoy (fun _ _ z => z)
        have hh := ((((wd3.set_ (8 + k * 4) (.int .i64 er)).set_ (8 + k * 4 + 1) (.bool fd)).set_ (8 + k * 4 + 2) (.string val)).set_ (8 + k * 4 + 3) (.int .i64 ver))
        rw [dcells_set hP2.1 hkl ⟨er, fd, val, ver, x⟩] at hh
        have hR5 := ((((hRy.set_ ⟨J, 8 + k * 4, none⟩ (by simp; omega) (.int .i64 er)).set_ ⟨J, 8 + k * 4 + 1, none⟩ (by simp; omega) (.bool fd)).set_ ⟨J, 8 + k * 4 + 2, none⟩ (by simp; omega) (.string val)).set_ ⟨J, 8 + k * 4 + 3, none⟩ (by simp; omega) (.int .i64 ver))
        have ho5 := ((((ho4.setCell (p := ⟨J, 8 + k * 4, none⟩) (.inl (by simp; omega)) (.int .i64 er)).setCell (p := ⟨J, 8 + k * 4 + 1, none⟩) (.inl (by simp; omega)) (.bool fd)).setCell (p := ⟨J, 8 + k * 4 + 2, none⟩) (.inl (by simp; omega)) (.string val)).setCell (p := ⟨J, 8 + k * 4 + 3, none⟩) (.inl (by simp; omega)) (.int .i64 ver))
        clear e0 e1 e2 e3 f0 f1 f2 f3
        obtain ⟨w5, hw5⟩ : ∃ w5, w5 = ((((wy.setCell ⟨J, 8 + k * 4, none⟩ (.int .i64 er)).setCell ⟨J, 8 + k * 4 + 1, none⟩ (.bool fd)).setCell ⟨J, 8 + k * 4 + 2, none⟩ (.string val)).setCell ⟨J, 8 + k * 4 + 3, none⟩ (.int .i64 ver)) := ⟨_, rfl⟩
        rw [← hw5] at hh hR5 ho5 ⊢
        clear hw5
        go_wp2
        go_roundw
        case rel => exact ⟨k + 1, by go_num, by omega, ⟨by rw [HX.out]; exact len_set hP2.1 _ _, by rw [HX.out]; exact hh⟩, by rw [HY.out]; exact hR5, ho5⟩
        case measure => simp [intOf]; omega
      · rw [if_neg hp] at hr
        injection hr with hr1 hr2
        subst hr1; subst hr2
        obtain rfl : x = 0 := by omega
        rw [dcells_zero hat] at wd
        go_wp2
        go_roundw
        case rel => exact ⟨k + 1, by go_num, by omega, by rw [HX.out, set_same hat]; exact ⟨hP2.1, wd⟩, by rw [HY.out]; exact hR3, ho3⟩
        case measure => simp [intOf]; omega
    · obtain rfl : k = 8 := by omega
      rw [rowsK_end, HT.out] at hP
      rw [HT.out] at hR
      replace hP : DTab wr J L := hP
      replace hR : DcS wr B q A n c bb t := hR
      clear HT
      obtain ⟨l, er⟩ := t
      have cE := hR.c2
      dsimp only at cE
      by_cases he : er = 0
      · subst he
        go_wp2
        go_ret
        exact ⟨.inl ⟨rfl, rfl, hP⟩, hR, ho⟩
      · have heb : (er == 0) = false := by simpa using he
        have heb2 : (er != 0) = true := by rw [bne_iff_ne]; exact he
        have HE := Lib.hid he
        clear he
        go_wp2
        go_ret
        exact ⟨.inr ⟨HE.out, rfl⟩, hR, ho⟩
end
end Go.Proofs.Ytbgfjkgpekkciaa
