/- Lists of numbers held against each other: SameList, slices.Equal; copied: slices.Clone. -/
import Derived.Test.YtimmnmidhjbanaaDoorK15
import Derived.Test.YtimmnmidhjbanaaDoorK18
namespace Go.Proofs.YtimmnmidhjbanaaDoor
open Go.RowKit
set_option linter.unusedVariables false
set_option linter.unusedSimpArgs false
def sameZ (l m : List Int) : Bool := decide (l = m)
theorem sameZ_iff (l m : List Int) : sameZ l m = true ↔ l = m := by unfold sameZ; exact decide_eq_true_iff
theorem sameZ_false (l m : List Int) : sameZ l m = false ↔ ¬ l = m := by unfold sameZ; exact decide_eq_false_iff_not
theorem take_same {l m : List Int} {k : Nat} {x : Int} (h : l.take k = m.take k) (hl : l[k]? = some x) (hm : m[k]? = some x) : l.take (k + 1) = m.take (k + 1) := by rw [List.take_add_one, List.take_add_one, h, hl, hm]
set_option maxRecDepth 100000 in
theorem equal11_any {B : Nat} {va vb : Value} {l m : List Int} {w : World} (h : LZ B w va l) (h2 : LZ B w vb m) (hB : B ≤ w.heap.size) (hl : l.length ≤ 1000000) {r : Bool} (hr : sameZ l m = r) :
    Calls Tryd.prog 55 #[va, vb] w fun e w' => e = .returned (.bool r) ∧ Below w.heap.size w w' := by
  obtain ⟨a, cap, rfl, -⟩ := h.form
  obtain ⟨b, cap2, rfl, -⟩ := h2.form
  obtain ⟨N, hN⟩ : ∃ N, l.length = N := ⟨_, rfl⟩
  obtain ⟨M, hM⟩ : ∃ M, m.length = M := ⟨_, rfl⟩
  rw [hN] at h hl ⊢
  rw [hM] at h2 ⊢
  have HA := Lib.hid (fun W (hW : Since w W) => h.since hW hB)
  have HB := Lib.hid (fun W (hW : Since w W) => h2.since hW hB)
  have HN := Lib.hid hN
  have HM := Lib.hid hM
  have HR := Lib.hid hr
  have hs0 := Since.refl w
  clear h h2 hN hM hr hB
  by_cases hne : N = M
  · subst hne
    go_enter Tryd.func55, Tryd.ntmps55
    go_wp2
    go_loopw [13] (fun i wr => ∃ k : Nat, k ≤ N ∧ i = .int .i64 (k : Int) ∧ l.take k = m.take k ∧ Since w wr) (fun i _ => N - (intOf i).toNat)
    case atStart => exact ⟨0, by omega, rfl, rfl, hs0⟩
    case round =>
      obtain ⟨k, hk, rfl, ha, hsw⟩ := hrel
      clear hs0
      by_cases hlt : k < N
      · have hlk : k < l.length := by have := HN.out; omega
        have hmk : k < m.length := by have := HM.out; omega
        obtain ⟨z, hz⟩ : ∃ z, l[k] = z := ⟨_, rfl⟩
        obtain ⟨y, hy⟩ : ∃ y, m[k] = y := ⟨_, rfl⟩
        have hz' : l[k]? = some z := by rw [List.getElem?_eq_getElem hlk, hz]
        have hy' : m[k]? = some y := by rw [List.getElem?_eq_getElem hmk, hy]
        obtain ⟨b1, off, rfl, _⟩ := LZ.addr (HA.out w (Since.refl w)) (by omega)
        have hcc := fun W (hW : Since w W) => LZ.cellsAt (HA.out W hW) hz'
        obtain ⟨b3, off3, rfl, _⟩ := LZ.addr (HB.out w (Since.refl w)) (by omega)
        have hdd := fun W (hW : Since w W) => LZ.cellsAt (HB.out W hW) hy'
        have HX := Lib.hid (And.intro ha (And.intro hz' hy'))
        clear ha hz hy hz' hy' hlk hmk
        have hsd := hsw.drew
        by_cases h5 : z = y
        · have h6 : (z != y) = false := by simpa using h5
          have H5 := Lib.hid h5
          clear h5
          go_wp2_with fail
          go_region_held3 (fun W => Since w W) (first | assumption | exact Since.drew (by assumption)) ((first | fail))
          go_wp2
          go_roundw
          case rel =>
            refine ⟨k + 1, by omega, by go_num, ?_, by assumption⟩
            obtain ⟨x1, x2, x3⟩ := HX.out
            exact take_same x1 x2 (by rw [x3, H5.out])
          case measure => simp [intOf]; omega
        · have h6 : (z != y) = true := by rw [bne_iff_ne]; exact h5
          obtain rfl : r = false := by
            rw [← HR.out, sameZ_false]
            rintro rfl
            obtain ⟨x1, x2, x3⟩ := HX.out
            rw [x2] at x3
            injection x3 with x3
            exact h5 x3
          clear h5
          go_wp2_with fail
          go_region_held3 (fun W => Since w W) (first | assumption | exact Since.drew (by assumption)) ((first | fail))
          go_wp2
          go_ret
          exact ⟨rfl, by assumption⟩
      · have HX := Lib.hid ha
        clear ha
        obtain rfl : k = N := by omega
        obtain rfl : r = true := by
          have h2 := HX.out
          rw [List.take_of_length_le (Nat.le_of_eq HN.out), List.take_of_length_le (Nat.le_of_eq HM.out)] at h2
          rw [← HR.out, sameZ_iff]
          exact h2
        go_wp2
        go_ret
        exact ⟨rfl, hsw⟩
  · obtain rfl : r = false := by
      rw [← HR.out, sameZ_false]
      rintro rfl
      exact hne (by rw [← HN.out, ← HM.out])
    have h6 : ((N : Int) != (M : Int)) = true := by rw [bne_iff_ne]; omega
    clear hne
    go_enter Tryd.func55, Tryd.ntmps55
    go_wp2
    go_ret
    exact ⟨rfl, hs0⟩
set_option maxRecDepth 100000 in
theorem sameList_any {B : Nat} {va vb : Value} {l m : List Int} {w : World} (h : LZ B w va l) (h2 : LZ B w vb m) (hB : B ≤ w.heap.size) (hl : l.length ≤ 1000000) {r : Bool} (hr : sameZ l m = r) :
    Calls Tryd.prog 14 #[va, vb] w fun e w' => e = .returned (.bool r) ∧ Below w.heap.size w w' := by
  obtain ⟨a, cap, rfl, -⟩ := h.form
  obtain ⟨b, cap2, rfl, -⟩ := h2.form
  obtain ⟨N, hN⟩ : ∃ N, l.length = N := ⟨_, rfl⟩
  obtain ⟨M, hM⟩ : ∃ M, m.length = M := ⟨_, rfl⟩
  rw [hN] at h hl ⊢
  rw [hM] at h2 ⊢
  have HA := Lib.hid (fun W (hW : Since w W) => h.since hW hB)
  have HB := Lib.hid (fun W (hW : Since w W) => h2.since hW hB)
  have HN := Lib.hid hN
  have HM := Lib.hid hM
  have HR := Lib.hid hr
  have hs0 := Since.refl w
  clear h h2 hN hM hr hB
  by_cases hne : N = M
  · subst hne
    go_enter Tryd.func14, Tryd.ntmps14
    go_wp2
    go_loopw [5] (fun i wr => ∃ k : Nat, k ≤ N ∧ i = .int .i64 (k : Int) ∧ l.take k = m.take k ∧ Since w wr) (fun i _ => N - (intOf i).toNat)
    case atStart => exact ⟨0, by omega, rfl, rfl, hs0⟩
    case round =>
      obtain ⟨k, hk, rfl, ha, hsw⟩ := hrel
      clear hs0
      by_cases hlt : k < N
      · have hlk : k < l.length := by have := HN.out; omega
        have hmk : k < m.length := by have := HM.out; omega
        obtain ⟨z, hz⟩ : ∃ z, l[k] = z := ⟨_, rfl⟩
        obtain ⟨y, hy⟩ : ∃ y, m[k] = y := ⟨_, rfl⟩
        have hz' : l[k]? = some z := by rw [List.getElem?_eq_getElem hlk, hz]
        have hy' : m[k]? = some y := by rw [List.getElem?_eq_getElem hmk, hy]
        obtain ⟨b1, off, rfl, _⟩ := LZ.addr (HA.out w (Since.refl w)) (by omega)
        have hcc := fun W (hW : Since w W) => LZ.cellsAt (HA.out W hW) hz'
        obtain ⟨b3, off3, rfl, _⟩ := LZ.addr (HB.out w (Since.refl w)) (by omega)
        have hdd := fun W (hW : Since w W) => LZ.cellsAt (HB.out W hW) hy'
        have HX := Lib.hid (And.intro ha (And.intro hz' hy'))
        clear ha hz hy hz' hy' hlk hmk
        have hsd := hsw.drew
        by_cases h5 : z = y
        · have h6 : (z != y) = false := by simpa using h5
          have H5 := Lib.hid h5
          clear h5
          go_wp2_with fail
          go_region_held3 (fun W => Since w W) (first | assumption | exact Since.drew (by assumption)) ((first | fail))
          go_wp2
          go_roundw
          case rel =>
            refine ⟨k + 1, by omega, by go_num, ?_, by assumption⟩
            obtain ⟨x1, x2, x3⟩ := HX.out
            exact take_same x1 x2 (by rw [x3, H5.out])
          case measure => simp [intOf]; omega
        · have h6 : (z != y) = true := by rw [bne_iff_ne]; exact h5
          obtain rfl : r = false := by
            rw [← HR.out, sameZ_false]
            rintro rfl
            obtain ⟨x1, x2, x3⟩ := HX.out
            rw [x2] at x3
            injection x3 with x3
            exact h5 x3
          clear h5
          go_wp2_with fail
          go_region_held3 (fun W => Since w W) (first | assumption | exact Since.drew (by assumption)) ((first | fail))
          go_wp2
          go_ret
          exact ⟨rfl, by assumption⟩
      · have HX := Lib.hid ha
        clear ha
        obtain rfl : k = N := by omega
        obtain rfl : r = true := by
          have h2 := HX.out
          rw [List.take_of_length_le (Nat.le_of_eq HN.out), List.take_of_length_le (Nat.le_of_eq HM.out)] at h2
          rw [← HR.out, sameZ_iff]
          exact h2
        go_wp2
        go_ret
        exact ⟨rfl, hsw⟩
  · obtain rfl : r = false := by
      rw [← HR.out, sameZ_false]
      rintro rfl
      exact hne (by rw [← HN.out, ← HM.out])
    have h6 : ((N : Int) != (M : Int)) = true := by rw [bne_iff_ne]; omega
    clear hne
    go_enter Tryd.func14, Tryd.ntmps14
    go_wp2
    go_ret
    exact ⟨rfl, hs0⟩
set_option maxRecDepth 100000 in
theorem clone11_any {B : Nat} {v : Value} {l : List Int} {w : World} (h : LZ B w v l) (hB : B ≤ w.heap.size) (hl : l.length ≤ 1000) :
    Calls Tryd.prog 44 #[v] w fun e w' => ∃ v', e = .returned v' ∧ RZ w' w.heap.size v' l ∧ Below w.heap.size w w' := by
  obtain ⟨a, cap, rfl, hc⟩ := h.form
  obtain ⟨N, hN⟩ : ∃ N, l.length = N := ⟨_, rfl⟩
  have HN := Lib.hid hN
  rw [hN] at h hl ⊢
  have HP := Lib.hid (fun W (hW : Since w W) => (h.since hW hB).part)
  have hsw := Since.refl w
  have hq := fun n c w => Lib.run_eql_slice_nil (P := Tryd.prog) w 26 3 a n c 0 0 Tryd.underlying26
  cases a with
  | none =>
    have h0 : l.length = 0 := by
      rcases hc with h0 | ⟨b, off, e, _⟩
      · exact h0
      · cases e
    have hl0 : l = [] := List.eq_nil_of_length_eq_zero h0
    subst hl0
    obtain rfl : 0 = N := HN.out
    clear hc h h0
    go_enter Tryd.func44, Tryd.ntmps44
    go_wp2
    go_ret
    exact ⟨_, rfl, RZ.nil _ _, Since.refl w⟩
  | some ad =>
    clear hc h hN
    go_enter Tryd.func44, Tryd.ntmps44
    go_wp2_with (at_builtin; go_loud (refine wpList_append_part rfl _ _ 26 rfl w.heap.size 3 _ 8 Tryd.underlying26 infoZ rfl (by decide) (RowE.empty (enc := encZ) (n := 1) w 3) (HP.out _ (hsw.alloc _)) encZ_len encZ_one rfl rfl (by rw [List.length_nil, HN.out]; omega) (by decide) (by simp) ?_; intro v' w7 hrow7 hoff7))
    go_ret
    exact ⟨_, rfl, hrow7, (((Off.refl (fun b => b = w.heap.size) w).alloc _).trans hoff7 (fun b _ e => by injection e with e; exact e.symm)).below (Nat.le_refl _) (fun b e => Nat.le_of_eq e.symm)⟩
end Go.Proofs.YtimmnmidhjbanaaDoor
