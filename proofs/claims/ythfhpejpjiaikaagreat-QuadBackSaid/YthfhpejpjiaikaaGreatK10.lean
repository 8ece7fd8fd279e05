/- slices.BinarySearchFunc by point.Compare over a list of records in order. -/
import Derived.Test.YthfhpejpjiaikaaGreatK04
import Derived.Test.YthfhpejpjiaikaaGreatK06
import Derived.Deep.Cut
import Derived.Deep.CutRange
namespace Go.Proofs.YthfhpejpjiaikaaGreat
open Go.RowKit
set_option linter.unusedVariables false
set_option linter.unusedSimpArgs false
theorem posQ_at {L : List Rq} (hs : SortQ L) {x y : Int} {k : ByteArray} {i : Nat} (h : i < L.length) {C : Int} (hC : cmpK L[i] x y k = C) : (C < 0 → i + 1 ≤ posQ L x y k) ∧ (¬ C < 0 → posQ L x y k ≤ i) := by
  subst hC
  have := posQ_take (x := x) (y := y) (k := k) hs i h
  exact ⟨fun c => this.1 c, fun c => Nat.not_lt.1 (fun z => c (this.2 z))⟩
theorem hasQ_at {L : List Rq} (hs : SortQ L) {x y : Int} {k : ByteArray} (h : posQ L x y k < L.length) {C : Int} (hC : cmpK L[posQ L x y k] x y k = C) : hasQ L x y k = (C == 0) := by
  subst hC
  rw [Bool.eq_iff_iff, hasQ_iff hs, beq_iff_eq]
  exact ⟨fun ⟨_, z⟩ => z, fun z => ⟨h, z⟩⟩
theorem hasQ_no {L : List Rq} (hs : SortQ L) {x y : Int} {k : ByteArray} (h : ¬ posQ L x y k < L.length) : hasQ L x y k = false := by
  rw [Bool.eq_false_iff]
  exact fun z => h ((hasQ_iff hs).1 z).1
set_option maxRecDepth 100000 in
set_option maxHeartbeats 6400000 in
theorem bsearch_any {B : Nat} {v : Value} {L : List Rq} (w : World) (h : ListE encQ 5 B w v L) (hB : B ≤ w.heap.size) (hs : SortQ L) (hl : L.length ≤ 100000) (x y : Int) (k val : ByteArray) (ver : Int) :
    Calls Tryz.prog 83 #[v, .agg #[.int .i64 x, .int .i64 y, .string k, .string val, .int .i64 ver], .func (.func 84) #[] #[]] w fun e w' => e = .returned (.tuple #[.int .i64 (posQ L x y k : Nat), .bool (hasQ L x y k)]) ∧ Below w.heap.size w w' := by
  obtain ⟨va, cap, rfl, hform⟩ := h.form
  obtain ⟨w0, hw0⟩ : ∃ w0, w0 = w.alloc (.cells #[.int .i64 x, .int .i64 y, .string k, .string val, .int .i64 ver] 55) := ⟨_, rfl⟩
  have hs0 : Since w w0 := by rw [hw0]; exact (Since.refl w).alloc _
  have wh0 : Whole w0 (w.heap.size) 55 #[.int .i64 x, .int .i64 y, .string k, .string val, .int .i64 ver] := by rw [hw0]; exact Whole.new w _ _
  have HW := Lib.hid hw0
  have c0_0 := box_cell wh0 0 (.int .i64 x) rfl
  have c0_1 := box_cell wh0 1 (.int .i64 y) rfl
  have c0_2 := box_cell wh0 2 (.string k) rfl
  have c0_3 := box_cell wh0 3 (.string val) rfl
  have c0_4 := box_cell wh0 4 (.int .i64 ver) rfl
  have hsr := Since.refl w0
  have hsd := hsr.drew
  clear hw0 wh0
  have hB0 : B ≤ w0.heap.size := Nat.le_trans hB hs0.size_
  have h0 := h.since hs0 hB
  have hpos := posQ_le L x y k
  have HP := Lib.hid (fun i (hi : i < L.length) C (hC : cmpK L[i] x y k = C) => posQ_at hs hi hC)
  have HQ := Lib.hid (fun (hp : posQ L x y k < L.length) C (hC : cmpK L[posQ L x y k] x y k = C) => hasQ_at hs hp hC)
  have HN := Lib.hid (fun (hp : ¬ posQ L x y k < L.length) => hasQ_no hs hp)
  have HL0 := Lib.hid h0
  obtain ⟨P, hP⟩ : ∃ P, posQ L x y k = P := ⟨_, rfl⟩
  obtain ⟨H, hH⟩ : ∃ H, hasQ L x y k = H := ⟨_, rfl⟩
  rw [hP] at hpos HQ HN
  rw [hP] at HP
  rw [hH] at HQ HN
  rw [hP, hH]
  have cell : ∀ W, Since w0 W → ∀ (m g : Nat) (hm : m < L.length), va = some ⟨g, 0, none⟩ → ∀ r, L[m] = r → W.cell? ⟨g, m * 5, none⟩ = some (.int .i64 r.x) ∧ W.cell? ⟨g, m * 5 + 1, none⟩ = some (.int .i64 r.y) ∧ W.cell? ⟨g, m * 5 + 2, none⟩ = some (.string r.key) ∧ W.cell? ⟨g, m * 5 + 3, none⟩ = some (.string r.val) ∧ W.cell? ⟨g, m * 5 + 4, none⟩ = some (.int .i64 r.ver) := fun W hW m g hm hg r hr => by
    subst hg
    have z := h0.since hW hB0
    have t := fun j u (hu : (encQ r)[j]? = some u) => z.at_ hm j (u := u) (by rw [hr]; exact hu)
    exact ⟨t 0 _ rfl, t 1 _ rfl, t 2 _ rfl, t 3 _ rfl, t 4 _ rfl⟩
  have HCE := Lib.hid cell
  clear hP hH h h0 hs cell
  go_enter Tryz.func83, Tryz.ntmps83
  go_wp2_with fail
  rw [← HW.out]
  go_loopw [9, 10] (fun a b wr => ∃ lo hi : Nat, a = .int .i64 lo ∧ b = .int .i64 hi ∧ lo ≤ P ∧ P ≤ hi ∧ hi ≤ L.length ∧ Since w0 wr) (fun a b _ => (intOf b).toNat - (intOf a).toNat)
  case atStart => exact ⟨0, L.length, rfl, rfl, Nat.zero_le _, hpos, Nat.le_refl _, Since.refl _⟩
  case round =>
    obtain ⟨lo, hi, rfl, rfl, h1, h2, h3, hs⟩ := hrel
    by_cases hlt : lo < hi
    · obtain ⟨m, hm⟩ : ∃ m, m = (lo + hi) / 2 := ⟨_, rfl⟩
      have hml : m < L.length := by omega
      obtain ⟨g, rfl, hg⟩ := hform m hml
      obtain ⟨r, hr⟩ : ∃ r, L[m] = r := ⟨_, rfl⟩
      obtain ⟨C, hC⟩ : ∃ C, cmpK r x y k = C := ⟨_, rfl⟩
      have hp := HP.out m hml C (by rw [hr]; exact hC)
      have HC := Lib.hid (show cmpR r.x r.y r.key.data.toList x y k.data.toList = C from hC)
      have t1 := fun W hW => (HCE.out W hW m g hml rfl r hr).1
      have t2 := fun W hW => (HCE.out W hW m g hml rfl r hr).2.1
      have t3 := fun W hW => (HCE.out W hW m g hml rfl r hr).2.2.1
      have t4 := fun W hW => (HCE.out W hW m g hml rfl r hr).2.2.2.1
      have t5 := fun W hW => (HCE.out W hW m g hml rfl r hr).2.2.2.2
      have d1 : decide ((lo : Int) < hi) = true := decide_eq_true (by omega)
      have e1 : IntKind.i64.wrap ((lo : Int) + hi) = (lo : Int) + hi := IntWalk.i64_in _ (by omega)
      have hmi : ((lo : Int) + hi) / 2 = (m : Int) := by omega
      have hlt' : (m : Int) < L.length := by omega
      have hlen : (L.length : Int) ≤ 100000 := by omega
      have e3 : IntKind.i64.wrap ((m : Int) + 1) = (m : Int) + 1 := IntWalk.i64_in _ (by omega)
      clear hr hC hm hform
      have hsd := hs.drew
      by_cases hc : C < 0
      · have d2 : decide (C < 0) = true := decide_eq_true hc
        have hp1 := hp.1 hc
        clear hp hc
        go_upto_region 5 with fail
        go_region_held3 (fun W => Since w0 W) (first | assumption | exact Since.drew (by assumption)) ((first | (go_at_call 84; (with_reducible refine (Calls.since (by assumption) (qcompare_at HC.out _)).mono ?_); rintro e w5 ⟨rfl, hb5⟩)))
        go_wp2_with fail
        go_roundw
        case rel => exact ⟨m + 1, hi, by go_num, rfl, hp1, h2, h3, hb5⟩
        case measure => simp [intOf]; omega
      · have d2 : decide (C < 0) = false := decide_eq_false hc
        have hp1 := hp.2 (by omega)
        clear hp hc
        go_upto_region 5 with fail
        go_region_held3 (fun W => Since w0 W) (first | assumption | exact Since.drew (by assumption)) ((first | (go_at_call 84; (with_reducible refine (Calls.since (by assumption) (qcompare_at HC.out _)).mono ?_); rintro e w5 ⟨rfl, hb5⟩)))
        go_wp2_with fail
        go_roundw
        case rel => exact ⟨lo, m, rfl, rfl, h1, hp1, by omega, hb5⟩
        case measure => simp [intOf]; omega
    · obtain rfl : lo = hi := by omega
      obtain rfl : lo = P := by omega
      have hsd := hs.drew
      have d1 : decide ((lo : Int) < lo) = false := decide_eq_false (by omega)
      by_cases hn : lo < L.length
      · obtain ⟨g, rfl, hg⟩ := hform lo hn
        obtain ⟨r, hr⟩ : ∃ r, L[lo] = r := ⟨_, rfl⟩
        obtain ⟨C, hC⟩ : ∃ C, cmpK r x y k = C := ⟨_, rfl⟩
        have hq := HQ.out hn C (by rw [hr]; exact hC)
        subst hq
        have HC := Lib.hid (show cmpR r.x r.y r.key.data.toList x y k.data.toList = C from hC)
        have t1 := fun W hW => (HCE.out W hW lo g hn rfl r hr).1
        have t2 := fun W hW => (HCE.out W hW lo g hn rfl r hr).2.1
        have t3 := fun W hW => (HCE.out W hW lo g hn rfl r hr).2.2.1
        have t4 := fun W hW => (HCE.out W hW lo g hn rfl r hr).2.2.2.1
        have t5 := fun W hW => (HCE.out W hW lo g hn rfl r hr).2.2.2.2
        have d2 : decide ((lo : Int) < L.length) = true := decide_eq_true (by omega)
        have hlt' : (lo : Int) < L.length := by omega
        have hlen : (L.length : Int) ≤ 100000 := by omega
        clear hr hC hform HQ HN
        go_upto_region 8 with fail
        go_region_held3 (fun W => Since w0 W) (first | assumption | exact Since.drew (by assumption)) ((first | (go_at_call 84; (with_reducible refine (Calls.since (by assumption) (qcompare_at HC.out _)).mono ?_); rintro e w5 ⟨rfl, hb5⟩)))
        go_wp2_with fail
        go_ret2
        exact ⟨rfl, hs0.trans hb5⟩
      · have d2 : decide ((lo : Int) < L.length) = false := decide_eq_false (by omega)
        obtain rfl := HN.out hn
        go_upto_region 8 with fail
        refine wp_region_held_drew (S := fun W => Since w0 W) (by kernel_rfl) hsd (fun hHeld => ?_)
        refine wpAnyH_take (i := 0) (v := ?_) rfl (by kernel_rfl) (by kernel_rfl) (by kernel_rfl) (fun _ _ _ h => h) (Or.inl ⟨by rfl, ?_⟩) (by assumption) ?_
        rotate_left 1
        · (intro W hW; clear hW; go_simp; try with_reducible rfl)
        simp only [Act.put, List.getElem_toArray, List.getElem_cons_zero, List.setIfInBounds_toArray, List.set_cons_zero, List.set_cons_succ]
        refine wpAnyH_take (i := 1) (v := ?_) rfl (by kernel_rfl) (by kernel_rfl) (by kernel_rfl) (fun _ _ _ h => h) (Or.inl ⟨by rfl, ?_⟩) (by assumption) ?_
        rotate_left 1
        · (intro W hW; clear hW; go_simp; try with_reducible rfl)
        simp only [Act.put, List.getElem_toArray, List.getElem_cons_succ, List.getElem_cons_zero, List.setIfInBounds_toArray, List.set_cons_zero, List.set_cons_succ]
        refine wpAnyH_take (i := 2) (v := ?_) rfl (by kernel_rfl) (by kernel_rfl) (by kernel_rfl) (fun _ _ _ h => h) (Or.inl ⟨by rfl, ?_⟩) (by assumption) ?_
        rotate_left 1
        · (intro W hW; clear hW; go_simp; try with_reducible rfl)
        simp only [Act.put, List.getElem_toArray, List.getElem_cons_succ, List.getElem_cons_zero, List.setIfInBounds_toArray, List.set_cons_zero, List.set_cons_succ]
        refine wpAnyH_take (i := 3) (v := ?_) rfl (by kernel_rfl) (by kernel_rfl) (by kernel_rfl) (fun _ _ _ h => h) (Or.inl ⟨by rfl, ?_⟩) (by assumption) ?_
        rotate_left 1
        · (intro W hW; clear hW; go_simp; try with_reducible rfl)
        simp only [Act.put, List.getElem_toArray, List.getElem_cons_succ, List.getElem_cons_zero, List.setIfInBounds_toArray, List.set_cons_zero, List.set_cons_succ]
        refine wpAnyH_take (i := 4) (v := ?_) rfl (by kernel_rfl) (by kernel_rfl) (by kernel_rfl) (fun _ _ _ h => h) (Or.inl ⟨by rfl, ?_⟩) (by assumption) ?_
        rotate_left 1
        · (intro W hW; clear hW; go_simp; try with_reducible rfl)
        simp only [Act.put, List.getElem_toArray, List.getElem_cons_succ, List.getElem_cons_zero, List.setIfInBounds_toArray, List.set_cons_zero, List.set_cons_succ]
        refine wpAnyH_take (i := 5) (v := undef) rfl (by kernel_rfl) (by kernel_rfl) (by kernel_rfl) (fun _ _ _ h => h) (Or.inr ⟨by rfl, rfl⟩) (by assumption) ?_
        simp only [Act.put, List.getElem_toArray, List.getElem_cons_succ, List.getElem_cons_zero, List.setIfInBounds_toArray, List.set_cons_zero, List.set_cons_succ]
        refine wpAnyH_take (i := 6) (v := undef) rfl (by kernel_rfl) (by kernel_rfl) (by kernel_rfl) (fun _ _ _ h => h) (Or.inr ⟨by rfl, rfl⟩) (by assumption) ?_
        simp only [Act.put, List.getElem_toArray, List.getElem_cons_succ, List.getElem_cons_zero, List.setIfInBounds_toArray, List.set_cons_zero, List.set_cons_succ]
        refine wpAnyH_take (i := 7) (v := undef) rfl (by kernel_rfl) (by kernel_rfl) (by kernel_rfl) (fun _ _ _ h => h) (Or.inr ⟨by rfl, rfl⟩) (by assumption) ?_
        simp only [Act.put, List.getElem_toArray, List.getElem_cons_succ, List.getElem_cons_zero, List.setIfInBounds_toArray, List.set_cons_zero, List.set_cons_succ]
        refine wpAnyH_take (i := 8) (v := undef) rfl (by kernel_rfl) (by kernel_rfl) (by kernel_rfl) (fun _ _ _ h => h) (Or.inr ⟨by rfl, rfl⟩) (by assumption) ?_
        simp only [Act.put, List.getElem_toArray, List.getElem_cons_succ, List.getElem_cons_zero, List.setIfInBounds_toArray, List.set_cons_zero, List.set_cons_succ]
        refine wpAnyH_take (i := 9) (v := undef) rfl (by kernel_rfl) (by kernel_rfl) (by kernel_rfl) (fun _ _ _ h => h) (Or.inr ⟨by rfl, rfl⟩) (by assumption) ?_
        simp only [Act.put, List.getElem_toArray, List.getElem_cons_succ, List.getElem_cons_zero, List.setIfInBounds_toArray, List.set_cons_zero, List.set_cons_succ]
        refine wpAnyH_take (i := 10) (v := undef) rfl (by kernel_rfl) (by kernel_rfl) (by kernel_rfl) (fun _ _ _ h => h) (Or.inr ⟨by rfl, rfl⟩) (by assumption) ?_
        simp only [Act.put, List.getElem_toArray, List.getElem_cons_succ, List.getElem_cons_zero, List.setIfInBounds_toArray, List.set_cons_zero, List.set_cons_succ]
        refine wpAnyH_take (i := 11) (v := undef) rfl (by kernel_rfl) (by kernel_rfl) (by kernel_rfl) (fun _ _ _ h => h) (Or.inr ⟨by rfl, rfl⟩) (by assumption) ?_
        simp only [Act.put, List.getElem_toArray, List.getElem_cons_succ, List.getElem_cons_zero, List.setIfInBounds_toArray, List.set_cons_zero, List.set_cons_succ]
        refine wpAnyH_take (i := 12) (v := undef) rfl (by kernel_rfl) (by kernel_rfl) (by kernel_rfl) (fun _ _ _ h => h) (Or.inr ⟨by rfl, rfl⟩) (by assumption) ?_
        simp only [Act.put, List.getElem_toArray, List.getElem_cons_succ, List.getElem_cons_zero, List.setIfInBounds_toArray, List.set_cons_zero, List.set_cons_succ]
        refine wpAnyH_take (i := 13) (v := ?_) rfl (by kernel_rfl) (by kernel_rfl) (by kernel_rfl) (fun _ _ _ h => h) (Or.inl ⟨by rfl, ?_⟩) (by assumption) ?_
        rotate_left 1
        · (intro W hW; clear hW; go_simp; try with_reducible rfl)
        simp only [Act.put, List.getElem_toArray, List.getElem_cons_succ, List.getElem_cons_zero, List.setIfInBounds_toArray, List.set_cons_zero, List.set_cons_succ]
        refine wpAnyH_take (i := 14) (v := ?_) rfl (by kernel_rfl) (by kernel_rfl) (by kernel_rfl) (fun _ _ _ h => h) (Or.inl ⟨by rfl, ?_⟩) (by assumption) ?_
        rotate_left 1
        · (intro W hW; clear hW; go_simp; try with_reducible rfl)
        simp only [Act.put, List.getElem_toArray, List.getElem_cons_succ, List.getElem_cons_zero, List.setIfInBounds_toArray, List.set_cons_zero, List.set_cons_succ]
        refine wpAnyH_take (i := 15) (v := ?_) rfl (by kernel_rfl) (by kernel_rfl) (by kernel_rfl) (fun _ _ _ h => h) (Or.inl ⟨by rfl, ?_⟩) (by assumption) ?_
        rotate_left 1
        · (intro W hW; clear hW; go_simp; try with_reducible rfl)
        simp only [Act.put, List.getElem_toArray, List.getElem_cons_succ, List.getElem_cons_zero, List.setIfInBounds_toArray, List.set_cons_zero, List.set_cons_succ]
        refine wpAnyH_done (by kernel_rfl) ?_ _
        go_wp2_with fail
        go_ret2
        exact ⟨rfl, hs0.trans hsd⟩
end Go.Proofs.YthfhpejpjiaikaaGreat
