/- slices.Grow of no slice, slices.Concat of two: of records. -/
import Derived.Test.YthfhpejpjiaikaaGreatK03
import Derived.Test.YthfhpejpjiaikaaGreatK07
import Derived.Test.YthfhpejpjiaikaaGreatK08
import Derived.Lib.AppendZeros
namespace Go.Proofs.YthfhpejpjiaikaaGreat
open Go.RowKit
attribute [local go_sem] Oper.semAt_some
set_option linter.unusedVariables false
set_option linter.unusedSimpArgs false
set_option maxRecDepth 100000 in
set_option maxHeartbeats 1600000 in
theorem grow_nil (n : Nat) (hn : n ≤ 1000) (w : World) : Calls Tryz.prog 56 #[.slice none 0 0, .int .i64 (n : Nat)] w fun e w' => ∃ v, e = .returned v ∧ RowE encQ 5 w' w.heap.size 55 v [] ∧ Below w.heap.size w w' := by
  by_cases h0 : n = 0
  · subst h0
    go_enter Tryz.func56, Tryz.ntmps56
    go_wp2
    go_ret
    exact ⟨_, rfl, RowE.nil _ _ _, Since.refl w⟩
  · obtain ⟨i0, hi0, hz0, hz1, hz2⟩ := info_parts infoRec
    have h1 : ¬ ((n : Int) < 0) := by omega
    have h2 : IntKind.i64.wrap ((n : Int) - 0) = (n : Int) := by rw [Int.sub_zero]; exact IntWalk.i64_in _ (by omega)
    have h4 : (n : Int) > 0 := by omega
    obtain ⟨C0, hC0⟩ : ∃ C0, C0 = grownCap w n 0 55 := ⟨_, rfl⟩
    have hge : n ≤ C0 := by rw [hC0]; exact grownCap_ge w n 0 _
    have hle : C0 ≤ maxLen := by rw [hC0]; exact grownCap_le_maxLen w n 0 _ (Nat.le_trans hn (by decide))
    have hr : ∀ ty, (Builtin.append_ #[31, 3] ty #[.slice none 0 0, .int .i64 (n : Nat)]).run Tryz.prog w = _ := fun ty =>
      Lib.run_append_nil_zeros w 31 3 ty 55 i0 _ .i64 .i64 Tryz.underlying31 Tryz.underlying3 hi0 hz0 n (by omega) (by rw [hz1]; decide) (by omega) (by rw [hz2]; omega)
    rw [← hC0] at hr
    have hC63 : (C0 : Int) ≤ 9223372036854775807 := by unfold maxLen at hle; omega
    have hnC : (0 : Int) ≤ C0 := by omega
    obtain ⟨Y, hY⟩ : ∃ Y, Y = Builtin.zeroCells (Value.agg #[.int .i64 0, .int .i64 0, .string ⟨#[]⟩, .string ⟨#[]⟩, .int .i64 0]).cells n ++ Builtin.zeroCells (Value.agg #[.int .i64 0, .int .i64 0, .string ⟨#[]⟩, .string ⟨#[]⟩, .int .i64 0]).cells (C0 - n) := ⟨_, rfl⟩
    have hYl : Y.size = C0 * 5 := by
      rw [hY, Array.size_append, size_zeroCells, size_zeroCells]
      show n * 5 + (C0 - n) * 5 = _
      omega
    rw [← hY] at hr
    have hgw : (w.drew.alloc (.cells Y 55)).heap[w.heap.size]? = some (.cells Y 55 (0, 0)) := heap_alloc_new w.drew _
    have hsw : Since w (w.drew.alloc (.cells Y 55)) := (Since.refl w).drew.alloc _
    generalize w.drew.alloc (.cells Y 55) = w1 at hr hgw hsw
    have HR := Lib.hid hr
    have HF := Lib.hid (And.intro hgw hsw)
    have hCm : (C0 : Int) ≤ maxLen := by omega
    clear hr hgw hsw hY hC0 hi0 hz0 hz1 hz2
    go_enter Tryz.func56, Tryz.ntmps56
    go_wp2_with (at_builtin; refine Lib.wpList_append_run w rfl _ _ 31 3 rfl _ _ rfl rfl _ _ (HR.out _) ?_)
    go_ret
    refine ⟨_, rfl, ?_, HF.out.2⟩
    exact RowE.of (enc := encQ) (n := 5) (l := []) (S := Y.toList) (Nat.le_refl _) (by simpa using HF.out.1) (Nat.zero_le _) hle rfl (by simpa using hYl)
theorem ListE.part {B : Nat} {W : World} {v : Value} {l : List Rq} (h : ListE encQ 5 B W v l) : PartE encQ W v l := by
  rcases h with ⟨rfl, rfl⟩ | ⟨g, cap, rfl, hlt, hc⟩
  · exact .inl ⟨rfl, rfl⟩
  · refine .inr ⟨⟨g, 0, none⟩, cap, rfl, fun j u hu => ?_⟩
    have hj := (List.getElem?_eq_some_iff.1 hu).1
    rw [rows_len encQ_len] at hj
    have hi : j / 5 < l.length := by omega
    have hlen : j % 5 < (encQ l[j / 5]).length := by rw [encQ_len]; omega
    have e1 : (encQ l[j / 5])[j % 5]? = some ((encQ l[j / 5])[j % 5]) := List.getElem?_eq_getElem hlen
    have e2 := enc_get encQ_len l (j / 5) hi (j % 5) _ e1
    rw [show j / 5 * 5 + j % 5 = j by omega, hu] at e2
    have e3 := hc (j / 5) hi (j % 5) _ e1
    rw [show j / 5 * 5 + j % 5 = j by omega] at e3
    rw [add_at, e3]
    exact e2.symm
set_option maxRecDepth 100000 in
set_option maxHeartbeats 3200000 in
theorem concat_two {B g : Nat} {va vb : Value} {LA LB : List Rq} {w : World} (hA : ListE encQ 5 B w va LA) (hB : ListE encQ 5 B w vb LB) (hBw : B ≤ w.heap.size) (hg : Whole w g 31 #[va, vb]) (hla : LA.length ≤ 500) (hlb : LB.length ≤ 500) :
    Calls Tryz.prog 30 #[.slice (some ⟨g, 0, none⟩) 2 2] w fun e w' => ∃ v, e = .returned v ∧ RowE encQ 5 w' w.heap.size 55 v (LA ++ LB) ∧ Below w.heap.size w w' := by
  obtain ⟨xa, ca, rfl, -⟩ := hA.form
  obtain ⟨xb, cb, rfl, -⟩ := hB.form
  obtain ⟨na, hna⟩ : ∃ n, LA.length = n := ⟨_, rfl⟩
  obtain ⟨nb, hnb⟩ : ∃ n, LB.length = n := ⟨_, rfl⟩
  have HPA := Lib.hid (fun W (hW : Since w W) => (hA.since hW hBw).part)
  have HPB := Lib.hid (fun W (hW : Since w W) => (hB.since hW hBw).part)
  have c0 := fun W (hW : Since w W) => (Since.whole hW hg).cell 0
  have c1 := fun W (hW : Since w W) => (Since.whole hW hg).cell 1
  rw [hna] at HPA hla
  rw [hnb] at HPB hlb
  simp only [hna, hnb] at c0 c1
  have HNA := Lib.hid hna
  have HNB := Lib.hid hnb
  have hgr := fun W => grow_nil (na + nb) (by omega) W
  rw [Int.natCast_add] at hgr
  have HG := Lib.hid hgr
  have hsr := Since.refl w
  have d0 := c0 w hsr
  have d1 := c1 w hsr
  clear hA hB hg hna hnb hgr
  go_enter Tryz.func30, Tryz.ntmps30
  go_wp2_with fail
  go_loopw [3, 11] (fun s i wr => wr = w ∧ ∃ k S : Nat, i = .int .i64 (k : Int) ∧ s = .int .i64 (S : Int) ∧ ((k = 0 ∧ S = 0) ∨ (k = 1 ∧ S = na) ∨ (k = 2 ∧ S = na + nb))) (fun _ i _ => 2 - (intOf i).toNat)
  case atStart => exact ⟨rfl, 0, 0, rfl, rfl, .inl ⟨rfl, rfl⟩⟩
  case round =>
    obtain ⟨rfl, k, S, rfl, rfl, hks⟩ := hrel
    rcases hks with ⟨rfl, rfl⟩ | ⟨rfl, rfl⟩ | ⟨rfl, rfl⟩
    · have e1 : IntKind.i64.wrap ((0 : Int) + (na : Int)) = (na : Int) := by rw [Int.zero_add]; exact IntWalk.i64_in _ (by omega)
      have e2 : ¬ ((na : Int) < 0) := by omega
      go_wp2
      go_roundw
      case rel => exact ⟨by first | trivial | rfl, 1, na, by go_num, by go_num, .inr (.inl ⟨rfl, rfl⟩)⟩
      case measure => simp [intOf]
    · have e1 : IntKind.i64.wrap ((S : Int) + (nb : Int)) = ((S + nb : Nat) : Int) := IntWalk.i64_in _ (by omega)
      have e2 : ¬ (((S + nb : Nat) : Int) < 0) := by omega
      go_wp2
      go_roundw
      case rel => exact ⟨by first | trivial | rfl, 2, S + nb, by go_num, by go_num, .inr (.inr ⟨rfl, rfl⟩)⟩
      case measure => simp [intOf]
    · go_wp2_with (go_at_call 56; (with_reducible refine (HG.out _).mono ?_); rintro e w2 ⟨v2, rfl, hr2, hb2⟩)
      obtain ⟨w3, hw3⟩ : ∃ x, x = wr := ⟨_, rfl⟩
      subst hw3
      have hs2 : Since w3 w2 := hb2
      clear d0 d1 hsr hb2
      go_loopw [6, 27] (fun v i wr => Since w3 wr ∧ ∃ k : Nat, i = .int .i64 (k : Int) ∧ ((k = 0 ∧ RowE encQ 5 wr w3.heap.size 55 v []) ∨ (k = 1 ∧ RowE encQ 5 wr w3.heap.size 55 v LA) ∨ (k = 2 ∧ RowE encQ 5 wr w3.heap.size 55 v (LA ++ LB)))) (fun _ i _ => 2 - (intOf i).toNat)
      case atStart => exact ⟨hs2, 0, rfl, .inl ⟨rfl, hr2⟩⟩
      case round =>
        obtain ⟨hwr, k, rfl, hks⟩ := hrel
        rcases hks with ⟨rfl, hrow⟩ | ⟨rfl, hrow⟩ | ⟨rfl, hrow⟩
        · have d0 := c0 wr hwr
          obtain ⟨xv, cv, rfl⟩ := RowE.shape2 hrow
          go_wp2_with (at_builtin; refine wpList_append_part rfl _ _ 31 rfl w3.heap.size 55 _ 56 Tryz.underlying31 infoRec rfl (by decide) hrow (HPA.out _ hwr) encQ_len (fun r u hu => by simp [encQ] at hu; rcases hu with rfl | rfl | rfl | rfl | rfl <;> rfl) rfl rfl (by rw [HNA.out, List.length_nil]; omega) (by decide) hwr.size_ ?_; intro v' w7 hrow7 hoff7)
          go_roundw
          case rel => exact ⟨Below.trans hwr (hoff7.below (B := w3.heap.size) hwr.size_ (fun b e => (hrow.own b e).1)), 1, by go_num, .inr (.inl ⟨rfl, hrow7⟩)⟩
          case measure => simp [intOf]
        · have d1 := c1 wr hwr
          obtain ⟨xv, cv, rfl⟩ := RowE.shape2 hrow
          go_wp2_with (at_builtin; refine wpList_append_part rfl _ _ 31 rfl w3.heap.size 55 _ 56 Tryz.underlying31 infoRec rfl (by decide) hrow (HPB.out _ hwr) encQ_len (fun r u hu => by simp [encQ] at hu; rcases hu with rfl | rfl | rfl | rfl | rfl <;> rfl) rfl rfl (by rw [HNA.out, HNB.out]; omega) (by decide) hwr.size_ ?_; intro v' w7 hrow7 hoff7)
          go_roundw
          case rel => exact ⟨Below.trans hwr (hoff7.below (B := w3.heap.size) hwr.size_ (fun b e => (hrow.own b e).1)), 2, by go_num, .inr (.inr ⟨rfl, hrow7⟩)⟩
          case measure => simp [intOf]
        · have HX := Lib.hid (And.intro hrow hwr)
          clear hrow hwr
          go_wp2
          go_ret
          exact ⟨_, rfl, HX.out.1, HX.out.2⟩
end Go.Proofs.YthfhpejpjiaikaaGreat
