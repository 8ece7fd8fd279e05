/- slices.Grow of no slice, slices.Concat of two: of numbers. -/
import Derived.Test.YtimmnmidhjbanaaDoorK15
import Derived.Test.YtimmnmidhjbanaaDoorK16
import Derived.Test.YtimmnmidhjbanaaDoorK19
import Derived.Lib.AppendZeros
namespace Go.Proofs.YtimmnmidhjbanaaDoor
open Go.RowKit
attribute [local go_sem] Oper.semAt_some
set_option linter.unusedVariables false
set_option linter.unusedSimpArgs false
set_option maxRecDepth 100000 in
set_option maxHeartbeats 1600000 in
theorem grow_nilZ (n : Nat) (hn : n ≤ 1000) (w : World) : Calls Tryd.prog 88 #[.slice none 0 0, .int .i64 (n : Nat)] w fun e w' => ∃ v, e = .returned v ∧ RowE encZ 1 w' w.heap.size 3 v [] ∧ Below w.heap.size w w' := by
  by_cases h0 : n = 0
  · subst h0
    go_enter Tryd.func88, Tryd.ntmps88
    go_wp2
    go_ret
    exact ⟨_, rfl, RowE.nil _ _ _, Since.refl w⟩
  · obtain ⟨i0, hi0, hz0, hz1, hz2⟩ := info_parts infoZ
    have h1 : ¬ ((n : Int) < 0) := by omega
    have h2 : IntKind.i64.wrap ((n : Int) - 0) = (n : Int) := by rw [Int.sub_zero]; exact IntWalk.i64_in _ (by omega)
    have h4 : (n : Int) > 0 := by omega
    obtain ⟨C0, hC0⟩ : ∃ C0, C0 = grownCap w n 0 3 := ⟨_, rfl⟩
    have hge : n ≤ C0 := by rw [hC0]; exact grownCap_ge w n 0 _
    have hle : C0 ≤ maxLen := by rw [hC0]; exact grownCap_le_maxLen w n 0 _ (Nat.le_trans hn (by decide))
    have hr : ∀ ty, (Builtin.append_ #[26, 3] ty #[.slice none 0 0, .int .i64 (n : Nat)]).run Tryd.prog w = _ := fun ty =>
      Lib.run_append_nil_zeros w 26 3 ty 3 i0 _ .i64 .i64 Tryd.underlying26 Tryd.underlying3 hi0 hz0 n (by omega) (by rw [hz1]; decide) (by omega) (by rw [hz2]; omega)
    rw [← hC0] at hr
    have hC63 : (C0 : Int) ≤ 9223372036854775807 := by unfold maxLen at hle; omega
    have hnC : (0 : Int) ≤ C0 := by omega
    obtain ⟨Y, hY⟩ : ∃ Y, Y = Builtin.zeroCells (Value.int .i64 0).cells n ++ Builtin.zeroCells (Value.int .i64 0).cells (C0 - n) := ⟨_, rfl⟩
    have hYl : Y.size = C0 * 1 := by
      rw [hY, Array.size_append, size_zeroCells, size_zeroCells]
      show n * 1 + (C0 - n) * 1 = _
      omega
    rw [← hY] at hr
    have hgw : (w.drew.alloc (.cells Y 3)).heap[w.heap.size]? = some (.cells Y 3 (0, 0)) := heap_alloc_new w.drew _
    have hsw : Since w (w.drew.alloc (.cells Y 3)) := (Since.refl w).drew.alloc _
    generalize w.drew.alloc (.cells Y 3) = w1 at hr hgw hsw
    have HR := Lib.hid hr
    have HF := Lib.hid (And.intro hgw hsw)
    have hCm : (C0 : Int) ≤ maxLen := by omega
    clear hr hgw hsw hY hC0 hi0 hz0 hz1 hz2
    go_enter Tryd.func88, Tryd.ntmps88
    go_wp2_with (at_builtin; refine Lib.wpList_append_run w rfl _ _ 26 3 rfl _ _ rfl rfl _ _ (HR.out _) ?_)
    go_ret
    refine ⟨_, rfl, ?_, HF.out.2⟩
    exact RowE.of (enc := encZ) (n := 1) (l := []) (S := Y.toList) (Nat.le_refl _) (by simpa using HF.out.1) (Nat.zero_le _) hle rfl (by simpa using hYl)
set_option maxRecDepth 100000 in
set_option maxHeartbeats 3200000 in
theorem concat_twoZ {B g : Nat} {va vb : Value} {LA LB : List Int} {w : World} (hA : LZ B w va LA) (hB : LZ B w vb LB) (hBw : B ≤ w.heap.size) (hg : Whole w g 26 #[va, vb]) (hla : LA.length ≤ 500) (hlb : LB.length ≤ 500) :
    Calls Tryd.prog 70 #[.slice (some ⟨g, 0, none⟩) 2 2] w fun e w' => ∃ v, e = .returned v ∧ RowE encZ 1 w' w.heap.size 3 v (LA ++ LB) ∧ Below w.heap.size w w' := by
  obtain ⟨xa, ca, rfl, -⟩ := hA.form
  obtain ⟨xb, cb, rfl, -⟩ := hB.form
  obtain ⟨na, hna⟩ : ∃ n, LA.length = n := ⟨_, rfl⟩
  obtain ⟨nb, hnb⟩ : ∃ n, LB.length = n := ⟨_, rfl⟩
  have HPA := Lib.hid (fun W (hW : Since w W) => (hA.since hW hBw).part)
  have HPB := Lib.hid (fun W (hW : Since w W) => (hB.since hW hBw).part)
  have c0 := fun W (hW : Since w W) => (Since.whole hW hg).cell 0
  have c1 := fun W (hW : Since w W) => (Since.whole hW hg).cell 1
  rw [hna] at HPA hla
  rw [hnb] at HPB hlb
  simp only [hna, hnb] at c0 c1
  have HNA := Lib.hid hna
  have HNB := Lib.hid hnb
  have hgr := fun W => grow_nilZ (na + nb) (by omega) W
  rw [Int.natCast_add] at hgr
  have HG := Lib.hid hgr
  have hsr := Since.refl w
  have d0 := c0 w hsr
  have d1 := c1 w hsr
  clear hA hB hg hna hnb hgr
  go_enter Tryd.func70, Tryd.ntmps70
  go_wp2_with fail
  go_loopw [3, 11] (fun s i wr => wr = w ∧ ∃ k S : Nat, i = .int .i64 (k : Int) ∧ s = .int .i64 (S : Int) ∧ ((k = 0 ∧ S = 0) ∨ (k = 1 ∧ S = na) ∨ (k = 2 ∧ S = na + nb))) (fun _ i _ => 2 - (intOf i).toNat)
  case atStart => exact ⟨rfl, 0, 0, rfl, rfl, .inl ⟨rfl, rfl⟩⟩
  case round =>
    obtain ⟨rfl, k, S, rfl, rfl, hks⟩ := hrel
    rcases hks with ⟨rfl, rfl⟩ | ⟨rfl, rfl⟩ | ⟨rfl, rfl⟩
    · have e1 : IntKind.i64.wrap ((0 : Int) + (na : Int)) = (na : Int) := by rw [Int.zero_add]; exact IntWalk.i64_in _ (by omega)
      have e2 : ¬ ((na : Int) < 0) := by omega
      go_wp2
      go_roundw
      case rel => exact ⟨by first | trivial | rfl, 1, na, by go_num, by go_num, .inr (.inl ⟨rfl, rfl⟩)⟩
      case measure => simp [intOf]
    · have e1 : IntKind.i64.wrap ((S : Int) + (nb : Int)) = ((S + nb : Nat) : Int) := IntWalk.i64_in _ (by omega)
      have e2 : ¬ (((S + nb : Nat) : Int) < 0) := by omega
      go_wp2
      go_roundw
      case rel => exact ⟨by first | trivial | rfl, 2, S + nb, by go_num, by go_num, .inr (.inr ⟨rfl, rfl⟩)⟩
      case measure => simp [intOf]
    · go_wp2_with (go_at_call 88; (with_reducible refine (HG.out _).mono ?_); rintro e w2 ⟨v2, rfl, hr2, hb2⟩)
      obtain ⟨w3, hw3⟩ : ∃ x, x = wr := ⟨_, rfl⟩
      subst hw3
      have hs2 : Since w3 w2 := hb2
      clear d0 d1 hsr hb2
      go_loopw [6, 27] (fun v i wr => Since w3 wr ∧ ∃ k : Nat, i = .int .i64 (k : Int) ∧ ((k = 0 ∧ RowE encZ 1 wr w3.heap.size 3 v []) ∨ (k = 1 ∧ RowE encZ 1 wr w3.heap.size 3 v LA) ∨ (k = 2 ∧ RowE encZ 1 wr w3.heap.size 3 v (LA ++ LB)))) (fun _ i _ => 2 - (intOf i).toNat)
      case atStart => exact ⟨hs2, 0, rfl, .inl ⟨rfl, hr2⟩⟩
      case round =>
        obtain ⟨hwr, k, rfl, hks⟩ := hrel
        rcases hks with ⟨rfl, hrow⟩ | ⟨rfl, hrow⟩ | ⟨rfl, hrow⟩
        · have d0 := c0 wr hwr
          obtain ⟨xv, cv, rfl⟩ := RowE.shape2 hrow
          go_wp2_with (at_builtin; refine wpList_append_part rfl _ _ 26 rfl w3.heap.size 3 _ 8 Tryd.underlying26 infoZ rfl (by decide) hrow (HPA.out _ hwr) encZ_len encZ_one rfl rfl (by rw [HNA.out, List.length_nil]; omega) (by decide) hwr.size_ ?_; intro v' w7 hrow7 hoff7)
          go_roundw
          case rel => exact ⟨Below.trans hwr (hoff7.below (B := w3.heap.size) hwr.size_ (fun b e => (hrow.own b e).1)), 1, by go_num, .inr (.inl ⟨rfl, hrow7⟩)⟩
          case measure => simp [intOf]
        · have d1 := c1 wr hwr
          obtain ⟨xv, cv, rfl⟩ := RowE.shape2 hrow
          go_wp2_with (at_builtin; refine wpList_append_part rfl _ _ 26 rfl w3.heap.size 3 _ 8 Tryd.underlying26 infoZ rfl (by decide) hrow (HPB.out _ hwr) encZ_len encZ_one rfl rfl (by rw [HNA.out, HNB.out]; omega) (by decide) hwr.size_ ?_; intro v' w7 hrow7 hoff7)
          go_roundw
          case rel => exact ⟨Below.trans hwr (hoff7.below (B := w3.heap.size) hwr.size_ (fun b e => (hrow.own b e).1)), 2, by go_num, .inr (.inr ⟨rfl, hrow7⟩)⟩
          case measure => simp [intOf]
        · have HX := Lib.hid (And.intro hrow hwr)
          clear hrow hwr
          go_wp2
          go_ret
          exact ⟨_, rfl, HX.out.1, HX.out.2⟩
end Go.Proofs.YtimmnmidhjbanaaDoor
