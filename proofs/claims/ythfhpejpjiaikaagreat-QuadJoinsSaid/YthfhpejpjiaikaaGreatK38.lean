/- slices.Grow of no slice, slices.Concat of two: of records. quad.Tree's Join of two made trees, the one beside the other. -/
import Derived.Test.YthfhpejpjiaikaaGreatK05
import Derived.Test.YthfhpejpjiaikaaGreatK09
import Derived.Test.YthfhpejpjiaikaaGreatK10
import Derived.Test.YthfhpejpjiaikaaGreatK11
import Derived.Test.YthfhpejpjiaikaaGreatK30
import Derived.Test.YthfhpejpjiaikaaGreatK33
import Derived.Lib.AppendZeros
namespace Go.Proofs.YthfhpejpjiaikaaGreat
open Go.RowKit
attribute [local go_sem] Oper.semAt_some
set_option linter.unusedVariables false
set_option linter.unusedSimpArgs false
set_option maxRecDepth 100000 in
set_option maxHeartbeats 1600000 in
theorem grow_nil (n : Nat) (hn : n ≤ 1000) (w : World) : Calls Tryz.prog 56 #[.slice none 0 0, .int .i64 (n : Nat)] w fun e w' => ∃ v, e = .returned v ∧ RowE encQ 5 w' w.heap.size 55 v [] ∧ Below w.heap.size w w' := by
  by_cases h0 : n = 0
  · subst h0
    go_enter Tryz.func56, Tryz.ntmps56
    go_wp2
    go_ret
    exact ⟨_, rfl, RowE.nil _ _ _, Since.refl w⟩
  · obtain ⟨i0, hi0, hz0, hz1, hz2⟩ := info_parts infoRec
    have h1 : ¬ ((n : Int) < 0) := by omega
    have h2 : IntKind.i64.wrap ((n : Int) - 0) = (n : Int) := by rw [Int.sub_zero]; exact IntWalk.i64_in _ (by omega)
    have h4 : (n : Int) > 0 := by omega
    obtain ⟨C0, hC0⟩ : ∃ C0, C0 = grownCap w n 0 55 := ⟨_, rfl⟩
    have hge : n ≤ C0 := by rw [hC0]; exact grownCap_ge w n 0 _
    have hle : C0 ≤ maxLen := by rw [hC0]; exact grownCap_le_maxLen w n 0 _ (Nat.le_trans hn (by decide))
    have hr : ∀ ty, (Builtin.append_ #[31, 3] ty #[.slice none 0 0, .int .i64 (n : Nat)]).run Tryz.prog w = _ := fun ty =>
      Lib.run_append_nil_zeros w 31 3 ty 55 i0 _ .i64 .i64 Tryz.underlying31 Tryz.underlying3 hi0 hz0 n (by omega) (by rw [hz1]; decide) (by omega) (by rw [hz2]; omega)
    rw [← hC0] at hr
    have hC63 : (C0 : Int) ≤ 9223372036854775807 := by unfold maxLen at hle; omega
    have hnC : (0 : Int) ≤ C0 := by omega
    obtain ⟨Y, hY⟩ : ∃ Y, Y = Builtin.zeroCells (Value.agg #[.int .i64 0, .int .i64 0, .string ⟨#[]⟩, .string ⟨#[]⟩, .int .i64 0]).cells n ++ Builtin.zeroCells (Value.agg #[.int .i64 0, .int .i64 0, .string ⟨#[]⟩, .string ⟨#[]⟩, .int .i64 0]).cells (C0 - n) := ⟨_, rfl⟩
    have hYl : Y.size = C0 * 5 := by
      rw [hY, Array.size_append, size_zeroCells, size_zeroCells]
      show n * 5 + (C0 - n) * 5 = _
      omega
    rw [← hY] at hr
    have hgw : (w.drew.alloc (.cells Y 55)).heap[w.heap.size]? = some (.cells Y 55 (0, 0)) := heap_alloc_new w.drew _
    have hsw : Since w (w.drew.alloc (.cells Y 55)) := (Since.refl w).drew.alloc _
    generalize w.drew.alloc (.cells Y 55) = w1 at hr hgw hsw
    have HR := Lib.hid hr
    have HF := Lib.hid (And.intro hgw hsw)
    have hCm : (C0 : Int) ≤ maxLen := by omega
    clear hr hgw hsw hY hC0 hi0 hz0 hz1 hz2
    go_enter Tryz.func56, Tryz.ntmps56
    go_wp2_with (at_builtin; refine Lib.wpList_append_run w rfl _ _ 31 3 rfl _ _ rfl rfl _ _ (HR.out _) ?_)
    go_ret
    refine ⟨_, rfl, ?_, HF.out.2⟩
    exact RowE.of (enc := encQ) (n := 5) (l := []) (S := Y.toList) (Nat.le_refl _) (by simpa using HF.out.1) (Nat.zero_le _) hle rfl (by simpa using hYl)
theorem ListE.part {B : Nat} {W : World} {v : Value} {l : List Rq} (h : ListE encQ 5 B W v l) : PartE encQ W v l := by
  rcases h with ⟨rfl, rfl⟩ | ⟨g, cap, rfl, hlt, hc⟩
  · exact .inl ⟨rfl, rfl⟩
  · refine .inr ⟨⟨g, 0, none⟩, cap, rfl, fun j u hu => ?_⟩
    have hj := (List.getElem?_eq_some_iff.1 hu).1
    rw [rows_len encQ_len] at hj
    have hi : j / 5 < l.length := by omega
    have hlen : j % 5 < (encQ l[j / 5]).length := by rw [encQ_len]; omega
    have e1 : (encQ l[j / 5])[j % 5]? = some ((encQ l[j / 5])[j % 5]) := List.getElem?_eq_getElem hlen
    have e2 := enc_get encQ_len l (j / 5) hi (j % 5) _ e1
    rw [show j / 5 * 5 + j % 5 = j by omega, hu] at e2
    have e3 := hc (j / 5) hi (j % 5) _ e1
    rw [show j / 5 * 5 + j % 5 = j by omega] at e3
    rw [add_at, e3]
    exact e2.symm
set_option maxRecDepth 100000 in
set_option maxHeartbeats 3200000 in
theorem concat_two {B g : Nat} {va vb : Value} {LA LB : List Rq} {w : World} (hA : ListE encQ 5 B w va LA) (hB : ListE encQ 5 B w vb LB) (hBw : B ≤ w.heap.size) (hg : Whole w g 31 #[va, vb]) (hla : LA.length ≤ 500) (hlb : LB.length ≤ 500) :
    Calls Tryz.prog 30 #[.slice (some ⟨g, 0, none⟩) 2 2] w fun e w' => ∃ v, e = .returned v ∧ RowE encQ 5 w' w.heap.size 55 v (LA ++ LB) ∧ Below w.heap.size w w' := by
  obtain ⟨xa, ca, rfl, -⟩ := hA.form
  obtain ⟨xb, cb, rfl, -⟩ := hB.form
  obtain ⟨na, hna⟩ : ∃ n, LA.length = n := ⟨_, rfl⟩
  obtain ⟨nb, hnb⟩ : ∃ n, LB.length = n := ⟨_, rfl⟩
  have HPA := Lib.hid (fun W (hW : Since w W) => (hA.since hW hBw).part)
  have HPB := Lib.hid (fun W (hW : Since w W) => (hB.since hW hBw).part)
  have c0 := fun W (hW : Since w W) => (Since.whole hW hg).cell 0
  have c1 := fun W (hW : Since w W) => (Since.whole hW hg).cell 1
  rw [hna] at HPA hla
  rw [hnb] at HPB hlb
  simp only [hna, hnb] at c0 c1
  have HNA := Lib.hid hna
  have HNB := Lib.hid hnb
  have hgr := fun W => grow_nil (na + nb) (by omega) W
  rw [Int.natCast_add] at hgr
  have HG := Lib.hid hgr
  have hsr := Since.refl w
  have d0 := c0 w hsr
  have d1 := c1 w hsr
  clear hA hB hg hna hnb hgr
  go_enter Tryz.func30, Tryz.ntmps30
  go_wp2_with fail
  go_loopw [3, 11] (fun s i wr => wr = w ∧ ∃ k S : Nat, i = .int .i64 (k : Int) ∧ s = .int .i64 (S : Int) ∧ ((k = 0 ∧ S = 0) ∨ (k = 1 ∧ S = na) ∨ (k = 2 ∧ S = na + nb))) (fun _ i _ => 2 - (intOf i).toNat)
  case atStart => exact ⟨rfl, 0, 0, rfl, rfl, .inl ⟨rfl, rfl⟩⟩
  case round =>
    obtain ⟨rfl, k, S, rfl, rfl, hks⟩ := hrel
    rcases hks with ⟨rfl, rfl⟩ | ⟨rfl, rfl⟩ | ⟨rfl, rfl⟩
    · have e1 : IntKind.i64.wrap ((0 : Int) + (na : Int)) = (na : Int) := by rw [Int.zero_add]; exact IntWalk.i64_in _ (by omega)
      have e2 : ¬ ((na : Int) < 0) := by omega
      go_wp2
      go_roundw
      case rel => exact ⟨by first | trivial | rfl, 1, na, by go_num, by go_num, .inr (.inl ⟨rfl, rfl⟩)⟩
      case measure => simp [intOf]
    · have e1 : IntKind.i64.wrap ((S : Int) + (nb : Int)) = ((S + nb : Nat) : Int) := IntWalk.i64_in _ (by omega)
      have e2 : ¬ (((S + nb : Nat) : Int) < 0) := by omega
      go_wp2
      go_roundw
      case rel => exact ⟨by first | trivial | rfl, 2, S + nb, by go_num, by go_num, .inr (.inr ⟨rfl, rfl⟩)⟩
      case measure => simp [intOf]
    · go_wp2_with (go_at_call 56; (with_reducible refine (HG.out _).mono ?_); rintro e w2 ⟨v2, rfl, hr2, hb2⟩)
      obtain ⟨w3, hw3⟩ : ∃ x, x = wr := ⟨_, rfl⟩
      subst hw3
      have hs2 : Since w3 w2 := hb2
      clear d0 d1 hsr hb2
      go_loopw [6, 27] (fun v i wr => Since w3 wr ∧ ∃ k : Nat, i = .int .i64 (k : Int) ∧ ((k = 0 ∧ RowE encQ 5 wr w3.heap.size 55 v []) ∨ (k = 1 ∧ RowE encQ 5 wr w3.heap.size 55 v LA) ∨ (k = 2 ∧ RowE encQ 5 wr w3.heap.size 55 v (LA ++ LB)))) (fun _ i _ => 2 - (intOf i).toNat)
      case atStart => exact ⟨hs2, 0, rfl, .inl ⟨rfl, hr2⟩⟩
      case round =>
        obtain ⟨hwr, k, rfl, hks⟩ := hrel
        rcases hks with ⟨rfl, hrow⟩ | ⟨rfl, hrow⟩ | ⟨rfl, hrow⟩
        · have d0 := c0 wr hwr
          obtain ⟨xv, cv, rfl⟩ := RowE.shape2 hrow
          go_wp2_with (at_builtin; refine wpList_append_part rfl _ _ 31 rfl w3.heap.size 55 _ 56 Tryz.underlying31 infoRec rfl (by decide) hrow (HPA.out _ hwr) encQ_len (fun r u hu => by simp [encQ] at hu; rcases hu with rfl | rfl | rfl | rfl | rfl <;> rfl) rfl rfl (by rw [HNA.out, List.length_nil]; omega) (by decide) hwr.size_ ?_; intro v' w7 hrow7 hoff7)
          go_roundw
          case rel => exact ⟨Below.trans hwr (hoff7.below (B := w3.heap.size) hwr.size_ (fun b e => (hrow.own b e).1)), 1, by go_num, .inr (.inl ⟨rfl, hrow7⟩)⟩
          case measure => simp [intOf]
        · have d1 := c1 wr hwr
          obtain ⟨xv, cv, rfl⟩ := RowE.shape2 hrow
          go_wp2_with (at_builtin; refine wpList_append_part rfl _ _ 31 rfl w3.heap.size 55 _ 56 Tryz.underlying31 infoRec rfl (by decide) hrow (HPB.out _ hwr) encQ_len (fun r u hu => by simp [encQ] at hu; rcases hu with rfl | rfl | rfl | rfl | rfl <;> rfl) rfl rfl (by rw [HNA.out, HNB.out]; omega) (by decide) hwr.size_ ?_; intro v' w7 hrow7 hoff7)
          go_roundw
          case rel => exact ⟨Below.trans hwr (hoff7.below (B := w3.heap.size) hwr.size_ (fun b e => (hrow.own b e).1)), 2, by go_num, .inr (.inr ⟨rfl, hrow7⟩)⟩
          case measure => simp [intOf]
        · have HX := Lib.hid (And.intro hrow hwr)
          clear hrow hwr
          go_wp2
          go_ret
          exact ⟨_, rfl, HX.out.1, HX.out.2⟩
end Go.Proofs.YthfhpejpjiaikaaGreat
namespace Go.Proofs.YthfhpejpjiaikaaGreat
open Go.RowKit
attribute [local go_sem] Oper.semAt_some
set_option linter.unusedVariables false
set_option linter.unusedSimpArgs false
theorem ok_fine {k d b : Int} (h : okP k d b = true) : fine d b = true := by
  obtain ⟨h1, h2, h3, h4, h5, h6⟩ := (okP_iff k d b).1 h
  exact (fine_iff _ _).2 ⟨h3, by omega, h5, h6⟩
theorem new_since {k d b : Int} {l : List Rq} {w w2 W' : World} {e : Ending} (h : NewP k d b l w2 e W') (hs : Since w w2) : NewP k d b l w e W' := by
  rcases h with ⟨h1, h2, g, q, h3, h4, h5, h6⟩ | ⟨h1, h2, h3⟩
  · exact .inl ⟨h1, h2, g, q, h3, h4, fun c hc => Nat.le_trans hs.size_ (h5 c hc), Below.trans (show Below w.heap.size w w2 from hs) (Below.mono h6 hs.size_)⟩
  · exact .inr ⟨h1, h2, Below.trans (show Below w.heap.size w w2 from hs) (Below.mono h3 hs.size_)⟩
theorem new_form {k d b : Int} {l : List Rq} {w W' : World} {e : Ending} (h : NewP k d b l w e W') : ∃ x y, e = .returned (.tuple #[.pointer x, .int .i64 y]) ∧ Below w.heap.size w W' := by
  rcases h with ⟨h1, h2, g, q, h3, h4, h5, h6⟩ | ⟨h1, h2, h3⟩
  · exact ⟨_, _, h3, h6⟩
  · exact ⟨_, _, h2, h3⟩
set_option maxRecDepth 100000 in
set_option maxHeartbeats 3200000 in
theorem tjoin_yes {g g2 : Nat} {q q2 : QN} {k d b b2 : Int} {L L2 : List Rq} {w : World} (h : TreeO g q k d b L w) (h2 : TreeO g2 q2 k d b2 L2 w) (hd : 0 < d) (hb : b + 1 - 2 * (b % 2) = b2) (hl : L.length + L2.length ≤ 500) :
    Calls Tryz.prog 9 #[.pointer (some ⟨g, 0, none⟩), .pointer (some ⟨g2, 0, none⟩)] w (NewP k (d - 1) (b / 2) (L ++ L2) w) := by
  have hf := ok_fine h.ok
  have HM1 := Lib.hid (fun W (hW : Since w W) => tmade_any (h.since hW))
  have HM2 := Lib.hid (fun W (hW : Since w W) => tmade_any (h2.since hW))
  have HA1 := Lib.hid (fun W (hW : Since w W) => tall_any (h.since hW))
  have HA2 := Lib.hid (fun W (hW : Since w W) => tall_any (h2.since hW))
  obtain ⟨D, hD⟩ : ∃ D, d - 1 = D := ⟨_, rfl⟩
  obtain ⟨E, hE⟩ : ∃ E, b / 2 = E := ⟨_, rfl⟩
  have HSB := Lib.hid (fun W => sibling_at W hf hd hb)
  have HPA := Lib.hid (fun W => parent_at W hf hd hD hE)
  rw [hD, hE]
  have a0 := fun W (hW : Since w W) => (Since.whole hW h.wh).cell 0
  have a1 := fun W (hW : Since w W) => (Since.whole hW h.wh).cell 1
  have a2 := fun W (hW : Since w W) => (Since.whole hW h.wh).cell 2
  have z0 := fun W (hW : Since w W) => (Since.whole hW h2.wh).cell 0
  have z1 := fun W (hW : Since w W) => (Since.whole hW h2.wh).cell 1
  have z2 := fun W (hW : Since w W) => (Since.whole hW h2.wh).cell 2
  have HLN := Lib.hid hl
  clear h h2 hf hD hE hb hl
  go_enter Tryz.func9, Tryz.ntmps9
  go_wp2_with fail
  refine wp_region_held_drew (S := fun W => Since w W) (by kernel_rfl) (Since.refl w).drew (fun hHeld => ?_)
  generalize w.drew = wq at hHeld ⊢
  have hq : Since w wq := hHeld
  refine wpAnyH_take (i := 0) (v := ?_) rfl (by kernel_rfl) (by kernel_rfl) (by kernel_rfl) (fun _ _ _ h => h) (Or.inl ⟨by rfl, ?_⟩) (by assumption) ?_
  rotate_left 1
  · (intro W hW; clear hW; go_simp; try with_reducible rfl)
  simp only [Act.put, List.getElem_toArray, List.getElem_cons_zero, List.setIfInBounds_toArray, List.set_cons_zero, List.set_cons_succ]
  refine wpAnyH_ready (rs := [1]) (by kernel_rfl) (by simp) ?_
  refine AllReadyH.cons rfl (fun K hK => ?_) AllReadyH.nil
  go_simp
  refine (HM1.out _ hq).mono ?_
  rintro e wn ⟨rfl, rfl⟩
  go_wp2_with fail
  refine hK.out _ _ (hq) (fun hHeld => ?_)
  clear hK K
  try simp only [Act.put, List.getElem_toArray, List.getElem_cons_succ, List.getElem_cons_zero, List.setIfInBounds_toArray, List.set_cons_zero, List.set_cons_succ]
  refine wpAnyH_take (i := 2) (v := ?_) rfl (by kernel_rfl) (by kernel_rfl) (by kernel_rfl) (fun _ _ _ h => h) (Or.inl ⟨by rfl, ?_⟩) (by assumption) ?_
  rotate_left 1
  · (intro W hW; clear hW; go_simp; try with_reducible rfl)
  simp only [Act.put, List.getElem_toArray, List.getElem_cons_succ, List.getElem_cons_zero, List.setIfInBounds_toArray, List.set_cons_zero, List.set_cons_succ]
  refine wpAnyH_take (i := 3) (v := ?_) rfl (by kernel_rfl) (by kernel_rfl) (by kernel_rfl) (fun _ _ _ h => h) (Or.inl ⟨by rfl, ?_⟩) (by assumption) ?_
  rotate_left 1
  · (intro W hW; clear hW; go_simp; try with_reducible rfl)
  simp only [Act.put, List.getElem_toArray, List.getElem_cons_succ, List.getElem_cons_zero, List.setIfInBounds_toArray, List.set_cons_zero, List.set_cons_succ]
  refine wpAnyH_take (i := 4) (v := ?_) rfl (by kernel_rfl) (by kernel_rfl) (by kernel_rfl) (fun _ _ _ h => h) (Or.inl ⟨by rfl, ?_⟩) (by assumption) ?_
  rotate_left 1
  · (intro W hW; clear hW; go_simp; try with_reducible rfl)
  simp only [Act.put, List.getElem_toArray, List.getElem_cons_succ, List.getElem_cons_zero, List.setIfInBounds_toArray, List.set_cons_zero, List.set_cons_succ]
  refine wpAnyH_ready (rs := [5]) (by kernel_rfl) (by simp) ?_
  refine AllReadyH.cons rfl (fun K hK => ?_) AllReadyH.nil
  go_simp
  refine (HM2.out _ hq).mono ?_
  rintro e wn ⟨rfl, rfl⟩
  go_wp2_with fail
  refine hK.out _ _ (hq) (fun hHeld => ?_)
  clear hK K
  try simp only [Act.put, List.getElem_toArray, List.getElem_cons_succ, List.getElem_cons_zero, List.setIfInBounds_toArray, List.set_cons_zero, List.set_cons_succ]
  refine wpAnyH_take (i := 6) (v := ?_) rfl (by kernel_rfl) (by kernel_rfl) (by kernel_rfl) (fun _ _ _ h => h) (Or.inl ⟨by rfl, ?_⟩) (by assumption) ?_
  rotate_left 1
  · (intro W hW; clear hW; go_simp; try with_reducible rfl)
  simp only [Act.put, List.getElem_toArray, List.getElem_cons_succ, List.getElem_cons_zero, List.setIfInBounds_toArray, List.set_cons_zero, List.set_cons_succ]
  refine wpAnyH_take (i := 7) (v := ?_) rfl (by kernel_rfl) (by kernel_rfl) (by kernel_rfl) (fun _ _ _ h => h) (Or.inl ⟨by rfl, ?_⟩) (by assumption) ?_
  rotate_left 1
  · (intro W hW; clear hW; go_simp; try with_reducible rfl)
  simp only [Act.put, List.getElem_toArray, List.getElem_cons_succ, List.getElem_cons_zero, List.setIfInBounds_toArray, List.set_cons_zero, List.set_cons_succ]
  refine wpAnyH_take (i := 8) (v := ?_) rfl (by kernel_rfl) (by kernel_rfl) (by kernel_rfl) (fun _ _ _ h => h) (Or.inl ⟨by rfl, ?_⟩) (by assumption) ?_
  rotate_left 1
  · (intro W hW; clear hW; go_simp; try with_reducible rfl)
  simp only [Act.put, List.getElem_toArray, List.getElem_cons_succ, List.getElem_cons_zero, List.setIfInBounds_toArray, List.set_cons_zero, List.set_cons_succ]
  refine wpAnyH_take (i := 9) (v := ?_) rfl (by kernel_rfl) (by kernel_rfl) (by kernel_rfl) (fun _ _ _ h => h) (Or.inl ⟨by rfl, ?_⟩) (by assumption) ?_
  rotate_left 1
  · (intro W hW; clear hW; go_simp; try with_reducible rfl)
  simp only [Act.put, List.getElem_toArray, List.getElem_cons_succ, List.getElem_cons_zero, List.setIfInBounds_toArray, List.set_cons_zero, List.set_cons_succ]
  refine wpAnyH_take (i := 10) (v := ?_) rfl (by kernel_rfl) (by kernel_rfl) (by kernel_rfl) (fun _ _ _ h => h) (Or.inl ⟨by rfl, ?_⟩) (by assumption) ?_
  rotate_left 1
  · (intro W hW; clear hW; go_simp; try with_reducible rfl)
  simp only [Act.put, List.getElem_toArray, List.getElem_cons_succ, List.getElem_cons_zero, List.setIfInBounds_toArray, List.set_cons_zero, List.set_cons_succ]
  refine wpAnyH_take (i := 11) (v := ?_) rfl (by kernel_rfl) (by kernel_rfl) (by kernel_rfl) (fun _ _ _ h => h) (Or.inl ⟨by rfl, ?_⟩) (by assumption) ?_
  rotate_left 1
  · (intro W hW; clear hW; go_simp; try with_reducible rfl)
  simp only [Act.put, List.getElem_toArray, List.getElem_cons_succ, List.getElem_cons_zero, List.setIfInBounds_toArray, List.set_cons_zero, List.set_cons_succ]
  refine wpAnyH_take (i := 12) (v := ?_) rfl (by kernel_rfl) (by kernel_rfl) (by kernel_rfl) (fun _ _ _ h => h) (Or.inl ⟨by rfl, ?_⟩) (by assumption) ?_
  rotate_left 1
  · (intro W hW; skip; go_simp; try with_reducible rfl)
  simp only [Act.put, List.getElem_toArray, List.getElem_cons_succ, List.getElem_cons_zero, List.setIfInBounds_toArray, List.set_cons_zero, List.set_cons_succ]
  refine wpAnyH_take (i := 13) (v := ?_) rfl (by kernel_rfl) (by kernel_rfl) (by kernel_rfl) (fun _ _ _ h => h) (Or.inl ⟨by rfl, ?_⟩) (by assumption) ?_
  rotate_left 1
  · (intro W hW; clear hW; go_simp; try with_reducible rfl)
  simp only [Act.put, List.getElem_toArray, List.getElem_cons_succ, List.getElem_cons_zero, List.setIfInBounds_toArray, List.set_cons_zero, List.set_cons_succ]
  refine wpAnyH_take (i := 14) (v := ?_) rfl (by kernel_rfl) (by kernel_rfl) (by kernel_rfl) (fun _ _ _ h => h) (Or.inl ⟨by rfl, ?_⟩) (by assumption) ?_
  rotate_left 1
  · (intro W hW; clear hW; go_simp; try with_reducible rfl)
  simp only [Act.put, List.getElem_toArray, List.getElem_cons_succ, List.getElem_cons_zero, List.setIfInBounds_toArray, List.set_cons_zero, List.set_cons_succ]
  refine wpAnyH_take (i := 15) (v := ?_) rfl (by kernel_rfl) (by kernel_rfl) (by kernel_rfl) (fun _ _ _ h => h) (Or.inl ⟨by rfl, ?_⟩) (by assumption) ?_
  rotate_left 1
  · (intro W hW; clear hW; go_simp; try with_reducible rfl)
  simp only [Act.put, List.getElem_toArray, List.getElem_cons_succ, List.getElem_cons_zero, List.setIfInBounds_toArray, List.set_cons_zero, List.set_cons_succ]
  refine wpAnyH_take (i := 16) (v := ?_) rfl (by kernel_rfl) (by kernel_rfl) (by kernel_rfl) (fun _ _ _ h => h) (Or.inl ⟨by rfl, ?_⟩) (by assumption) ?_
  rotate_left 1
  · (intro W hW; skip; go_simp; try with_reducible rfl)
  simp only [Act.put, List.getElem_toArray, List.getElem_cons_succ, List.getElem_cons_zero, List.setIfInBounds_toArray, List.set_cons_zero, List.set_cons_succ]
  refine wpAnyH_take (i := 17) (v := ?_) rfl (by kernel_rfl) (by kernel_rfl) (by kernel_rfl) (fun _ _ _ h => h) (Or.inl ⟨by rfl, ?_⟩) (by assumption) ?_
  rotate_left 1
  · (intro W hW; clear hW; go_simp; try with_reducible rfl)
  simp only [Act.put, List.getElem_toArray, List.getElem_cons_succ, List.getElem_cons_zero, List.setIfInBounds_toArray, List.set_cons_zero, List.set_cons_succ]
  refine wpAnyH_take (i := 18) (v := ?_) rfl (by kernel_rfl) (by kernel_rfl) (by kernel_rfl) (fun _ _ _ h => h) (Or.inl ⟨by rfl, ?_⟩) (by assumption) ?_
  rotate_left 1
  · (intro W hW; clear hW; go_simp; try with_reducible rfl)
  simp only [Act.put, List.getElem_toArray, List.getElem_cons_succ, List.getElem_cons_zero, List.setIfInBounds_toArray, List.set_cons_zero, List.set_cons_succ]
  refine wpAnyH_done (by kernel_rfl) ?_ _
  have y1 := a1 _ hq
  have y2 := a2 _ hq
  go_wp2_with (go_at_call 28; (with_reducible refine (HSB.out _).mono ?_); rintro e w2 ⟨rfl, hb2⟩; (have hs2 := hq.trans (show Since wq w2 from hb2)); (have hx := Whole.new w2 23 #[.int .i64 d, .int .i64 b2]))
  have hs3 := hs2.alloc (.cells #[.int .i64 d, .int .i64 b2] 23)
  generalize w2.alloc (.cells #[.int .i64 d, .int .i64 b2] 23) = w3 at hx hs3 ⊢
  have x0 := fun W (hW : Since w3 W) => (Since.whole hW hx).cell 0
  have x1 := fun W (hW : Since w3 W) => (Since.whole hW hx).cell 1
  have v1 := fun W (hW : Since w3 W) => z1 W (hs3.trans hW)
  have v2 := fun W (hW : Since w3 W) => z2 W (hs3.trans hW)
  clear hHeld hs2 hb2 y1 y2
  refine wp_region_held_drew (S := fun W => Since w3 W) (by kernel_rfl) (Since.refl w3).drew (fun hHeld => ?_)
  generalize w3.drew = wz at hHeld ⊢
  have hz : Since w wz := hs3.trans hHeld
  refine wpAnyH_take (i := 0) (v := ?_) rfl (by kernel_rfl) (by kernel_rfl) (by kernel_rfl) (fun _ _ _ h => h) (Or.inl ⟨by rfl, ?_⟩) (by assumption) ?_
  rotate_left 1
  · (intro W hW; clear hW; go_simp; try with_reducible rfl)
  simp only [Act.put, List.getElem_toArray, List.getElem_cons_zero, List.setIfInBounds_toArray, List.set_cons_zero, List.set_cons_succ]
  refine wpAnyH_take (i := 1) (v := ?_) rfl (by kernel_rfl) (by kernel_rfl) (by kernel_rfl) (fun _ _ _ h => h) (Or.inl ⟨by rfl, ?_⟩) (by assumption) ?_
  rotate_left 1
  · (intro W hW; clear hW; go_simp; try with_reducible rfl)
  simp only [Act.put, List.getElem_toArray, List.getElem_cons_succ, List.getElem_cons_zero, List.setIfInBounds_toArray, List.set_cons_zero, List.set_cons_succ]
  refine wpAnyH_take (i := 2) (v := ?_) rfl (by kernel_rfl) (by kernel_rfl) (by kernel_rfl) (fun _ _ _ h => h) (Or.inl ⟨by rfl, ?_⟩) (by assumption) ?_
  rotate_left 1
  · (intro W hW; clear hW; go_simp; try with_reducible rfl)
  simp only [Act.put, List.getElem_toArray, List.getElem_cons_succ, List.getElem_cons_zero, List.setIfInBounds_toArray, List.set_cons_zero, List.set_cons_succ]
  refine wpAnyH_take (i := 3) (v := ?_) rfl (by kernel_rfl) (by kernel_rfl) (by kernel_rfl) (fun _ _ _ h => h) (Or.inl ⟨by rfl, ?_⟩) (by assumption) ?_
  rotate_left 1
  · (intro W hW; skip; go_simp; try with_reducible rfl)
  simp only [Act.put, List.getElem_toArray, List.getElem_cons_succ, List.getElem_cons_zero, List.setIfInBounds_toArray, List.set_cons_zero, List.set_cons_succ]
  refine wpAnyH_take (i := 4) (v := ?_) rfl (by kernel_rfl) (by kernel_rfl) (by kernel_rfl) (fun _ _ _ h => h) (Or.inl ⟨by rfl, ?_⟩) (by assumption) ?_
  rotate_left 1
  · (intro W hW; clear hW; go_simp; try with_reducible rfl)
  simp only [Act.put, List.getElem_toArray, List.getElem_cons_succ, List.getElem_cons_zero, List.setIfInBounds_toArray, List.set_cons_zero, List.set_cons_succ]
  refine wpAnyH_take (i := 5) (v := ?_) rfl (by kernel_rfl) (by kernel_rfl) (by kernel_rfl) (fun _ _ _ h => h) (Or.inl ⟨by rfl, ?_⟩) (by assumption) ?_
  rotate_left 1
  · (intro W hW; clear hW; go_simp; try with_reducible rfl)
  simp only [Act.put, List.getElem_toArray, List.getElem_cons_succ, List.getElem_cons_zero, List.setIfInBounds_toArray, List.set_cons_zero, List.set_cons_succ]
  refine wpAnyH_take (i := 6) (v := ?_) rfl (by kernel_rfl) (by kernel_rfl) (by kernel_rfl) (fun _ _ _ h => h) (Or.inl ⟨by rfl, ?_⟩) (by assumption) ?_
  rotate_left 1
  · (intro W hW; clear hW; go_simp; try with_reducible rfl)
  simp only [Act.put, List.getElem_toArray, List.getElem_cons_succ, List.getElem_cons_zero, List.setIfInBounds_toArray, List.set_cons_zero, List.set_cons_succ]
  refine wpAnyH_take (i := 7) (v := ?_) rfl (by kernel_rfl) (by kernel_rfl) (by kernel_rfl) (fun _ _ _ h => h) (Or.inl ⟨by rfl, ?_⟩) (by assumption) ?_
  rotate_left 1
  · (intro W hW; skip; go_simp; try with_reducible rfl)
  simp only [Act.put, List.getElem_toArray, List.getElem_cons_succ, List.getElem_cons_zero, List.setIfInBounds_toArray, List.set_cons_zero, List.set_cons_succ]
  refine wpAnyH_take (i := 8) (v := ?_) rfl (by kernel_rfl) (by kernel_rfl) (by kernel_rfl) (fun _ _ _ h => h) (Or.inl ⟨by rfl, ?_⟩) (by assumption) ?_
  rotate_left 1
  · (intro W hW; clear hW; go_simp; try with_reducible rfl)
  simp only [Act.put, List.getElem_toArray, List.getElem_cons_succ, List.getElem_cons_zero, List.setIfInBounds_toArray, List.set_cons_zero, List.set_cons_succ]
  refine wpAnyH_take (i := 9) (v := ?_) rfl (by kernel_rfl) (by kernel_rfl) (by kernel_rfl) (fun _ _ _ h => h) (Or.inl ⟨by rfl, ?_⟩) (by assumption) ?_
  rotate_left 1
  · (intro W hW; clear hW; go_simp; try with_reducible rfl)
  simp only [Act.put, List.getElem_toArray, List.getElem_cons_succ, List.getElem_cons_zero, List.setIfInBounds_toArray, List.set_cons_zero, List.set_cons_succ]
  refine wpAnyH_done (by kernel_rfl) ?_ _
  clear hHeld v1 v2 x0 x1 hx
  have y1 := a1 _ hz
  have y2 := a2 _ hz
  go_wp2_with (go_at_call 29; (with_reducible refine (HPA.out _).mono ?_); rintro e w5 ⟨rfl, hb5⟩; (have hs5 := hz.trans (show Since wz w5 from hb5)); (have hx := Whole.new w5 23 #[.int .i64 D, .int .i64 E]))
  have hs6 := hs5.alloc (.cells #[.int .i64 D, .int .i64 E] 23)
  generalize w5.alloc (.cells #[.int .i64 D, .int .i64 E] 23) = w6 at hx hs6 ⊢
  clear y1 y2 hb5 z0 z1 z2
  have x0 := fun W (hW : Since w6 W) => (Since.whole hW hx).cell 0
  have x1 := fun W (hW : Since w6 W) => (Since.whole hW hx).cell 1
  have v0 := fun W (hW : Since w6 W) => a0 W (hs6.trans hW)
  refine wp_region_held_drew (S := fun W => Since w6 W) (by kernel_rfl) (Since.refl w6).drew (fun hHeld => ?_)
  generalize w6.drew = wy at hHeld ⊢
  have hy : Since w6 wy := hHeld
  refine wpAnyH_take (i := 0) (v := ?_) rfl (by kernel_rfl) (by kernel_rfl) (by kernel_rfl) (fun _ _ _ h => h) (Or.inl ⟨by rfl, ?_⟩) (by assumption) ?_
  rotate_left 1
  · (intro W hW; clear hW; go_simp; try with_reducible rfl)
  simp only [Act.put, List.getElem_toArray, List.getElem_cons_zero, List.setIfInBounds_toArray, List.set_cons_zero, List.set_cons_succ]
  refine wpAnyH_take (i := 1) (v := ?_) rfl (by kernel_rfl) (by kernel_rfl) (by kernel_rfl) (fun _ _ _ h => h) (Or.inl ⟨by rfl, ?_⟩) (by assumption) ?_
  rotate_left 1
  · (intro W hW; clear hW; go_simp; try with_reducible rfl)
  simp only [Act.put, List.getElem_toArray, List.getElem_cons_succ, List.getElem_cons_zero, List.setIfInBounds_toArray, List.set_cons_zero, List.set_cons_succ]
  refine wpAnyH_take (i := 2) (v := ?_) rfl (by kernel_rfl) (by kernel_rfl) (by kernel_rfl) (fun _ _ _ h => h) (Or.inl ⟨by rfl, ?_⟩) (by assumption) ?_
  rotate_left 1
  · (intro W hW; clear hW; go_simp; try with_reducible rfl)
  simp only [Act.put, List.getElem_toArray, List.getElem_cons_succ, List.getElem_cons_zero, List.setIfInBounds_toArray, List.set_cons_zero, List.set_cons_succ]
  refine wpAnyH_take (i := 3) (v := ?_) rfl (by kernel_rfl) (by kernel_rfl) (by kernel_rfl) (fun _ _ _ h => h) (Or.inl ⟨by rfl, ?_⟩) (by assumption) ?_
  rotate_left 1
  · (intro W hW; skip; go_simp; try with_reducible rfl)
  simp only [Act.put, List.getElem_toArray, List.getElem_cons_succ, List.getElem_cons_zero, List.setIfInBounds_toArray, List.set_cons_zero, List.set_cons_succ]
  refine wpAnyH_take (i := 4) (v := ?_) rfl (by kernel_rfl) (by kernel_rfl) (by kernel_rfl) (fun _ _ _ h => h) (Or.inl ⟨by rfl, ?_⟩) (by assumption) ?_
  rotate_left 1
  · (intro W hW; skip; go_simp; try with_reducible rfl)
  simp only [Act.put, List.getElem_toArray, List.getElem_cons_succ, List.getElem_cons_zero, List.setIfInBounds_toArray, List.set_cons_zero, List.set_cons_succ]
  refine wpAnyH_take (i := 5) (v := ?_) rfl (by kernel_rfl) (by kernel_rfl) (by kernel_rfl) (fun _ _ _ h => h) (Or.inl ⟨by rfl, ?_⟩) (by assumption) ?_
  rotate_left 1
  · (intro W hW; clear hW; go_simp; try with_reducible rfl)
  simp only [Act.put, List.getElem_toArray, List.getElem_cons_succ, List.getElem_cons_zero, List.setIfInBounds_toArray, List.set_cons_zero, List.set_cons_succ]
  refine wpAnyH_take (i := 7) (v := ?_) rfl (by kernel_rfl) (by kernel_rfl) (by kernel_rfl) (fun _ _ _ h => h) (Or.inl ⟨by rfl, ?_⟩) (by assumption) ?_
  rotate_left 1
  · (intro W hW; clear hW; go_simp; try with_reducible rfl)
  simp only [Act.put, List.getElem_toArray, List.getElem_cons_succ, List.getElem_cons_zero, List.setIfInBounds_toArray, List.set_cons_zero, List.set_cons_succ]
  refine wpAnyH_ready (rs := [6]) (by kernel_rfl) (by simp) ?_
  refine AllReadyH.cons rfl (fun K hK => ?_) AllReadyH.nil
  go_simp
  refine (HA1.out _ (hs6.trans hy)).mono ?_
  rintro e w8 ⟨v8, rfl, hr8, hb8⟩
  obtain ⟨x8, c8, rfl⟩ := RowE.shape2 hr8
  have hs8 : Since w6 w8 := hy.trans hb8
  go_wp2_with fail
  refine hK.out _ _ (hs8) (fun hHeld => ?_)
  clear hK K
  try simp only [Act.put, List.getElem_toArray, List.getElem_cons_succ, List.getElem_cons_zero, List.setIfInBounds_toArray, List.set_cons_zero, List.set_cons_succ]
  refine wpAnyH_ready (rs := [8]) (by kernel_rfl) (by simp) ?_
  refine AllReadyH.cons rfl (fun K hK => ?_) AllReadyH.nil
  go_simp
  refine (HA2.out _ (hs6.trans hs8)).mono ?_
  rintro e w9 ⟨v9, rfl, hr9, hb9⟩
  obtain ⟨x9, c9, rfl⟩ := RowE.shape2 hr9
  have hs89 : Since w8 w9 := hb9
  have hs9 : Since w6 w9 := hs8.trans hs89
  go_wp2_with fail
  refine hK.out _ _ (hs9) (fun hHeld => ?_)
  clear hK K
  try simp only [Act.put, List.getElem_toArray, List.getElem_cons_succ, List.getElem_cons_zero, List.setIfInBounds_toArray, List.set_cons_zero, List.set_cons_succ]
  refine wpAnyH_ready (rs := [9]) (by kernel_rfl) (by simp) ?_
  refine AllReadyH.cons rfl (fun K hK => ?_) AllReadyH.nil
  go_simp
  skip
  refine hK.out _ _ (hs9.alloc _) (fun hHeld => ?_)
  clear hK K
  try simp only [Act.put, List.getElem_toArray, List.getElem_cons_succ, List.getElem_cons_zero, List.setIfInBounds_toArray, List.set_cons_zero, List.set_cons_succ]
  refine wpAnyH_ready (rs := [10]) (by kernel_rfl) (by simp) ?_
  refine AllReadyH.cons rfl (fun K hK => ?_) AllReadyH.nil
  go_simp
  have hA9 : ListE encQ 5 w9.heap.size (w9.alloc (.cells #[.slice x8 L.length c8, .slice x9 L2.length c9] 31)) (.slice x8 L.length c8) L := (((hr8.list encQ_len).since hs89 (Nat.le_refl _)).mono hs89.size_).since ((Since.refl w9).alloc _) (Nat.le_refl _)
  have hB9 : ListE encQ 5 w9.heap.size (w9.alloc (.cells #[.slice x8 L.length c8, .slice x9 L2.length c9] 31)) (.slice x9 L2.length c9) L2 := (hr9.list encQ_len).since ((Since.refl w9).alloc _) (Nat.le_refl _)
  have hW9 := Whole.new w9 31 #[.slice x8 L.length c8, .slice x9 L2.length c9]
  have hz9 : w9.heap.size ≤ (w9.alloc (.cells #[.slice x8 L.length c8, .slice x9 L2.length c9] 31)).heap.size := by simp
  have hl1 : L.length ≤ 500 := by have := HLN.out; omega
  have hl2 : L2.length ≤ 500 := by have := HLN.out; omega
  with_reducible refine (concat_two hA9 hB9 hz9 hW9 hl1 hl2).mono ?_
  rintro e w10 ⟨v10, rfl, hr10, hb10⟩
  obtain ⟨x10, c10, rfl⟩ := RowE.shape2 hr10
  have hr10' := hr10
  rw [List.length_append] at hr10'
  have hs10 : Since w6 w10 := (hs9.alloc _).trans hb10
  go_wp2_with fail
  refine hK.out _ _ (hs10) (fun hHeld => ?_)
  clear hK K
  try simp only [Act.put, List.getElem_toArray, List.getElem_cons_succ, List.getElem_cons_zero, List.setIfInBounds_toArray, List.set_cons_zero, List.set_cons_succ]
  refine wpAnyH_ready (rs := [11]) (by kernel_rfl) (by simp) ?_
  refine AllReadyH.cons rfl (fun K hK => ?_) AllReadyH.nil
  go_simp
  have hlt : (L ++ L2).length ≤ 999 := by rw [List.length_append]; have := HLN.out; omega
  have hL10 := hr10'.list encQ_len
  with_reducible refine (tnew_any hL10 (Nat.le_refl _) hlt).mono ?_
  rintro e w11 hP
  obtain ⟨x, y, rfl, hb11⟩ := new_form hP
  have hs11 : Since w6 w11 := hs10.trans hb11
  go_wp2_with fail
  refine hK.out _ _ (hs11) (fun hHeld => ?_)
  clear hK K
  try simp only [Act.put, List.getElem_toArray, List.getElem_cons_succ, List.getElem_cons_zero, List.setIfInBounds_toArray, List.set_cons_zero, List.set_cons_succ]
  refine wpAnyH_take (i := 12) (v := ?_) rfl (by kernel_rfl) (by kernel_rfl) (by kernel_rfl) (fun _ _ _ h => h) (Or.inl ⟨by rfl, ?_⟩) (by assumption) ?_
  rotate_left 1
  · (intro W hW; clear hW; go_simp; try with_reducible rfl)
  simp only [Act.put, List.getElem_toArray, List.getElem_cons_succ, List.getElem_cons_zero, List.setIfInBounds_toArray, List.set_cons_zero, List.set_cons_succ]
  refine wpAnyH_take (i := 13) (v := ?_) rfl (by kernel_rfl) (by kernel_rfl) (by kernel_rfl) (fun _ _ _ h => h) (Or.inl ⟨by rfl, ?_⟩) (by assumption) ?_
  rotate_left 1
  · (intro W hW; clear hW; go_simp; try with_reducible rfl)
  simp only [Act.put, List.getElem_toArray, List.getElem_cons_succ, List.getElem_cons_zero, List.setIfInBounds_toArray, List.set_cons_zero, List.set_cons_succ]
  refine wpAnyH_take (i := 14) (v := ?_) rfl (by kernel_rfl) (by kernel_rfl) (by kernel_rfl) (fun _ _ _ h => h) (Or.inl ⟨by rfl, ?_⟩) (by assumption) ?_
  rotate_left 1
  · (intro W hW; clear hW; go_simp; try with_reducible rfl)
  simp only [Act.put, List.getElem_toArray, List.getElem_cons_succ, List.getElem_cons_zero, List.setIfInBounds_toArray, List.set_cons_zero, List.set_cons_succ]
  refine wpAnyH_take (i := 15) (v := ?_) rfl (by kernel_rfl) (by kernel_rfl) (by kernel_rfl) (fun _ _ _ h => h) (Or.inl ⟨by rfl, ?_⟩) (by assumption) ?_
  rotate_left 1
  · (intro W hW; clear hW; go_simp; try with_reducible rfl)
  simp only [Act.put, List.getElem_toArray, List.getElem_cons_succ, List.getElem_cons_zero, List.setIfInBounds_toArray, List.set_cons_zero, List.set_cons_succ]
  refine wpAnyH_done (by kernel_rfl) ?_ _
  go_wp2_with fail
  go_ret2
  exact new_since hP (hs6.trans hs10)
end Go.Proofs.YthfhpejpjiaikaaGreat
