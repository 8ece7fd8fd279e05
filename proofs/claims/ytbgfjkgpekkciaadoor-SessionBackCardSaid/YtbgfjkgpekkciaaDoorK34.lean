/- glebelaw09: Same, knows. -/
import Derived.Test.YtbgfjkgpekkciaaDoorK33
namespace Go.Proofs.YtbgfjkgpekkciaaDoor
open Go.RowKit
set_option linter.unusedVariables false
set_option linter.unusedSimpArgs false
section
variable {w : World} {g q : Nat} {L : STab}
set_option maxHeartbeats 1600000 in
set_option maxRecDepth 100000 in
theorem lawSame9_any (h : PTab w g L) (h' : DTab w q L) : Calls Tryd.prog 13 #[.pointer (some ⟨g, 0, none⟩), .pointer (some ⟨q, 0, none⟩)] w fun e w' => e = .returned (.bool true) ∧ Since w w' := by
  go_enter Tryd.func13, Tryd.ntmps13
  go_wp2
  go_loopw [5] (fun i wr => ∃ k : Int, i = .int .i64 k ∧ -1 ≤ k ∧ k ≤ 9 ∧ Since w wr) (fun i _ => (9 - intOf i).toNat)
  case atStart => exact ⟨-1, rfl, by omega, by omega, Since.refl w⟩
  case round =>
    obtain ⟨k, rfl, hk1, hk2, hS⟩ := hrel
    by_cases hlt : k ≤ 8
    · obtain ⟨R, hR⟩ : ∃ R, lastT L k = R := ⟨_, rfl⟩
      have HR := Lib.hid hR
      have hP := h.since hS
      have hD := h'.since hS
      obtain ⟨er, fd, val, ver, seq⟩ := R
      clear hR h h'
      go_wp2_with fail
      refine (tlast_any hP HR.out).mono ?_
      rintro e w1 ⟨rfl, hs1⟩
      dsimp only
      go_wp2_with fail
      obtain ⟨w2, hw2⟩ : ∃ w2, w2 = w1.alloc (.cells #[.int .i64 er, .bool fd, .string val, .int .i64 ver] 35) := ⟨_, rfl⟩
      have hs2 : Since w1 w2 := by rw [hw2]; exact (Since.refl w1).alloc _
      have wh2 : Whole w2 w1.heap.size 35 #[.int .i64 er, .bool fd, .string val, .int .i64 ver] := by rw [hw2]; exact Whole.new w1 _ _
      rw [← hw2]
      clear hw2
      refine (refLast_any ((hD.since hs1).since hs2) HR.out).mono ?_
      rintro e w3 ⟨rfl, hs3⟩
      dsimp only
      go_wp2_with fail
      obtain ⟨w4, hw4⟩ : ∃ w4, w4 = w3.alloc (.cells #[.int .i64 er, .bool fd, .string val, .int .i64 ver] 42) := ⟨_, rfl⟩
      have hs4 : Since w3 w4 := by rw [hw4]; exact (Since.refl w3).alloc _
      have wh4 : Whole w4 w3.heap.size 42 #[.int .i64 er, .bool fd, .string val, .int .i64 ver] := by rw [hw4]; exact Whole.new w3 _ _
      rw [← hw4]
      have wh5 := hs4.whole (hs3.whole wh2)
      have hS4 : Since w w4 := (((hS.trans hs1).trans hs2).trans hs3).trans hs4
      have a0 := box_cell wh5 0 _ rfl
      have a1 := box_cell wh5 1 _ rfl
      have a2 := box_cell wh5 2 _ rfl
      have a3 := box_cell wh5 3 _ rfl
      have b0 := box_cell wh4 0 _ rfl
      have b1 := box_cell wh4 1 _ rfl
      have b2 := box_cell wh4 2 _ rfl
      have b3 := box_cell wh4 3 _ rfl
      have hsr := Since.refl w4
      have hsd := hsr.drew
      clear hw4 hP hD HR hs1 hs2 hs3 hs4 wh2 wh4 wh5 hS
      go_region_held3 (fun W => Since w4 W) (first | assumption | exact Since.drew (by assumption)) ((first | (go_at_call 31; (with_reducible refine (Calls.since (by assumption) (lawRefAns_any _ _ _ _ _)).mono ?_); rintro e w5 ⟨rfl, hb5⟩)))
      have hS5 : ∀ W, Since w4 W → Since w W := fun W h => hS4.trans h
      go_wp2
      go_roundw
      case rel => exact ⟨k + 1, by go_num, by omega, by omega, hS5 _ (by assumption)⟩
      case measure => simp [intOf]; omega
    · obtain rfl : k = 9 := by omega
      go_wp2
      go_ret
      exact ⟨rfl, hS⟩
end
theorem knows_a : noteT tab0 1 5 (ansB 0 false ⟨#[]⟩ 0) = 0 := by decide +kernel
set_option maxRecDepth 100000 in
theorem knows9_any (w : World) : Calls Tryd.prog 7 #[] w fun e w' => e = .returned (.bool true) ∧ Since w w' := by
  go_enter Tryd.func7, Tryd.ntmps7
  go_wp2_with fail
  refine (tabNew_any w).mono ?_
  rintro e w1 ⟨rfl, hP1, hs1⟩
  obtain ⟨g, hg⟩ : ∃ g, g = w.heap.size := ⟨_, rfl⟩
  have hgw : w.heap.size ≤ g := by omega
  rw [← hg] at hP1 ⊢
  clear hg
  go_wp2_with fail
  refine (tnote_any (a := ⟨0, false, ⟨#[]⟩, 0, 5⟩) (L' := tab0.set 1 ⟨0, false, ⟨#[]⟩, 0, 5⟩) hP1 knows_a (by unfold notedT; rw [if_pos knows_a]; rfl)).mono ?_
  rintro e w2 ⟨rfl, hP2, ho2⟩
  have hs2 : Since w w2 := Below.trans hs1 (Off.below ho2 hs1.size_ (fun b z => by rcases z with rfl; exact hgw))
  go_wp2_with fail
  refine (tlast_any (c := 1) (R := ⟨0, false, ⟨#[]⟩, 0, 5⟩) hP2 rfl).mono ?_
  rintro e w3 ⟨rfl, hs3⟩
  dsimp only
  go_wp2_with fail
  obtain ⟨w4, hw4⟩ : ∃ w4, w4 = w3.alloc (.cells #[.int .i64 0, .bool false, .string ⟨#[]⟩, .int .i64 0] 35) := ⟨_, rfl⟩
  have hs4 : Since w3 w4 := by rw [hw4]; exact (Since.refl w3).alloc _
  rw [← hw4]
  have hP4 := (hP2.since hs3).since hs4
  have hS4 := (hs2.trans hs3).trans hs4
  clear hw4 hP2 hP1 ho2 hs1 hs2 hs3 hs4
  have l1 := Lib.hid (look_any (c := 1) (s := 4) (r := 3) hP4 (by decide +kernel))
  have l2 := Lib.hid (look_any (c := 1) (s := 5) (r := 2) hP4 (by decide +kernel))
  have l3 := Lib.hid (look_any (c := 1) (s := 6) (r := 1) hP4 (by decide +kernel))
  have l4 := Lib.hid (look_any (c := 2) (s := 1) (r := 1) hP4 (by decide +kernel))
  go_wp2_with (first
    | (go_at_call 20; (with_reducible refine (num9_any _ _).mono ?_); rintro e w' ⟨rfl, rfl⟩)
    | (go_at_call 19; (with_reducible refine (l1.out).mono ?_); rintro e w' ⟨rfl, rfl⟩)
    | (go_at_call 19; (with_reducible refine (l2.out).mono ?_); rintro e w' ⟨rfl, rfl⟩)
    | (go_at_call 19; (with_reducible refine (l3.out).mono ?_); rintro e w' ⟨rfl, rfl⟩)
    | (go_at_call 19; (with_reducible refine (l4.out).mono ?_); rintro e w' ⟨rfl, rfl⟩))
  go_ret
  exact ⟨rfl, hS4⟩
end Go.Proofs.YtbgfjkgpekkciaaDoor
