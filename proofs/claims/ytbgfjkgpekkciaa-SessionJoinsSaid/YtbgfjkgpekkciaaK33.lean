/- glebelaw09: Same, knows. -/
import Derived.Test.YtbgfjkgpekkciaaK32
namespace Go.Proofs.Ytbgfjkgpekkciaa
open Go.RowKit
set_option linter.unusedVariables false
set_option linter.unusedSimpArgs false
section
variable {w : World} {g q : Nat} {L : STab}
end
theorem knows_a : noteT tab0 1 5 (ansB 0 false ⟨#[]⟩ 0) = 0 := by decide +kernel
set_option maxRecDepth 100000 in
theorem knows9_any (w : World) : Calls Try.prog 6 #[] w fun e w' => e = .returned (.bool true) ∧ Since w w' := by
  go_enter Try.func6, Try.ntmps6
  go_wp2_with fail
  refine (tabNew_any w).mono ?_
  rintro e w1 ⟨rfl, hP1, hs1⟩
  obtain ⟨g, hg⟩ : ∃ g, g = w.heap.size := ⟨_, rfl⟩
  have hgw : w.heap.size ≤ g := by omega
  rw [← hg] at hP1 ⊢
  clear hg
  go_wp2_with fail
  refine (tnote_any (a := ⟨0, false, ⟨#[]⟩, 0, 5⟩) (L' := tab0.set 1 ⟨0, false, ⟨#[]⟩, 0, 5⟩) hP1 knows_a (by unfold notedT; rw [if_pos knows_a]; rfl)).mono ?_
  rintro e w2 ⟨rfl, hP2, ho2⟩
  have hs2 : Since w w2 := Below.trans hs1 (Off.below ho2 hs1.size_ (fun b z => by rcases z with rfl; exact hgw))
  go_wp2_with fail
  refine (tlast_any (c := 1) (R := ⟨0, false, ⟨#[]⟩, 0, 5⟩) hP2 rfl).mono ?_
  rintro e w3 ⟨rfl, hs3⟩
  dsimp only
  go_wp2_with fail
  obtain ⟨w4, hw4⟩ : ∃ w4, w4 = w3.alloc (.cells #[.int .i64 0, .bool false, .string ⟨#[]⟩, .int .i64 0] 51) := ⟨_, rfl⟩
  have hs4 : Since w3 w4 := by rw [hw4]; exact (Since.refl w3).alloc _
  rw [← hw4]
  have hP4 := (hP2.since hs3).since hs4
  have hS4 := (hs2.trans hs3).trans hs4
  clear hw4 hP2 hP1 ho2 hs1 hs2 hs3 hs4
  have l1 := Lib.hid (look_any (c := 1) (s := 4) (r := 3) hP4 (by decide +kernel))
  have l2 := Lib.hid (look_any (c := 1) (s := 5) (r := 2) hP4 (by decide +kernel))
  have l3 := Lib.hid (look_any (c := 1) (s := 6) (r := 1) hP4 (by decide +kernel))
  have l4 := Lib.hid (look_any (c := 2) (s := 1) (r := 1) hP4 (by decide +kernel))
  go_wp2_with (first
    | (go_at_call 12; (with_reducible refine (num9_any _ _).mono ?_); rintro e w' ⟨rfl, rfl⟩)
    | (go_at_call 23; (with_reducible refine (l1.out).mono ?_); rintro e w' ⟨rfl, rfl⟩)
    | (go_at_call 23; (with_reducible refine (l2.out).mono ?_); rintro e w' ⟨rfl, rfl⟩)
    | (go_at_call 23; (with_reducible refine (l3.out).mono ?_); rintro e w' ⟨rfl, rfl⟩)
    | (go_at_call 23; (with_reducible refine (l4.out).mono ?_); rintro e w' ⟨rfl, rfl⟩))
  go_ret
  exact ⟨rfl, hS4⟩
end Go.Proofs.Ytbgfjkgpekkciaa
