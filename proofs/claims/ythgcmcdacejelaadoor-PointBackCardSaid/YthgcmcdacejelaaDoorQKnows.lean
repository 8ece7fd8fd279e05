/- glebelaw07's own knows: it is true. -/
import Derived.Test.YthgcmcdacejelaaDoorQLaw
namespace Go.Proofs.YthgcmcdacejelaaDoor
open Go.RowKit
set_option linter.unusedVariables false
theorem knows_bytes : recL 1 2 ⟨#[97]⟩ ⟨#[98]⟩ 3 = [1, 2, 1, 97, 1, 98, 3] := by decide +kernel
theorem knows_read : readRec ([1, 2, 1, 97, 1, 98, 3], 0) = ((1, 2, ⟨#[97]⟩, ⟨#[98]⟩, 3), ([], 0)) := by decide +kernel
set_option maxRecDepth 100000 in
set_option maxHeartbeats 1600000 in
theorem knows7_any (w : World) : Calls Tryd.prog 8 #[] w fun e w' => e = .returned (.bool true) ∧ Below w.heap.size w w' := by
  go_enter Tryd.func8, Tryd.ntmps8
  go_wp2_with fail
  refine (putRec_yes 1 2 ⟨#[97]⟩ ⟨#[98]⟩ 3 _ (by decide +kernel)).mono ?_
  rintro e w1 ⟨A1, n1, c1, rfl, h1, hb1⟩
  rw [knows_bytes] at h1
  obtain rfl : n1 = 7 := h1.len.symm
  go_wp2_with fail
  refine (open_any A1 7 c1 _ w1 h1.rd rfl (by omega)).mono ?_
  rintro e w2 ⟨g, A2, n2, c2, rfl, h2, hb2⟩
  go_wp2_with fail
  refine (takeRec_any (s := ([1, 2, 1, 97, 1, 98, 3], 0)) ⟨_, _, _, h2⟩ knows_read).mono ?_
  rintro e w3 ⟨rfl, ⟨A3, n3, c3, h3⟩, ho3⟩
  have hb3 : Below w1.heap.size w2 w3 := ho3.below hb2.size (fun b z => z ▸ h2.lie)
  have hb03 : Below w1.heap.size w1 w3 := hb2.trans hb3
  have hrd := h1.rd.below hb03 (Nat.le_refl _)
  have tx := fun W (hW : Since w3 W) => text_of W 7 c1 (hrd.below hW hb03.size) rfl
  have hs4 : Since w3 (w3.alloc (.cells #[.int .i64 1, .int .i64 2, .string ⟨#[97]⟩, .string ⟨#[98]⟩, .int .i64 3] 36)) := (Since.refl w3).alloc _
  have tx1 := tx _ hs4
  have h4 := (RdS.since ⟨_, _, _, h3⟩ hs4 : RdS _ _ _ (([], 0) : RSt))
  obtain ⟨A4, n4, c4, h4⟩ := h4
  have DN := Lib.hid (wdone h4)
  have hb04 : Below w.heap.size w (w3.alloc (.cells #[.int .i64 1, .int .i64 2, .string ⟨#[97]⟩, .string ⟨#[98]⟩, .int .i64 3] 36)) := (hb1.trans (hb03.mono hb1.size)).trans (hs4.mono (Nat.le_trans hb1.size hb03.size))
  clear h1 h2 h3 h4 hb1 hb2 hb3 hb03 hrd tx hs4 ho3
  go_wp2_with (first
    | (go_at_call 23; (with_reducible refine (num7_any _ _).mono ?_); rintro e w' ⟨rfl, rfl⟩)
    | (go_at_call 43; (with_reducible refine DN.out.mono ?_); rintro e w' ⟨rfl, rfl⟩))
  go_ret
  exact ⟨rfl, hb04⟩
end Go.Proofs.YthgcmcdacejelaaDoor
