/- Beside, Apart: the program's and the document's; what must come. -/
import Derived.Test.YtgnhamhkpbadbaaBLength
import Derived.Test.YtgnhamhkpbadbaaBRefL
namespace Go.Proofs.Ytgnhamhkpbadbaa
open Go.RowKit
set_option linter.unusedVariables false
set_option linter.unusedSimpArgs false
theorem bLength_at {k d b f c v : Int} (h : lenP k d b f c = v) (w : World) : Calls Try.prog 29 #[.agg #[.int .i64 k], .agg #[.int .i64 d, .int .i64 b], .agg #[.int .i64 f, .int .i64 c]] w fun e w' => e = .returned (.int .i64 v) ∧ Below w.heap.size w w' := h ▸ bLength_any k d b f c w
theorem rLength_at {k d b f c v : Int} (h : lenP k d b f c = v) (w : World) : Calls Try.prog 30 #[.int .i64 k, .agg #[.int .i64 d, .int .i64 b], .agg #[.int .i64 f, .int .i64 c]] w fun e w' => e = .returned (.int .i64 v) ∧ Below w.heap.size w w' := h ▸ rLength_any k d b f c w
/-- Are they beside each other? -/
def besB (k d b f c : Int) : Bool := decide (0 < lenP k d b f c)
set_option maxHeartbeats 800000 in
theorem bBeside_at {k d b f c : Int} {v : Bool} (h : besB k d b f c = v) (w : World) : Calls Try.prog 31 #[.agg #[.int .i64 k], .agg #[.int .i64 d, .int .i64 b], .agg #[.int .i64 f, .int .i64 c]] w fun e w' => e = .returned (.bool v) ∧ Below w.heap.size w w' := by
  subst h
  obtain ⟨w0, hw0⟩ : ∃ w0, w0 = ((w.alloc (.cells #[.int .i64 k] 65)).alloc (.cells #[.int .i64 d, .int .i64 b] 27)).alloc (.cells #[.int .i64 f, .int .i64 c] 27) := ⟨_, rfl⟩
  have hs0 : Since w w0 := by rw [hw0]; exact (((Since.refl w).alloc _).alloc _).alloc _
  have wh0 : Whole w0 (w.heap.size) 65 #[.int .i64 k] := by rw [hw0]; exact ((Whole.new w _ _).alloc _).alloc _
  have wh1 : Whole w0 (w.heap.size + 1) 27 #[.int .i64 d, .int .i64 b] := by rw [hw0]; exact ((Whole.new (w.alloc _) _ _).alloc _).at_ (by simp)
  have wh2 : Whole w0 (w.heap.size + 1 + 1) 27 #[.int .i64 f, .int .i64 c] := by rw [hw0]; exact (Whole.new ((w.alloc _).alloc _) _ _).at_ (by simp)
  have HW := Lib.hid hw0
  have c0_0 := box_cell wh0 0 (.int .i64 k) rfl
  have c1_0 := box_cell wh1 0 (.int .i64 d) rfl
  have c1_1 := box_cell wh1 1 (.int .i64 b) rfl
  have c2_0 := box_cell wh2 0 (.int .i64 f) rfl
  have c2_1 := box_cell wh2 1 (.int .i64 c) rfl
  have hsr := Since.refl w0
  have hsd := hsr.drew
  clear hw0 wh0 wh1 wh2
  unfold besB
  obtain ⟨l, hl⟩ : ∃ l, lenP k d b f c = l := ⟨_, rfl⟩
  rw [hl]
  have H := Lib.hid hl
  clear hl
  go_enter Try.func31, Try.ntmps31
  go_wp2_with fail
  rw [← HW.out]
  go_wp2_with (go_at_call 29; (with_reducible refine (Calls.since (by assumption) (bLength_at H.out _)).mono ?_); rintro e w1 ⟨rfl, hb1⟩)
  go_ret
  exact ⟨rfl, hs0.trans hb1⟩
set_option maxHeartbeats 800000 in
theorem rBeside_at {k d b f c : Int} {v : Bool} (h : besB k d b f c = v) (w : World) : Calls Try.prog 32 #[.int .i64 k, .agg #[.int .i64 d, .int .i64 b], .agg #[.int .i64 f, .int .i64 c]] w fun e w' => e = .returned (.bool v) ∧ Below w.heap.size w w' := by
  subst h
  obtain ⟨w0, hw0⟩ : ∃ w0, w0 = (w.alloc (.cells #[.int .i64 d, .int .i64 b] 27)).alloc (.cells #[.int .i64 f, .int .i64 c] 27) := ⟨_, rfl⟩
  have hs0 : Since w w0 := by rw [hw0]; exact ((Since.refl w).alloc _).alloc _
  have wh0 : Whole w0 (w.heap.size) 27 #[.int .i64 d, .int .i64 b] := by rw [hw0]; exact (Whole.new w _ _).alloc _
  have wh1 : Whole w0 (w.heap.size + 1) 27 #[.int .i64 f, .int .i64 c] := by rw [hw0]; exact (Whole.new (w.alloc _) _ _).at_ (by simp)
  have HW := Lib.hid hw0
  have c0_0 := box_cell wh0 0 (.int .i64 d) rfl
  have c0_1 := box_cell wh0 1 (.int .i64 b) rfl
  have c1_0 := box_cell wh1 0 (.int .i64 f) rfl
  have c1_1 := box_cell wh1 1 (.int .i64 c) rfl
  have hsr := Since.refl w0
  have hsd := hsr.drew
  clear hw0 wh0 wh1
  unfold besB
  obtain ⟨l, hl⟩ : ∃ l, lenP k d b f c = l := ⟨_, rfl⟩
  rw [hl]
  have H := Lib.hid hl
  clear hl
  go_enter Try.func32, Try.ntmps32
  go_wp2_with fail
  rw [← HW.out]
  go_wp2_with (go_at_call 30; (with_reducible refine (Calls.since (by assumption) (rLength_at H.out _)).mono ?_); rintro e w1 ⟨rfl, hb1⟩)
  go_ret
  exact ⟨rfl, hs0.trans hb1⟩
/-- How far a cell is from a zone. -/
def aptZ (k d b x y : Int) : Int := if okP k d b = true then distR k (zoneR k d b) x y else -1
set_option maxHeartbeats 1600000 in
theorem bApart_at {k d b x y v : Int} (h : aptZ k d b x y = v) (w : World) : Calls Try.prog 33 #[.agg #[.int .i64 k], .agg #[.int .i64 d, .int .i64 b], .agg #[.int .i64 x, .int .i64 y]] w fun e w' => e = .returned (.int .i64 v) ∧ Below w.heap.size w w' := by
  subst h
  obtain ⟨p, q, r, s, E, hO⟩ := of_ex k d b
  obtain ⟨w0, hw0⟩ : ∃ w0, w0 = ((w.alloc (.cells #[.int .i64 k] 65)).alloc (.cells #[.int .i64 d, .int .i64 b] 27)).alloc (.cells #[.int .i64 x, .int .i64 y] 25) := ⟨_, rfl⟩
  have hs0 : Since w w0 := by rw [hw0]; exact (((Since.refl w).alloc _).alloc _).alloc _
  have wh0 : Whole w0 (w.heap.size) 65 #[.int .i64 k] := by rw [hw0]; exact ((Whole.new w _ _).alloc _).alloc _
  have wh1 : Whole w0 (w.heap.size + 1) 27 #[.int .i64 d, .int .i64 b] := by rw [hw0]; exact ((Whole.new (w.alloc _) _ _).alloc _).at_ (by simp)
  have wh2 : Whole w0 (w.heap.size + 1 + 1) 25 #[.int .i64 x, .int .i64 y] := by rw [hw0]; exact (Whole.new ((w.alloc _).alloc _) _ _).at_ (by simp)
  have HW := Lib.hid hw0
  have c0_0 := box_cell wh0 0 (.int .i64 k) rfl
  have c1_0 := box_cell wh1 0 (.int .i64 d) rfl
  have c1_1 := box_cell wh1 1 (.int .i64 b) rfl
  have c2_0 := box_cell wh2 0 (.int .i64 x) rfl
  have c2_1 := box_cell wh2 1 (.int .i64 y) rfl
  have hsr := Since.refl w0
  have hsd := hsr.drew
  clear hw0 wh0 wh1 wh2
  have HO := Lib.hid hO
  cases h1 : okP k d b
  · obtain rfl := ofz_no hO h1
    rw [show aptZ k d b x y = -1 from if_neg (by rw [h1]; exact Bool.false_ne_true)]
    clear hO h1
    go_enter Try.func33, Try.ntmps33
    go_wp2_with fail
    rw [← HW.out]
    go_wp2_with ((go_at_call 82; (with_reducible refine (Calls.since (by assumption) (wOf_at _ HO.out)).mono ?_); rintro e w1 ⟨rfl, hb1⟩); have hsa : Since w0 (w1.alloc (.cells #[.int .i64 p, .int .i64 q, .int .i64 r, .int .i64 s] 127)) := hb1.alloc _)
    go_ret
    exact ⟨rfl, hs0.trans hsa⟩
  · obtain ⟨rfl, hz⟩ : E = 0 ∧ zoneR k d b = ⟨p, q, r, s⟩ := by
      rcases hO with ⟨_, z, e⟩ | ⟨g, _⟩
      · exact ⟨e, z⟩
      · rw [h1] at g; exact absurd g (by decide)
    have bd := zone_bd h1
    have sb := side_bd k
    rw [hz] at bd
    dsimp only at bd
    rw [show aptZ k d b x y = distR k ⟨p, q, r, s⟩ x y by unfold aptZ; rw [if_pos h1, hz]]
    obtain ⟨l, hl⟩ : ∃ l, distR k ⟨p, q, r, s⟩ x y = l := ⟨_, rfl⟩
    rw [hl]
    have HD := Lib.hid (fun W : World => hl ▸ dist_c k p q r s x y (by omega) (by omega) W)
    clear hO h1 hz bd sb hl
    go_enter Try.func33, Try.ntmps33
    go_wp2_with fail
    rw [← HW.out]
    go_wp2_with (first | ((go_at_call 82; (with_reducible refine (Calls.since (by assumption) (wOf_at _ HO.out)).mono ?_); rintro e w1 ⟨rfl, hb1⟩); have hsa : Since w0 (w1.alloc (.cells #[.int .i64 p, .int .i64 q, .int .i64 r, .int .i64 s] 127)) := hb1.alloc _) | (go_at_call 83; (with_reducible refine (Calls.since (by assumption) (HD.out _)).mono ?_); rintro e w2 ⟨rfl, hb2⟩))
    go_ret
    exact ⟨rfl, hs0.trans hb2⟩
set_option maxHeartbeats 1600000 in
theorem rApart_at {k d b x y v : Int} (h : aptZ k d b x y = v) (w : World) : Calls Try.prog 34 #[.int .i64 k, .agg #[.int .i64 d, .int .i64 b], .agg #[.int .i64 x, .int .i64 y]] w fun e w' => e = .returned (.int .i64 v) ∧ Below w.heap.size w w' := by
  subst h
  obtain ⟨p, q, r, s, E, hO⟩ := of_ex k d b
  obtain ⟨w0, hw0⟩ : ∃ w0, w0 = (w.alloc (.cells #[.int .i64 d, .int .i64 b] 27)).alloc (.cells #[.int .i64 x, .int .i64 y] 25) := ⟨_, rfl⟩
  have hs0 : Since w w0 := by rw [hw0]; exact ((Since.refl w).alloc _).alloc _
  have wh0 : Whole w0 (w.heap.size) 27 #[.int .i64 d, .int .i64 b] := by rw [hw0]; exact (Whole.new w _ _).alloc _
  have wh1 : Whole w0 (w.heap.size + 1) 25 #[.int .i64 x, .int .i64 y] := by rw [hw0]; exact (Whole.new (w.alloc _) _ _).at_ (by simp)
  have HW := Lib.hid hw0
  have c0_0 := box_cell wh0 0 (.int .i64 d) rfl
  have c0_1 := box_cell wh0 1 (.int .i64 b) rfl
  have c1_0 := box_cell wh1 0 (.int .i64 x) rfl
  have c1_1 := box_cell wh1 1 (.int .i64 y) rfl
  have hsr := Since.refl w0
  have hsd := hsr.drew
  clear hw0 wh0 wh1
  have HO := Lib.hid hO
  cases h1 : okP k d b
  · obtain rfl := ofz_no hO h1
    rw [show aptZ k d b x y = -1 from if_neg (by rw [h1]; exact Bool.false_ne_true)]
    clear hO h1
    go_enter Try.func34, Try.ntmps34
    go_wp2_with fail
    rw [← HW.out]
    go_wp2_with ((go_at_call 76; (with_reducible refine (Calls.since (by assumption) (wrOf_at _ HO.out)).mono ?_); rintro e w1 ⟨rfl, hb1⟩); have hsa : Since w0 (w1.alloc (.cells #[.int .i64 p, .int .i64 q, .int .i64 r, .int .i64 s] 121)) := hb1.alloc _)
    go_ret
    exact ⟨rfl, hs0.trans hsa⟩
  · obtain ⟨rfl, hz⟩ : E = 0 ∧ zoneR k d b = ⟨p, q, r, s⟩ := by
      rcases hO with ⟨_, z, e⟩ | ⟨g, _⟩
      · exact ⟨e, z⟩
      · rw [h1] at g; exact absurd g (by decide)
    rw [show aptZ k d b x y = distR k ⟨p, q, r, s⟩ x y by unfold aptZ; rw [if_pos h1, hz]]
    obtain ⟨l, hl⟩ : ∃ l, distR k ⟨p, q, r, s⟩ x y = l := ⟨_, rfl⟩
    rw [hl]
    have HD := Lib.hid hl
    clear hO h1 hz hl
    go_enter Try.func34, Try.ntmps34
    go_wp2_with fail
    rw [← HW.out]
    go_wp2_with (first | ((go_at_call 76; (with_reducible refine (Calls.since (by assumption) (wrOf_at _ HO.out)).mono ?_); rintro e w1 ⟨rfl, hb1⟩); have hsa : Since w0 (w1.alloc (.cells #[.int .i64 p, .int .i64 q, .int .i64 r, .int .i64 s] 121)) := hb1.alloc _) | (go_at_call 84; (with_reducible refine (Calls.since (by assumption) (wrDist_at _ HD.out)).mono ?_); rintro e w2 ⟨rfl, hb2⟩))
    go_ret
    exact ⟨rfl, hs0.trans hb2⟩
theorem kn_len : lenP 1 1 0 1 1 = 2 := by kernel_rfl
theorem kn_bes : besB 1 1 1 1 0 = true := by kernel_rfl
theorem kn_bes2 : besB 1 1 0 0 0 = false := by kernel_rfl
theorem kn_apt : aptZ 1 1 1 0 0 = 1 := by kernel_rfl
set_option maxHeartbeats 1600000 in
theorem knows6 (w : World) : Calls Try.prog 35 #[] w fun e w' => e = .returned (.bool true) ∧ Below w.heap.size w w' := by
  obtain ⟨w0, hw0⟩ : ∃ w0, w0 = ((w.alloc (.cells #[.int .i64 1] 65)).alloc (.cells #[.int .i64 1, .int .i64 0] 27)).alloc (.cells #[.int .i64 1, .int .i64 1] 27) := ⟨_, rfl⟩
  have hs0 : Since w w0 := by rw [hw0]; exact (((Since.refl w).alloc _).alloc _).alloc _
  have v0 : Whole w0 w.heap.size 65 #[.int .i64 1] := by rw [hw0]; exact ((Whole.new w _ _).alloc _).alloc _
  have v1 : Whole w0 (w.heap.size + 1) 27 #[.int .i64 1, .int .i64 0] := by rw [hw0]; exact ((Whole.new (w.alloc _) _ _).alloc _).at_ (by simp)
  have v2 : Whole w0 (w.heap.size + 1 + 1) 27 #[.int .i64 1, .int .i64 1] := by rw [hw0]; exact (Whole.new ((w.alloc _).alloc _) _ _).at_ (by simp)
  have c0 := box_cell v0 0 _ rfl
  have c1 := box_cell v1 0 _ rfl
  have c2 := box_cell v1 1 _ rfl
  have c3 := box_cell v2 0 _ rfl
  have c4 := box_cell v2 1 _ rfl
  have HW := Lib.hid hw0
  have hsr := Since.refl w0
  clear hw0 v0 v1 v2
  go_enter Try.func35, Try.ntmps35
  go_upto_region 4 with fail
  rw [← HW.out]
  go_wp2_with (first | (go_at_call 29; (with_reducible refine (Calls.since (by assumption) (bLength_at kn_len _)).mono ?_); rintro e w1 ⟨rfl, hb1⟩) | (go_at_call 31; (with_reducible refine (Calls.since (by assumption) (bBeside_at kn_bes _)).mono ?_); rintro e w2 ⟨rfl, hb2⟩) | (go_at_call 31; (with_reducible refine (Calls.since (by assumption) (bBeside_at kn_bes2 _)).mono ?_); rintro e w3 ⟨rfl, hb3⟩) | (go_at_call 33; (with_reducible refine (Calls.since (by assumption) (bApart_at kn_apt _)).mono ?_); rintro e w4 ⟨rfl, hb4⟩))
  go_ret
  exact ⟨by rfl, hs0.trans hb4⟩
end Go.Proofs.Ytgnhamhkpbadbaa
