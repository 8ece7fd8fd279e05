/- Beside, Apart: the program's and the document's; what must come. What is beside a half. Pure. The law's count of pairs of cells. -/
import Derived.Test.YtbbnojfecmocgaaK09
import Derived.Test.YtbbnojfecmocgaaK11
import Derived.Test.YtbbnojfecmocgaaK17
import Derived.Deep.Cut
import Derived.Deep.CutRange
import Derived.BigQuiet
namespace Go.Proofs.Ytbbnojfecmocgaa
open Go.RowKit
set_option linter.unusedVariables false
set_option linter.unusedSimpArgs false
theorem bLength_at {k d b f c v : Int} (h : lenP k d b f c = v) (w : World) : Calls Try.prog 32 #[.agg #[.int .i64 k], .agg #[.int .i64 d, .int .i64 b], .agg #[.int .i64 f, .int .i64 c]] w fun e w' => e = .returned (.int .i64 v) ∧ Below w.heap.size w w' := h ▸ bLength_any k d b f c w
/-- Are they beside each other? -/
def besB (k d b f c : Int) : Bool := decide (0 < lenP k d b f c)
set_option maxHeartbeats 800000 in
theorem bBeside_at {k d b f c : Int} {v : Bool} (h : besB k d b f c = v) (w : World) : Calls Try.prog 11 #[.agg #[.int .i64 k], .agg #[.int .i64 d, .int .i64 b], .agg #[.int .i64 f, .int .i64 c]] w fun e w' => e = .returned (.bool v) ∧ Below w.heap.size w w' := by
  subst h
  obtain ⟨w0, hw0⟩ : ∃ w0, w0 = ((w.alloc (.cells #[.int .i64 k] 26)).alloc (.cells #[.int .i64 d, .int .i64 b] 35)).alloc (.cells #[.int .i64 f, .int .i64 c] 35) := ⟨_, rfl⟩
  have hs0 : Since w w0 := by rw [hw0]; exact (((Since.refl w).alloc _).alloc _).alloc _
  have wh0 : Whole w0 (w.heap.size) 26 #[.int .i64 k] := by rw [hw0]; exact ((Whole.new w _ _).alloc _).alloc _
  have wh1 : Whole w0 (w.heap.size + 1) 35 #[.int .i64 d, .int .i64 b] := by rw [hw0]; exact ((Whole.new (w.alloc _) _ _).alloc _).at_ (by simp)
  have wh2 : Whole w0 (w.heap.size + 1 + 1) 35 #[.int .i64 f, .int .i64 c] := by rw [hw0]; exact (Whole.new ((w.alloc _).alloc _) _ _).at_ (by simp)
  have HW := Lib.hid hw0
  have c0_0 := box_cell wh0 0 (.int .i64 k) rfl
  have c1_0 := box_cell wh1 0 (.int .i64 d) rfl
  have c1_1 := box_cell wh1 1 (.int .i64 b) rfl
  have c2_0 := box_cell wh2 0 (.int .i64 f) rfl
  have c2_1 := box_cell wh2 1 (.int .i64 c) rfl
  have hsr := Since.refl w0
  have hsd := hsr.drew
  clear hw0 wh0 wh1 wh2
  unfold besB
  obtain ⟨l, hl⟩ : ∃ l, lenP k d b f c = l := ⟨_, rfl⟩
  rw [hl]
  have H := Lib.hid hl
  clear hl
  go_enter Try.func11, Try.ntmps11
  go_wp2_with fail
  rw [← HW.out]
  go_wp2_with (go_at_call 32; (with_reducible refine (Calls.since (by assumption) (bLength_at H.out _)).mono ?_); rintro e w1 ⟨rfl, hb1⟩)
  go_ret
  exact ⟨rfl, hs0.trans hb1⟩
/-- How far a cell is from a zone. -/
def aptZ (k d b x y : Int) : Int := if okP k d b = true then distR k (zoneR k d b) x y else -1
set_option maxHeartbeats 1600000 in
theorem bApart_at {k d b x y v : Int} (h : aptZ k d b x y = v) (w : World) : Calls Try.prog 9 #[.agg #[.int .i64 k], .agg #[.int .i64 d, .int .i64 b], .agg #[.int .i64 x, .int .i64 y]] w fun e w' => e = .returned (.int .i64 v) ∧ Below w.heap.size w w' := by
  subst h
  obtain ⟨p, q, r, s, E, hO⟩ := of_ex k d b
  obtain ⟨w0, hw0⟩ : ∃ w0, w0 = ((w.alloc (.cells #[.int .i64 k] 26)).alloc (.cells #[.int .i64 d, .int .i64 b] 35)).alloc (.cells #[.int .i64 x, .int .i64 y] 24) := ⟨_, rfl⟩
  have hs0 : Since w w0 := by rw [hw0]; exact (((Since.refl w).alloc _).alloc _).alloc _
  have wh0 : Whole w0 (w.heap.size) 26 #[.int .i64 k] := by rw [hw0]; exact ((Whole.new w _ _).alloc _).alloc _
  have wh1 : Whole w0 (w.heap.size + 1) 35 #[.int .i64 d, .int .i64 b] := by rw [hw0]; exact ((Whole.new (w.alloc _) _ _).alloc _).at_ (by simp)
  have wh2 : Whole w0 (w.heap.size + 1 + 1) 24 #[.int .i64 x, .int .i64 y] := by rw [hw0]; exact (Whole.new ((w.alloc _).alloc _) _ _).at_ (by simp)
  have HW := Lib.hid hw0
  have c0_0 := box_cell wh0 0 (.int .i64 k) rfl
  have c1_0 := box_cell wh1 0 (.int .i64 d) rfl
  have c1_1 := box_cell wh1 1 (.int .i64 b) rfl
  have c2_0 := box_cell wh2 0 (.int .i64 x) rfl
  have c2_1 := box_cell wh2 1 (.int .i64 y) rfl
  have hsr := Since.refl w0
  have hsd := hsr.drew
  clear hw0 wh0 wh1 wh2
  have HO := Lib.hid hO
  cases h1 : okP k d b
  · obtain rfl := ofz_no hO h1
    rw [show aptZ k d b x y = -1 from if_neg (by rw [h1]; exact Bool.false_ne_true)]
    clear hO h1
    go_enter Try.func9, Try.ntmps9
    go_wp2_with fail
    rw [← HW.out]
    go_wp2_with ((go_at_call 35; (with_reducible refine (Calls.since (by assumption) (wOf_at _ HO.out)).mono ?_); rintro e w1 ⟨rfl, hb1⟩); have hsa : Since w0 (w1.alloc (.cells #[.int .i64 p, .int .i64 q, .int .i64 r, .int .i64 s] 81)) := hb1.alloc _)
    go_ret
    exact ⟨rfl, hs0.trans hsa⟩
  · obtain ⟨rfl, hz⟩ : E = 0 ∧ zoneR k d b = ⟨p, q, r, s⟩ := by
      rcases hO with ⟨_, z, e⟩ | ⟨g, _⟩
      · exact ⟨e, z⟩
      · rw [h1] at g; exact absurd g (by decide)
    have bd := zone_bd h1
    have sb := side_bd k
    rw [hz] at bd
    dsimp only at bd
    rw [show aptZ k d b x y = distR k ⟨p, q, r, s⟩ x y by unfold aptZ; rw [if_pos h1, hz]]
    obtain ⟨l, hl⟩ : ∃ l, distR k ⟨p, q, r, s⟩ x y = l := ⟨_, rfl⟩
    rw [hl]
    have HD := Lib.hid (fun W : World => hl ▸ dist_c k p q r s x y (by omega) (by omega) W)
    clear hO h1 hz bd sb hl
    go_enter Try.func9, Try.ntmps9
    go_wp2_with fail
    rw [← HW.out]
    go_wp2_with (first | ((go_at_call 35; (with_reducible refine (Calls.since (by assumption) (wOf_at _ HO.out)).mono ?_); rintro e w1 ⟨rfl, hb1⟩); have hsa : Since w0 (w1.alloc (.cells #[.int .i64 p, .int .i64 q, .int .i64 r, .int .i64 s] 81)) := hb1.alloc _) | (go_at_call 36; (with_reducible refine (Calls.since (by assumption) (HD.out _)).mono ?_); rintro e w2 ⟨rfl, hb2⟩))
    go_ret
    exact ⟨rfl, hs0.trans hb2⟩
theorem kn_len : lenP 1 1 0 1 1 = 2 := by kernel_rfl
theorem kn_bes : besB 1 1 1 1 0 = true := by kernel_rfl
theorem kn_bes2 : besB 1 1 0 0 0 = false := by kernel_rfl
theorem kn_apt : aptZ 1 1 1 0 0 = 1 := by kernel_rfl
set_option maxHeartbeats 1600000 in
theorem knows6 (w : World) : Calls Try.prog 6 #[] w fun e w' => e = .returned (.bool true) ∧ Below w.heap.size w w' := by
  obtain ⟨w0, hw0⟩ : ∃ w0, w0 = ((w.alloc (.cells #[.int .i64 1] 26)).alloc (.cells #[.int .i64 1, .int .i64 0] 35)).alloc (.cells #[.int .i64 1, .int .i64 1] 35) := ⟨_, rfl⟩
  have hs0 : Since w w0 := by rw [hw0]; exact (((Since.refl w).alloc _).alloc _).alloc _
  have v0 : Whole w0 w.heap.size 26 #[.int .i64 1] := by rw [hw0]; exact ((Whole.new w _ _).alloc _).alloc _
  have v1 : Whole w0 (w.heap.size + 1) 35 #[.int .i64 1, .int .i64 0] := by rw [hw0]; exact ((Whole.new (w.alloc _) _ _).alloc _).at_ (by simp)
  have v2 : Whole w0 (w.heap.size + 1 + 1) 35 #[.int .i64 1, .int .i64 1] := by rw [hw0]; exact (Whole.new ((w.alloc _).alloc _) _ _).at_ (by simp)
  have c0 := box_cell v0 0 _ rfl
  have c1 := box_cell v1 0 _ rfl
  have c2 := box_cell v1 1 _ rfl
  have c3 := box_cell v2 0 _ rfl
  have c4 := box_cell v2 1 _ rfl
  have HW := Lib.hid hw0
  have hsr := Since.refl w0
  clear hw0 v0 v1 v2
  go_enter Try.func6, Try.ntmps6
  go_upto_region 4 with fail
  rw [← HW.out]
  go_wp2_with (first | (go_at_call 32; (with_reducible refine (Calls.since (by assumption) (bLength_at kn_len _)).mono ?_); rintro e w1 ⟨rfl, hb1⟩) | (go_at_call 11; (with_reducible refine (Calls.since (by assumption) (bBeside_at kn_bes _)).mono ?_); rintro e w2 ⟨rfl, hb2⟩) | (go_at_call 11; (with_reducible refine (Calls.since (by assumption) (bBeside_at kn_bes2 _)).mono ?_); rintro e w3 ⟨rfl, hb3⟩) | (go_at_call 9; (with_reducible refine (Calls.since (by assumption) (bApart_at kn_apt _)).mono ?_); rintro e w4 ⟨rfl, hb4⟩))
  go_ret
  exact ⟨by rfl, hs0.trans hb4⟩
end Go.Proofs.Ytbbnojfecmocgaa
namespace Go.Proofs.Ytbbnojfecmocgaa
set_option linter.unusedSimpArgs false
/-- Two spans lie beside each other. -/
def adj (s a n b m : Int) : Prop := ov a n b m = 0 ∧ (a + n = b ∨ (a + n = s ∧ b = 0) ∨ b + m = a ∨ (b + m = s ∧ a = 0))
theorem ov_nn (a n b m : Int) : 0 ≤ ov a n b m := by unfold ov; omega
theorem tou_pos {k a n b m : Int} (hs : 2 ≤ side k) (ha : 0 ≤ a ∧ 0 < n ∧ a + n ≤ side k) (hb : 0 ≤ b ∧ 0 < m ∧ b + m ≤ side k) (ho : ov a n b m = 0) : 0 ≤ tou k a (a + n - 1) b (b + m - 1) ∧ (0 < tou k a (a + n - 1) b (b + m - 1) ↔ adj (side k) a n b m) := by
  have n1 := nxt_cases (s := side k) ha (b := b) (by omega)
  have n2 := nxt_cases (s := side k) hb (b := a) (by omega)
  have ht : twc (side k) a n b m = true → (nxt (side k) a n b = true ∧ nxt (side k) b m a = true) := by unfold twc; simp only [Bool.and_eq_true]; exact fun z => z.1
  rw [tou_eq hs ha hb ho]
  unfold adj
  by_cases c : nxt (side k) a n b = true ∨ nxt (side k) b m a = true
  · rw [if_pos c]
    refine ⟨by split <;> omega, ⟨fun _ => ⟨ho, ?_⟩, fun _ => by split <;> omega⟩⟩
    rcases c with c | c
    · rcases n1 with n1 | n1
      · omega
      · rw [c] at n1; exact absurd n1.1 (by decide)
    · rcases n2 with n2 | n2
      · omega
      · rw [c] at n2; exact absurd n2.1 (by decide)
  · rw [if_neg c, if_neg (fun z => c (.inl (ht z).1))]
    refine ⟨by omega, ⟨fun z => absurd z (by omega), fun z => ?_⟩⟩
    rcases n1 with n1 | n1
    · exact absurd (.inl n1.1) c
    · rcases n2 with n2 | n2
      · exact absurd (.inr n2.1) c
      · omega
theorem len_met {k d b e c : Int} (m : metB d b e c = true) : lenP k d b e c = 0 := if_neg (by unfold apz; rw [m]; simp)
theorem len_pos {k d b e c : Int} (h : okP k d b = true) (g : okP k e c = true) (m : metB d b e c = false) : 0 < lenP k d b e c ↔
    (adj (side k) (zoneR k d b).x (zoneR k d b).w (zoneR k e c).x (zoneR k e c).w ∧ 0 < ov (zoneR k d b).y (zoneR k d b).h (zoneR k e c).y (zoneR k e c).h) ∨
    (adj (side k) (zoneR k d b).y (zoneR k d b).h (zoneR k e c).y (zoneR k e c).h ∧ 0 < ov (zoneR k d b).x (zoneR k d b).w (zoneR k e c).x (zoneR k e c).w) := by
  have hz := (zones_ov h g).1 m
  have b1 := zone_bd h
  have b2 := zone_bd g
  have hs := ok_side h
  have l : ∀ {T u : Int} {P : Prop}, 0 ≤ T → (0 < T ↔ P) → 0 ≤ u → (0 ≤ T * u ∧ (0 < T * u ↔ P ∧ 0 < u)) := by
    intro T u P hT hP hu
    refine ⟨Int.mul_nonneg hT hu, ⟨fun z => ?_, fun z => Int.mul_pos (hP.2 z.1) z.2⟩⟩
    rcases Int.lt_or_le 0 T with c1 | c1
    · rcases Int.lt_or_le 0 u with c2 | c2
      · exact ⟨hP.1 c1, c2⟩
      · rw [show u = 0 by omega, Int.mul_zero] at z; omega
    · rw [show T = 0 by omega, Int.zero_mul] at z; omega
  have ax : ∀ {a n b m u : Int}, (0 ≤ a ∧ 0 < n ∧ a + n ≤ side k) → (0 ≤ b ∧ 0 < m ∧ b + m ≤ side k) → (ov a n b m = 0 ∨ u = 0) → 0 ≤ u → (0 ≤ tou k a (a + n - 1) b (b + m - 1) * u ∧ (0 < tou k a (a + n - 1) b (b + m - 1) * u ↔ adj (side k) a n b m ∧ 0 < u)) := by
    intro a n b m u ha hb ho hu
    by_cases h0 : ov a n b m = 0
    · have := tou_pos hs ha hb h0
      exact l this.1 this.2 hu
    · obtain rfl : u = 0 := by omega
      rw [Int.mul_zero]
      exact ⟨by omega, ⟨fun z => absurd z (by omega), fun z => absurd z.2 (by omega)⟩⟩
  unfold lenP
  rw [if_pos (by unfold apz; rw [h, g, m]; rfl)]
  unfold zx0 zx1 zy0 zy1
  rw [shd_ov, shd_ov]
  have a1 := ax b1.1 b2.1 (u := ov (zoneR k d b).y (zoneR k d b).h (zoneR k e c).y (zoneR k e c).h) (by omega) (ov_nn _ _ _ _)
  have a2 := ax b1.2 b2.2 (u := ov (zoneR k d b).x (zoneR k d b).w (zoneR k e c).x (zoneR k e c).w) (by omega) (ov_nn _ _ _ _)
  rw [← a1.2, ← a2.2]
  omega
end Go.Proofs.Ytbbnojfecmocgaa
namespace Go.Proofs.Ytbbnojfecmocgaa
open Go.RowKit
set_option linter.unusedVariables false
set_option linter.unusedSimpArgs false
theorem law6_num (k : Int) (w : World) : Calls Try.prog 29 #[.int .i64 k] w fun e w' => e = .returned (.int .i64 k) ∧ w = w' := by
  go_enter Try.func29, Try.ntmps29
  go_wp2
  go_ret
  exact ⟨rfl, rfl⟩
end Go.Proofs.Ytbbnojfecmocgaa
