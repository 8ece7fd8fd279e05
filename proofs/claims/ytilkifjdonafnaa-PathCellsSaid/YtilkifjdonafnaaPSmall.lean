/- path.upper, Bit, Last, with, byX; cmp.Compare: each answers its number or path; it may make memory. -/
import Derived.Test.YtilkifjdonafnaaPRight
namespace Go.Proofs.Ytilkifjdonafnaa
open Go.RowKit
theorem field_p0 (x y : Int) (w : World) : (Instr.field 23 (.agg #[.int .i64 x, .int .i64 y]) 0).run Try.prog w = .ok (.int .i64 x) w := by kernel_rfl
theorem field_p1 (x y : Int) (w : World) : (Instr.field 23 (.agg #[.int .i64 x, .int .i64 y]) 1).run Try.prog w = .ok (.int .i64 y) w := by kernel_rfl
theorem and1 (x : Int) : bits .and .i64 x 1 = x % 2 := mask_mod 1 x
set_option maxHeartbeats 400000 in
theorem upper_any (d b m : Int) (w : World) (h0 : 0 ≤ m) (h1 : m ≤ d) (h2 : d ≤ 32) : Calls Try.prog 34 #[.agg #[.int .i64 d, .int .i64 b], .int .i64 m] w fun e w' => e = .returned (.agg #[.int .i64 m, .int .i64 (pv d b m)]) ∧ Below w.heap.size w w' := by
  go_enter Try.func34, Try.ntmps34
  go_wp2
  exact bodyPost_ret (v := .agg #[.int .i64 m, .int .i64 (pv d b m)]) (by simp [results, Try.results34, go_sem, pv]) rfl ⟨rfl, ((Since.refl w).alloc _).alloc _⟩
theorem upper_at {d b m v : Int} (hv : pv d b m = v) (w : World) (h0 : 0 ≤ m) (h1 : m ≤ d) (h2 : d ≤ 32) : Calls Try.prog 34 #[.agg #[.int .i64 d, .int .i64 b], .int .i64 m] w fun e w' => e = .returned (.agg #[.int .i64 m, .int .i64 v]) ∧ Below w.heap.size w w' := hv ▸ upper_any d b m w h0 h1 h2
set_option maxHeartbeats 400000 in
theorem bit_any (d b i : Int) (w : World) : Calls Try.prog 38 #[.agg #[.int .i64 d, .int .i64 b], .int .i64 i] w fun e w' => e = .returned (.int .i64 (bitI d b i)) ∧ Below w.heap.size w w' := by
  obtain ⟨w0, hw0⟩ : ∃ w0, w0 = w.alloc (.cells #[.int .i64 d, .int .i64 b] 23) := ⟨_, rfl⟩
  have hs0 : Since w w0 := by rw [hw0]; exact (Since.refl w).alloc _
  have wh0 : Whole w0 (w.heap.size) 23 #[.int .i64 d, .int .i64 b] := by rw [hw0]; exact Whole.new w _ _
  have HW := Lib.hid hw0
  have c0_0 := box_cell wh0 0 (.int .i64 d) rfl
  have c0_1 := box_cell wh0 1 (.int .i64 b) rfl
  have hsr := Since.refl w0
  have hsd := hsr.drew
  clear hw0 wh0
  cases h : fine d b with
  | false =>
    rw [bitI_no (by rw [h]; rintro ⟨e, _⟩; cases e)]
    replace h := Lib.hid h
    go_enter Try.func38, Try.ntmps38
    go_wp2_with fail
    rw [← HW.out]
    go_wp2_with (go_at_call 33; (with_reducible refine (Calls.since (by assumption) (mayBe_at h.out _)).mono ?_); rintro e w' ⟨rfl, hb⟩)
    go_ret
    exact ⟨rfl, hs0.trans hb⟩
  | true =>
    have hd := (fine_iff d b).1 h
    by_cases h0 : 0 ≤ i
    · by_cases h1 : i < d
      · rw [bitI_yes h h0 h1]
        obtain ⟨v, hv⟩ : ∃ v, pv d b (i + 1) = v := ⟨_, rfl⟩
        have ha := and1 v
        rw [hv]
        obtain ⟨hd1, hd2, _, _⟩ := hd
        have q1 : decide (i < 0) = false := decide_eq_false (by omega)
        have q2 : decide (d ≤ i) = false := decide_eq_false (by omega)
        have hfd := field_p1
        replace h := Lib.hid h
        replace hv := Lib.hid hv
        go_enter Try.func38, Try.ntmps38
        go_wp2_with fail
        rw [← HW.out]
        go_wp2_with (first
          | (go_at_call 33; (with_reducible refine (Calls.since (by assumption) (mayBe_at h.out _)).mono ?_); rintro e w1 ⟨rfl, hb1⟩)
          | (go_at_call 34; (with_reducible refine (Calls.since (by assumption) (upper_at hv.out _ (by omega) (by omega) (by omega))).mono ?_); rintro e w2 ⟨rfl, hb2⟩))
        go_ret
        exact ⟨rfl, hs0.trans hb2⟩
      · rw [bitI_no (fun e => h1 e.2.2)]
        have q1 : decide (i < 0) = false := decide_eq_false (by omega)
        have q2 : decide (d ≤ i) = true := decide_eq_true (by omega)
        clear hd h1
        replace h := Lib.hid h
        go_enter Try.func38, Try.ntmps38
        go_wp2_with fail
        rw [← HW.out]
        go_wp2_with (go_at_call 33; (with_reducible refine (Calls.since (by assumption) (mayBe_at h.out _)).mono ?_); rintro e w' ⟨rfl, hb⟩)
        go_ret
        exact ⟨rfl, hs0.trans hb⟩
    · rw [bitI_no (fun e => h0 e.2.1)]
      clear hd
      replace h := Lib.hid h
      go_enter Try.func38, Try.ntmps38
      go_wp2_with fail
      rw [← HW.out]
      go_wp2_with (go_at_call 33; (with_reducible refine (Calls.since (by assumption) (mayBe_at h.out _)).mono ?_); rintro e w' ⟨rfl, hb⟩)
      go_ret
      exact ⟨rfl, hs0.trans hb⟩
theorem bit_at {d b i v : Int} (h : bitI d b i = v) (w : World) : Calls Try.prog 38 #[.agg #[.int .i64 d, .int .i64 b], .int .i64 i] w fun e w' => e = .returned (.int .i64 v) ∧ Below w.heap.size w w' := h ▸ bit_any d b i w
/-- What with makes, in the machine's own numbers. -/
def wthD (d : Int) : Int := wrap64 (d + 1)
def wthB (b h : Int) : Int := bits .or .i64 (wrap64 (b * 2)) h
set_option maxHeartbeats 400000 in
theorem with_any (d b h : Int) (w : World) : Calls Try.prog 39 #[.agg #[.int .i64 d, .int .i64 b], .int .i64 h] w fun e w' => e = .returned (.agg #[.int .i64 (wthD d), .int .i64 (wthB b h)]) ∧ Below w.heap.size w w' := by
  go_enter Try.func39, Try.ntmps39
  go_wp2
  exact bodyPost_ret (v := .agg #[.int .i64 (wthD d), .int .i64 (wthB b h)]) (by simp [results, Try.results39, go_sem, wthD, wthB]) rfl ⟨rfl, ((Since.refl w).alloc _).alloc _⟩
theorem byX_any (i : Int) (w : World) : Calls Try.prog 43 #[.int .i64 i] w fun e w' => e = .returned (.bool (i.tmod 2 == 0)) ∧ w = w' := by
  go_enter Try.func43, Try.ntmps43
  go_wp2
  go_ret
  exact ⟨rfl, rfl⟩
theorem isNaN_any (i : Int) (w : World) : Calls Try.prog 50 #[.int .i64 i] w fun e w' => e = .returned (.bool false) ∧ w = w' := by
  go_enter Try.func50, Try.ntmps50
  go_wp2
  go_ret
  exact ⟨by simp, rfl⟩
/-- What cmp.Compare answers. -/
def cmpI (x y : Int) : Int := if x < y then -1 else if y < x then 1 else 0
theorem cmp_any (x y : Int) (w : World) : Calls Try.prog 41 #[.int .i64 x, .int .i64 y] w fun e w' => e = .returned (.int .i64 (cmpI x y)) ∧ w = w' := by
  by_cases h1 : x < y
  · rw [show cmpI x y = -1 from if_pos h1]
    go_enter Try.func41, Try.ntmps41
    go_wp2_with (go_at_call 50; (with_reducible refine (isNaN_any _ _).mono ?_); rintro e w' ⟨rfl, rfl⟩)
    go_ret
    exact ⟨rfl, rfl⟩
  · by_cases h2 : y < x
    · rw [show cmpI x y = 1 by unfold cmpI; rw [if_neg h1, if_pos h2]]
      go_enter Try.func41, Try.ntmps41
      go_wp2_with (go_at_call 50; (with_reducible refine (isNaN_any _ _).mono ?_); rintro e w' ⟨rfl, rfl⟩)
      go_ret
      exact ⟨rfl, rfl⟩
    · rw [show cmpI x y = 0 by unfold cmpI; rw [if_neg h1, if_neg h2]]
      go_enter Try.func41, Try.ntmps41
      go_wp2_with (go_at_call 50; (with_reducible refine (isNaN_any _ _).mono ?_); rintro e w' ⟨rfl, rfl⟩)
      go_ret
      exact ⟨rfl, rfl⟩
set_option maxHeartbeats 400000 in
theorem last_any (d b : Int) (w : World) : Calls Try.prog 27 #[.agg #[.int .i64 d, .int .i64 b]] w fun e w' => e = .returned (.int .i64 (bitI d b (d - 1))) ∧ Below w.heap.size w w' := by
  obtain ⟨w0, hw0⟩ : ∃ w0, w0 = w.alloc (.cells #[.int .i64 d, .int .i64 b] 23) := ⟨_, rfl⟩
  have hs0 : Since w w0 := by rw [hw0]; exact (Since.refl w).alloc _
  have wh0 : Whole w0 (w.heap.size) 23 #[.int .i64 d, .int .i64 b] := by rw [hw0]; exact Whole.new w _ _
  have HW := Lib.hid hw0
  have c0_0 := box_cell wh0 0 (.int .i64 d) rfl
  have c0_1 := box_cell wh0 1 (.int .i64 b) rfl
  have hsr := Since.refl w0
  have hsd := hsr.drew
  clear hw0 wh0
  have e1 : bitI d b (wrap64 (d - 1)) = bitI d b (d - 1) := by
    cases h : fine d b with
    | false => rw [bitI_no (by rw [h]; rintro ⟨e, _⟩; cases e), bitI_no (by rw [h]; rintro ⟨e, _⟩; cases e)]
    | true =>
      have hd := (fine_iff d b).1 h
      rw [IntWalk.wrap64_in _ ⟨by omega, by omega⟩]
  replace e1 := Lib.hid e1
  go_enter Try.func27, Try.ntmps27
  go_wp2_with fail
  rw [← HW.out]
  go_wp2_with (go_at_call 38; (with_reducible refine (Calls.since (by assumption) (bit_any _ _ _ _)).mono ?_); rintro e w' ⟨rfl, hb⟩)
  go_ret
  exact ⟨ret_int e1.out, hs0.trans hb⟩
end Go.Proofs.Ytilkifjdonafnaa
