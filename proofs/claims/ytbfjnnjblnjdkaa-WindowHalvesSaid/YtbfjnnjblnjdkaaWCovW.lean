/- window.Covers: is each cell of the zone one of the window's? -/
import Derived.Test.YtbfjnnjblnjdkaaWCutW
namespace Go.Proofs.Ytbfjnnjblnjdkaa
open Go.RowKit
theorem covR_eq {k e f : Int} {r : Rc} (ho : okP k e f = true) : covR k r e f = (sumF areaR (cutR k r e f) == areaR (zoneR k e f)) := by
  rw [Bool.eq_iff_iff, beq_iff_eq]
  unfold covR
  rw [ho]
  cases h : winR k r
  · simp only [Bool.false_and, Bool.false_eq_true, false_iff]
    rw [cutR_no (fun z => by rw [h] at z; exact Bool.false_ne_true z.1)]
    have h1 := zone_right ho
    have h2 := Int.mul_pos h1.2.1 h1.2.2.1
    rw [zone_area ho]
    exact fun z => by rw [← z] at h2; exact absurd h2 (by decide)
  · simp
set_option maxRecDepth 100000 in
set_option maxHeartbeats 3200000 in
theorem covers_c : CoversC := by
  intro k a b c d e f w
  obtain ⟨p, q, r, s, E, hE⟩ := ofZ_ex k e f
  have HE := Lib.hid hE
  obtain ⟨w0, hw0⟩ : ∃ w0, w0 = ((w.alloc (.cells #[.int .i64 k] 29)).alloc (.cells #[.int .i64 a, .int .i64 b, .int .i64 c, .int .i64 d] 34)).alloc (.cells #[.int .i64 e, .int .i64 f] 25) := ⟨_, rfl⟩
  have hs0 : Since w w0 := by rw [hw0]; exact (((Since.refl w).alloc _).alloc _).alloc _
  have wh0 : Whole w0 (w.heap.size) 29 #[.int .i64 k] := by rw [hw0]; exact ((Whole.new w _ _).alloc _).alloc _
  have wh1 : Whole w0 (w.heap.size + 1) 34 #[.int .i64 a, .int .i64 b, .int .i64 c, .int .i64 d] := by rw [hw0]; exact ((Whole.new (w.alloc _) _ _).alloc _).at_ (by simp)
  have wh2 : Whole w0 (w.heap.size + 1 + 1) 25 #[.int .i64 e, .int .i64 f] := by rw [hw0]; exact (Whole.new ((w.alloc _).alloc _) _ _).at_ (by simp)
  have HW := Lib.hid hw0
  have c0_0 := box_cell wh0 0 (.int .i64 k) rfl
  have c1_0 := box_cell wh1 0 (.int .i64 a) rfl
  have c1_1 := box_cell wh1 1 (.int .i64 b) rfl
  have c1_2 := box_cell wh1 2 (.int .i64 c) rfl
  have c1_3 := box_cell wh1 3 (.int .i64 d) rfl
  have c2_0 := box_cell wh2 0 (.int .i64 e) rfl
  have c2_1 := box_cell wh2 1 (.int .i64 f) rfl
  have hsr := Since.refl w0
  have hsd := hsr.drew
  clear hw0 wh0 wh1 wh2
  rcases hE with ⟨ho, hz, rfl⟩ | ⟨ho, _, _, _, _, rfl⟩
  rotate_left
  · rw [show covR k ⟨a, b, c, d⟩ e f = false by unfold covR; rw [ho, Bool.and_false]; rfl]
    clear ho
    go_enter Try.func14, Try.ntmps14
    go_wp2_with fail
    rw [← HW.out]
    go_wp2_with (go_at_call 36; (with_reducible refine (Calls.since (by assumption) (wOf_at _ HE.out)).mono ?_); rintro e w1 ⟨rfl, hb1⟩)
    go_ret
    exact ⟨rfl, hs0.trans (Since.alloc hb1 _)⟩
  rw [covR_eq ho, hz]
  clear ho hz
  go_enter Try.func14, Try.ntmps14
  go_wp2_with fail
  rw [← HW.out]
  go_wp2_with ((go_at_call 36; (with_reducible refine (Calls.since (by assumption) (wOf_at _ HE.out)).mono ?_); rintro e w1 ⟨rfl, hb1⟩); have hsa : Since w0 (w1.alloc (.cells #[.int .i64 p, .int .i64 q, .int .i64 r, .int .i64 s] 34)) := Since.alloc hb1 _)
  refine Calls.named (fun w2 hw => ?_)
  have wz : Whole w2 w1.heap.size 34 #[.int .i64 p, .int .i64 q, .int .i64 r, .int .i64 s] := (Whole.new w1 _ _).named hw
  have hs2 : Since w0 w2 := (Since.alloc hb1 _).named hw
  clear hw hsa
  refine (cut_c k a b c d e f w2).mono ?_
  rintro z w3 ⟨v, rfl, hrow, hb3⟩
  replace wz := Since.whole hb3 wz
  replace hs2 := hs0.trans (hs2.trans hb3)
  have hls := hrow.list encR_len
  have hcl := cut_len k e f ⟨a, b, c, d⟩
  obtain ⟨L, hL⟩ : ∃ L, cutR k ⟨a, b, c, d⟩ e f = L := ⟨_, rfl⟩
  rw [hL] at hls hcl
  have HL := Lib.hid hL
  clear hrow hb3 hL c0_0 c1_0 c1_1 c1_2 c1_3 c2_0 c2_1 hsr hsd hs0 hb1
  obtain ⟨va, cap, rfl, hform⟩ := hls.form
  have z1 := box_cell wz 0 _ rfl
  have z2 := box_cell wz 1 _ rfl
  have z3 := box_cell wz 2 _ rfl
  have z4 := box_cell wz 3 _ rfl
  clear wz
  go_wp2_with fail
  go_loopw [9, 25] (fun n i wr => ∃ m : Nat, i = .int .i64 m ∧ m ≤ L.length ∧ n = .int .i64 (sumF areaR (L.take m)) ∧ Since w3 wr) (fun _ i _ => L.length - (intOf i).toNat)
  case atStart => exact ⟨0, rfl, Nat.zero_le _, rfl, Since.refl w3⟩
  case round =>
    obtain ⟨m, rfl, hm, rfl, hsm⟩ := hrel
    by_cases hlt : m < L.length
    · obtain ⟨g, rfl, hg⟩ := hform m hlt
      have hlsm := hls.since hsm (Nat.le_refl _)
      have hsum := sumF_take areaR L m hlt
      have hbd := sum_bd (L.take (m + 1))
      have hlen := List.length_take_le (m + 1) L
      obtain ⟨⟨x, y, u, t⟩, hr⟩ : ∃ ρ, L[m] = ρ := ⟨_, rfl⟩
      have t1 := hlsm.at_ hlt 0 (u := .int .i64 x) (by rw [hr]; rfl)
      have t2 := hlsm.at_ hlt 1 (u := .int .i64 y) (by rw [hr]; rfl)
      have t3 := hlsm.at_ hlt 2 (u := .int .i64 u) (by rw [hr]; rfl)
      have t4 := hlsm.at_ hlt 3 (u := .int .i64 t) (by rw [hr]; rfl)
      rw [Nat.add_zero] at t1
      rw [hr] at hsum
      obtain ⟨V, hV⟩ : ∃ V, areaR ⟨x, y, u, t⟩ = V := ⟨_, rfl⟩
      rw [hV] at hsum
      obtain ⟨S, hS⟩ : ∃ S, sumF areaR (L.take m) = S := ⟨_, rfl⟩
      rw [hS] at hsum ⊢
      have hwr : wrap64 (S + V) = S + V := by
        rw [← hsum]
        exact IntWalk.wrap64_in _ ⟨by omega, by omega⟩
      have HV := Lib.hid hV
      have HS := Lib.hid hsum
      have hd : decide ((m : Int) < L.length) = true := decide_eq_true (by omega)
      have hml : (m : Int) < 5 := by omega
      have hwa : Since wr (wr.alloc (.cells #[.int .i64 x, .int .i64 y, .int .i64 u, .int .i64 t] 34)) := (Since.refl wr).alloc _
      clear hV hS hr hsum hbd hform hlsm hls
      go_wp2_with (go_at_call 23; (with_reducible refine (wArea_at HV.out _).mono ?_); rintro z w4 ⟨rfl, hb4⟩; have hS4 : Since wr w4 := Since.trans hwa hb4)
      go_roundw
      case rel => exact ⟨m + 1, by go_num, by omega, by rw [HS.out, hwr], hsm.trans hS4⟩
      case measure => simp [intOf]; omega
    · obtain rfl : m = L.length := by omega
      have hd : decide ((L.length : Int) < L.length) = false := decide_eq_false (by omega)
      rw [List.take_of_length_le (Nat.le_refl _)]
      obtain ⟨A, hA⟩ : ∃ A, areaR ⟨p, q, r, s⟩ = A := ⟨_, rfl⟩
      obtain ⟨S, hS⟩ : ∃ S, sumF areaR L = S := ⟨_, rfl⟩
      rw [hS]
      have HA := Lib.hid hA
      have HS := Lib.hid hS
      clear hS hls hform hA
      go_wp2_with (go_at_call 23; (with_reducible refine (Calls.since (by assumption) (wArea_at HA.out _)).mono ?_); rintro e w6 ⟨rfl, hb6⟩)
      go_ret
      exact ⟨ret_bool (by rw [HL.out, HS.out, HA.out]), hs2.trans hb6⟩
end Go.Proofs.Ytbfjnnjblnjdkaa
