/- window.Cut: what a zone has of a window; the plain rectangles are met where they lie. -/
import Derived.Test.YtbfjnnjblnjdkaaWCutP
namespace Go.Proofs.Ytbfjnnjblnjdkaa
open Go.RowKit
set_option maxHeartbeats 1600000 in
theorem wCut_no (k a b c d e f : Int) (w : World) (h : ¬ (winR k ⟨a, b, c, d⟩ = true ∧ okP k e f = true)) : Calls Try.prog 12 #[.agg #[.int .i64 k], .agg #[.int .i64 a, .int .i64 b, .int .i64 c, .int .i64 d], .agg #[.int .i64 e, .int .i64 f]] w fun z w' => ∃ v, z = .returned v ∧ RowR w' w.heap.size 34 v (cutR k ⟨a, b, c, d⟩ e f) ∧ Below w.heap.size w w' := by
  rw [cutR_no h]
  obtain ⟨p, q, r, s, E, hE⟩ := ofZ_ex k e f
  obtain ⟨w0, hw0⟩ : ∃ w0, w0 = ((w.alloc (.cells #[.int .i64 k] 29)).alloc (.cells #[.int .i64 a, .int .i64 b, .int .i64 c, .int .i64 d] 34)).alloc (.cells #[.int .i64 e, .int .i64 f] 25) := ⟨_, rfl⟩
  have hs0 : Since w w0 := by rw [hw0]; exact (((Since.refl w).alloc _).alloc _).alloc _
  have wh0 : Whole w0 (w.heap.size) 29 #[.int .i64 k] := by rw [hw0]; exact ((Whole.new w _ _).alloc _).alloc _
  have wh1 : Whole w0 (w.heap.size + 1) 34 #[.int .i64 a, .int .i64 b, .int .i64 c, .int .i64 d] := by rw [hw0]; exact ((Whole.new (w.alloc _) _ _).alloc _).at_ (by simp)
  have wh2 : Whole w0 (w.heap.size + 1 + 1) 25 #[.int .i64 e, .int .i64 f] := by rw [hw0]; exact (Whole.new ((w.alloc _).alloc _) _ _).at_ (by simp)
  have HW := Lib.hid hw0
  have c0_0 := box_cell wh0 0 (.int .i64 k) rfl
  have c1_0 := box_cell wh1 0 (.int .i64 a) rfl
  have c1_1 := box_cell wh1 1 (.int .i64 b) rfl
  have c1_2 := box_cell wh1 2 (.int .i64 c) rfl
  have c1_3 := box_cell wh1 3 (.int .i64 d) rfl
  have c2_0 := box_cell wh2 0 (.int .i64 e) rfl
  have c2_1 := box_cell wh2 1 (.int .i64 f) rfl
  have hsr := Since.refl w0
  have hsd := hsr.drew
  clear hw0 wh0 wh1 wh2
  obtain ⟨G, hG⟩ : ∃ G, plE k ⟨a, b, c, d⟩ = G := ⟨_, rfl⟩
  have HP := Lib.hid hG
  have hq : E = 1 ∨ (E = 0 ∧ G = 1) := by
    rcases hE with ⟨h1, _, h2⟩ | ⟨_, _, _, _, _, h2⟩
    · refine .inr ⟨h2, ?_⟩
      rw [← hG]
      exact if_neg (fun z => h ⟨z, h1⟩)
    · exact .inl h2
  have HE := Lib.hid hE
  clear hE hG h
  rcases hq with rfl | ⟨rfl, rfl⟩
  · go_enter Try.func12, Try.ntmps12
    go_wp2_with fail
    rw [← HW.out]
    go_wp2_with ((go_at_call 36; (with_reducible refine (Calls.since (by assumption) (wOf_at _ HE.out)).mono ?_); rintro e w1 ⟨rfl, hb1⟩); have hsa : Since w0 (w1.alloc (.cells #[.int .i64 p, .int .i64 q, .int .i64 r, .int .i64 s] 34)) := Since.alloc hb1 _)
    refine Calls.named (fun w2 hw => ?_)
    have wz : Whole w2 w1.heap.size 34 #[.int .i64 p, .int .i64 q, .int .i64 r, .int .i64 s] := (Whole.new w1 _ _).named hw
    have hs2 : Since w0 w2 := (Since.alloc hb1 _).named hw
    clear hw hsa
    refine (plain_c k a b c d w2).mono ?_
    rintro z w3 ⟨v, rfl, hrow, hb3⟩
    rw [HP.out]
    go_wp2_with fail
    go_ret
    exact ⟨_, rfl, RowE.nil _ _ _, (hs0.trans hs2).trans hb3⟩
  · go_enter Try.func12, Try.ntmps12
    go_wp2_with fail
    rw [← HW.out]
    go_wp2_with ((go_at_call 36; (with_reducible refine (Calls.since (by assumption) (wOf_at _ HE.out)).mono ?_); rintro e w1 ⟨rfl, hb1⟩); have hsa : Since w0 (w1.alloc (.cells #[.int .i64 p, .int .i64 q, .int .i64 r, .int .i64 s] 34)) := Since.alloc hb1 _)
    refine Calls.named (fun w2 hw => ?_)
    have wz : Whole w2 w1.heap.size 34 #[.int .i64 p, .int .i64 q, .int .i64 r, .int .i64 s] := (Whole.new w1 _ _).named hw
    have hs2 : Since w0 w2 := (Since.alloc hb1 _).named hw
    clear hw hsa
    refine (plain_c k a b c d w2).mono ?_
    rintro z w3 ⟨v, rfl, hrow, hb3⟩
    rw [HP.out]
    go_wp2_with fail
    go_ret
    exact ⟨_, rfl, RowE.nil _ _ _, (hs0.trans hs2).trans hb3⟩
set_option maxRecDepth 100000 in
set_option maxHeartbeats 3200000 in
theorem wCut_yes (k a b c d e f : Int) (w : World) (h : winR k ⟨a, b, c, d⟩ = true) (ho : okP k e f = true) : Calls Try.prog 12 #[.agg #[.int .i64 k], .agg #[.int .i64 a, .int .i64 b, .int .i64 c, .int .i64 d], .agg #[.int .i64 e, .int .i64 f]] w fun z w' => ∃ v, z = .returned v ∧ RowR w' w.heap.size 34 v (cutR k ⟨a, b, c, d⟩ e f) ∧ Below w.heap.size w w' := by
  rw [cutR_yes h ho, filter_meet]
  obtain ⟨⟨p, q, r, s⟩, hz⟩ : ∃ Z, zoneR k e f = Z := ⟨_, rfl⟩
  rw [hz]
  have HE := Lib.hid (show OfZ k e f p q r s 0 from .inl ⟨ho, hz, rfl⟩)
  have HP := Lib.hid (show plE k ⟨a, b, c, d⟩ = 0 from if_pos h)
  clear hz ho h
  obtain ⟨w0, hw0⟩ : ∃ w0, w0 = ((w.alloc (.cells #[.int .i64 k] 29)).alloc (.cells #[.int .i64 a, .int .i64 b, .int .i64 c, .int .i64 d] 34)).alloc (.cells #[.int .i64 e, .int .i64 f] 25) := ⟨_, rfl⟩
  have hs0 : Since w w0 := by rw [hw0]; exact (((Since.refl w).alloc _).alloc _).alloc _
  have wh0 : Whole w0 (w.heap.size) 29 #[.int .i64 k] := by rw [hw0]; exact ((Whole.new w _ _).alloc _).alloc _
  have wh1 : Whole w0 (w.heap.size + 1) 34 #[.int .i64 a, .int .i64 b, .int .i64 c, .int .i64 d] := by rw [hw0]; exact ((Whole.new (w.alloc _) _ _).alloc _).at_ (by simp)
  have wh2 : Whole w0 (w.heap.size + 1 + 1) 25 #[.int .i64 e, .int .i64 f] := by rw [hw0]; exact (Whole.new ((w.alloc _).alloc _) _ _).at_ (by simp)
  have HW := Lib.hid hw0
  have c0_0 := box_cell wh0 0 (.int .i64 k) rfl
  have c1_0 := box_cell wh1 0 (.int .i64 a) rfl
  have c1_1 := box_cell wh1 1 (.int .i64 b) rfl
  have c1_2 := box_cell wh1 2 (.int .i64 c) rfl
  have c1_3 := box_cell wh1 3 (.int .i64 d) rfl
  have c2_0 := box_cell wh2 0 (.int .i64 e) rfl
  have c2_1 := box_cell wh2 1 (.int .i64 f) rfl
  have hsr := Since.refl w0
  have hsd := hsr.drew
  clear hw0 wh0 wh1 wh2
  go_enter Try.func12, Try.ntmps12
  go_wp2_with fail
  rw [← HW.out]
  go_wp2_with ((go_at_call 36; (with_reducible refine (Calls.since (by assumption) (wOf_at _ HE.out)).mono ?_); rintro e w1 ⟨rfl, hb1⟩); have hsa : Since w0 (w1.alloc (.cells #[.int .i64 p, .int .i64 q, .int .i64 r, .int .i64 s] 34)) := Since.alloc hb1 _)
  refine Calls.named (fun w2 hw => ?_)
  have wz : Whole w2 w1.heap.size 34 #[.int .i64 p, .int .i64 q, .int .i64 r, .int .i64 s] := (Whole.new w1 _ _).named hw
  have hs2 : Since w0 w2 := (Since.alloc hb1 _).named hw
  clear hw hsa
  refine (plain_c k a b c d w2).mono ?_
  rintro z w3 ⟨v, rfl, hrow, hb3⟩
  rw [HP.out]
  obtain ⟨L, hL⟩ : ∃ L, plainR k ⟨a, b, c, d⟩ = L := ⟨_, rfl⟩
  have hl4 : L.length ≤ 4 := by rw [← hL]; exact plain_len
  rw [hL] at hrow
  have HL := Lib.hid hL
  clear hL
  obtain ⟨va, cap, rfl, hform⟩ := (hrow.list encR_len).form
  replace hs2 := hs0.trans hs2
  rw [← metR_zero L ⟨p, q, r, s⟩] at hrow
  have z1 := box_cell wz 0 _ rfl
  have z2 := box_cell wz 1 _ rfl
  have z3 := box_cell wz 2 _ rfl
  have z4 := box_cell wz 3 _ rfl
  clear c0_0 c1_0 c1_1 c1_2 c1_3 c2_0 c2_1 hsr hsd hs0 hb1 wz
  go_wp2_with fail
  go_loopw [33] (fun i wr => ∃ m : Nat, i = .int .i64 m ∧ m ≤ L.length ∧ RowR wr w2.heap.size 34 (.slice va L.length cap) (metR L ⟨p, q, r, s⟩ m) ∧ Since w2 wr) (fun i _ => L.length - (intOf i).toNat)
  case atStart => exact ⟨0, rfl, Nat.zero_le _, hrow, hb3⟩
  case round =>
    clear hrow hb3
    obtain ⟨m, rfl, hm, hrow, hsm⟩ := hrel
    have hlen := metR_len L ⟨p, q, r, s⟩ m hm
    by_cases hlt : m < L.length
    · obtain ⟨g, rfl, hg⟩ := hform m hlt
      have hge := hrow.block
      have hlm : m < (metR L ⟨p, q, r, s⟩ m).length := by rw [hlen]; exact hlt
      have hget := metR_get L ⟨p, q, r, s⟩ m hlt
      have hset := metR_set L ⟨p, q, r, s⟩ m hlt
      obtain ⟨⟨x, y, u, t⟩, hr⟩ : ∃ ρ, L[m] = ρ := ⟨_, rfl⟩
      rw [hr] at hget hset
      have hcell : ∀ W, RowR W w2.heap.size 34 (.slice (some ⟨g, 0, none⟩) L.length cap) (metR L ⟨p, q, r, s⟩ m) → W.cell? ⟨g, m * 4, none⟩ = some (.int .i64 x) ∧ W.cell? ⟨g, m * 4 + 1, none⟩ = some (.int .i64 y) ∧ W.cell? ⟨g, m * 4 + 2, none⟩ = some (.int .i64 u) ∧ W.cell? ⟨g, m * 4 + 3, none⟩ = some (.int .i64 t) := fun W hW => by
        have hls := hW.list encR_len
        exact ⟨hls.at_ hlm 0 (by rw [hget]; rfl), hls.at_ hlm 1 (by rw [hget]; rfl), hls.at_ hlm 2 (by rw [hget]; rfl), hls.at_ hlm 3 (by rw [hget]; rfl)⟩
      obtain ⟨t1, t2, t3, t4⟩ := hcell wr hrow
      obtain ⟨⟨X, Y, C, D⟩, hmt⟩ : ∃ ρ, meetR ⟨x, y, u, t⟩ ⟨p, q, r, s⟩ = ρ := ⟨_, rfl⟩
      rw [hmt] at hset
      have HMT := Lib.hid hmt
      have HST := Lib.hid hset
      have hwa : Since wr (wr.alloc (.cells #[.int .i64 x, .int .i64 y, .int .i64 u, .int .i64 t] 34)) := (Since.refl wr).alloc _
      have hwb : Since w2 (wr.alloc (.cells #[.int .i64 x, .int .i64 y, .int .i64 u, .int .i64 t] 34)) := hsm.trans hwa
      have d1 : decide ((m : Int) < L.length) = true := decide_eq_true (by omega)
      have d2 : (m : Int) < 5 := by omega
      clear hmt hr hform hset hget hg hlm
      go_wp2_with (go_at_call 24; (with_reducible refine (wMeet_at HMT.out _).mono ?_); rintro z w5 ⟨rfl, hb5⟩; have hS5 : Since wr w5 := Since.trans hwa hb5; have hrow5 := hrow.since hS5; obtain ⟨q1, q2, q3, q4⟩ := hcell _ hrow5; have y1 := hrow5.frozenAt hlen (m * 4); have y2 := hrow5.frozenAt hlen (m * 4 + 1); have y3 := hrow5.frozenAt hlen (m * 4 + 2); have y4 := hrow5.frozenAt hlen (m * 4 + 3))
      have hn := RowR.set4 hrow5 hlen m hlt ⟨X, Y, C, D⟩
      rw [HST.out] at hn
      go_roundw
      case rel => exact ⟨m + 1, by go_num, by omega, hn, ((((Since.trans hsm hS5).setCell (p := ⟨g, m * 4, none⟩) hge.1 _).setCell (p := ⟨g, m * 4 + 1, none⟩) hge.1 _).setCell (p := ⟨g, m * 4 + 2, none⟩) hge.1 _).setCell (p := ⟨g, m * 4 + 3, none⟩) hge.1 _⟩
      case measure => simp [intOf]; omega
    · obtain rfl : m = L.length := by omega
      have d1 : decide ((L.length : Int) < L.length) = false := decide_eq_false (by omega)
      rw [metR_all] at hrow
      have hls := hrow.list encR_len
      have hnn : ∀ x ∈ L.map (fun r' => meetR r' ⟨p, q, r, s⟩), 0 ≤ x.w ∧ 0 ≤ x.h := by
        intro x hx
        obtain ⟨y, _, rfl⟩ := List.mem_map.1 hx
        have h1 := (fineR_iff _).1 (fine_meet y ⟨p, q, r, s⟩)
        exact ⟨h1.2.2.1.1, h1.2.2.2.1⟩
      have hl100 : (L.map (fun r' => meetR r' ⟨p, q, r, s⟩)).length ≤ 100 := by rw [List.length_map]; omega
      clear hform z1 z2 z3 z4
      go_wp2_with fail
      refine (gather_any wr hls (Nat.le_refl _) hl100 hnn).mono ?_
      rintro z w5 ⟨v', rfl, hrow5, hb5⟩
      rw [← HL.out] at hrow5
      go_wp2_with fail
      go_ret
      exact ⟨_, rfl, hrow5.mono (hs2.trans hsm).size_, (hs2.trans hsm).trans hb5⟩
theorem cut_c : CutC := by
  intro k a b c d e f w
  by_cases h : winR k ⟨a, b, c, d⟩ = true ∧ okP k e f = true
  · exact wCut_yes k a b c d e f w h.1 h.2
  · exact wCut_no k a b c d e f w h
end Go.Proofs.Ytbfjnnjblnjdkaa
