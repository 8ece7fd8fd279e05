/- The walk of the law TilingDeepest, by premises. -/
import Derived.Test.YtdbacinaffdkaaaGMade
namespace Go.Proofs.Ytdbacinaffdkaaa
open Go.RowKit
theorem two_len {L : List Tl} {x y : Tl} (hx : x ∈ L) (hy : y ∈ L) (h : x ≠ y) : 1 < L.length := by
  match L with
  | [] => cases hx
  | [z] => rw [List.mem_singleton] at hx hy; exact absurd (hx.trans hy.symm) h
  | _ :: _ :: _ => simp
theorem Tr.deep_none {t : Tr} (hg : t.gaps 0 0 = []) (h : deepL (t.tiles 0 0) = none) : ¬ 1 < (t.tiles 0 0).length := by
  intro h1
  obtain ⟨s, s1, s2, _⟩ := Tr.deep_ex t 0 0 (Int.le_refl _) hg ((Tr.high_len t 0 0 hg).1.2 h1)
  rw [deepL_none h s s1] at s2
  cases s2
/-- What a deepest pair tells. -/
structure DeepP (t : Tr) (sd sb sw D B C uw : Int) : Prop where
  d1 : D + 1 = sd
  b0 : 2 * B + 0 = sb
  b1 : 2 * B + 1 = C
  fine : fine D B = true
  lt : D < 32
  under : (t.tiles 0 0).filter (fun s => abvB D B s.d s.b) = [⟨sd, sb, sw⟩, ⟨sd, C, uw⟩]
  two : 1 < (t.tiles 0 0).length
  most : t.gaps 0 0 = [] → ∀ x ∈ t.tiles 0 0, x.d ≤ sd
theorem Tr.deep_some {t : Tr} (hh : t.high ≤ 32) {s : Tl} (h : deepL (t.tiles 0 0) = some s) : ∃ C uw, DeepP t s.d s.b s.who (s.d - 1) (s.b / 2) C uw := by
  obtain ⟨h1, h2, h3⟩ := deepL_some h
  have hf0 : fine 0 0 = true := by decide
  unfold candB at h2
  rw [Bool.and_eq_true, decide_eq_true_iff, hasT_iff] at h2
  obtain ⟨⟨c1, c2⟩, u, hu, u1, u2⟩ := h2
  obtain ⟨a1, _⟩ := Tr.tiles_abv t 0 0 hf0 (by omega) s h1
  obtain ⟨_, fs, _⟩ := (abvB_iff _ _ _ _).1 a1
  obtain ⟨f1, f2, f3, f4⟩ := (fine_iff _ _).1 fs
  have e : pv s.d s.b (s.d - 1) = s.b / 2 := by
    have := pv_half (d := s.d) (b := s.b) (m := s.d - 1) (by omega)
    rw [show s.d - 1 + 1 = s.d by omega, pv_all] at this
    exact this
  have hfd := pv_fine (b := s.b) (m := s.d - 1) fs (by omega) (by omega)
  rw [e] at hfd
  refine ⟨2 * (s.b / 2) + 1, u.who, ⟨by omega, by omega, rfl, hfd, by omega, ?_, ?_, ?_⟩⟩
  · have hp := pair_under (Tr.tiles_pair t 0 0 hf0 (by omega)) hfd (by omega) h1 hu ⟨by omega, by omega⟩ ⟨by omega, by omega⟩
    rw [hp]
    have e1 : u = ⟨s.d, 2 * (s.b / 2) + 1, u.who⟩ := by
      cases u
      simp only [Tl.mk.injEq, and_true] at *
      omega
    rw [← e1]
  · refine two_len h1 hu fun z => ?_
    rw [← z] at u2
    omega
  · intro hg x hx
    have hx1 := (Tr.tiles_abv t 0 0 hf0 (by omega) x hx).2
    rcases Nat.eq_zero_or_pos t.high with z | z
    · omega
    · obtain ⟨y, y1, y2, y3⟩ := Tr.deep_ex t 0 0 (Int.le_refl _) hg z
      have := h3 y y1 y2
      omega
set_option maxRecDepth 100000 in
set_option maxHeartbeats 6400000 in
theorem deep_walk {Obj : (Nat → Prop) → World → Value → Int → Tr → Prop} (P : TilP Obj) (k : Int) {B0 : Nat} {v : Value} {A : List Ac} (w : World) (hA : LentE encA 4 B0 w v A) (hB0 : B0 ≤ w.heap.size) :
    Calls Try.prog 7 #[.int .i64 k, v] w fun e w' => e = .returned (.bool true) ∧ Below w.heap.size w w' := by
  have k1 := tmod_bd k 16 (by decide)
  have k2 := tmod_pos k 16 (by decide)
  obtain ⟨R, hR⟩ : ∃ R, k % 16 = R := ⟨_, rfl⟩
  have k3 : 0 ≤ R ∧ R < 16 := by omega
  rw [hR] at k2
  clear hR
  obtain ⟨K, hK⟩ : ∃ K, 1 + R = K := ⟨_, rfl⟩
  have hr : rgt K = true := by rw [rgt_iff]; omega
  have HR := Lib.hid hr
  clear hr
  go_enter Try.func7, Try.ntmps7
  go_wp2_with fail
  refine (made_any P HR.out w hA hB0).mono ?_
  rintro e w2 ⟨g, F, t, rfl, hO, hF, hbw⟩
  clear hF k1 k2 k3 hK
  go_wp2_with (go_at_call 8; (with_reducible refine (knows5 P _).mono ?_); rintro e w3 ⟨rfl, hb3⟩)
  have hO3 := P.since hO hb3
  have hbw3 : Below w.heap.size w w3 := hbw.trans (Below.mono hb3 hbw.size)
  have hh := (P.ok hO3).2.1
  have hk16 := (rgt_iff K).1 HR.out
  have hh32 : t.high ≤ 32 := by omega
  clear hO hb3 hbw hh hk16
  refine (P.deep hO3).mono ?_
  rintro e w4 ⟨rfl, hb4⟩
  have hO4 := P.since hO3 hb4
  have hbw4 : Below w.heap.size w w4 := hbw3.trans (Below.mono hb4 hbw3.size)
  clear hO3 hb4 hbw3
  cases hdp : deepL (t.tiles 0 0) with
  | none =>
    have hno := fun hg => Tr.deep_none (t := t) hg hdp
    unfold deV
    clear hdp
    go_wp2_with fail
    refine Calls.named (fun w5 hw => ?_)
    have wp : Whole w5 w4.heap.size 27 #[.int .i64 0, .int .i64 0] := (Whole.new w4 _ _).named hw
    have hs5 : Since w4 w5 := ((Since.refl w4).alloc _).named hw
    have hO5 := P.since hO4 hs5
    have hbw5 : Below w.heap.size w w5 := hbw4.trans (Below.mono hs5 hbw4.size)
    clear hw hs5 hO4 hbw4
    refine (P.list hO5).mono ?_
    rintro e w6 ⟨a, rfl, hrow, hb6⟩
    obtain ⟨va, cap, rfl, hform⟩ := (hrow.list encT_len).form
    have hO6 := P.since hO5 hb6
    clear hrow hform hO5
    go_wp2_with fail
    refine (P.whole hO6).mono ?_
    rintro e w7 ⟨rfl, hb7⟩
    have wp7 := Since.whole (Since.trans hb6 hb7) wp
    have hbw7 : Below w.heap.size w w7 := hbw5.trans (Below.mono (Since.trans hb6 hb7) hbw5.size)
    have p0 := wp7.cell 0
    have p1 := wp7.cell 1
    clear wp7 wp hb6 hb7 hbw5 hO6
    cases hg : (t.gaps 0 0).isEmpty
    · clear hno hg
      go_wp2_with fail
      go_ret
      exact ⟨rfl, hbw7⟩
    · have h1 := hno (List.isEmpty_iff.1 hg)
      have d1 : decide ((1 : Int) < (t.tiles 0 0).length) = false := decide_eq_false (by omega)
      clear hno hg h1
      go_wp2_with fail
      go_ret
      exact ⟨rfl, hbw7⟩
  | some s =>
    obtain ⟨C, uw, hP⟩ := Tr.deep_some hh32 hdp
    obtain ⟨sd, sb, sw⟩ := s
    dsimp only at hP
    obtain ⟨D, hD⟩ : ∃ D, sd - 1 = D := ⟨_, rfl⟩
    obtain ⟨B, hB⟩ : ∃ B, sb / 2 = B := ⟨_, rfl⟩
    rw [hD, hB] at hP
    rw [show deV (some ⟨sd, sb, sw⟩) = .tuple #[.agg #[.int .i64 D, .int .i64 B], .bool true] by unfold deV; dsimp only; rw [hD, hB]]
    clear hdp hD hB hh32
    go_wp2_with fail
    refine Calls.named (fun w5 hw => ?_)
    have wp : Whole w5 w4.heap.size 27 #[.int .i64 D, .int .i64 B] := (Whole.new w4 _ _).named hw
    have hs5 : Since w4 w5 := ((Since.refl w4).alloc _).named hw
    have hO5 := P.since hO4 hs5
    have hbw5 : Below w.heap.size w w5 := hbw4.trans (Below.mono hs5 hbw4.size)
    obtain ⟨PB, hPB⟩ : ∃ PB, PB = w4.heap.size := ⟨_, rfl⟩
    rw [← hPB] at wp ⊢
    clear hw hs5 hO4 hbw4 hPB
    refine (P.list hO5).mono ?_
    rintro e w6 ⟨a, rfl, hrow, hb6⟩
    obtain ⟨va, cap, rfl, hform⟩ := (hrow.list encT_len).form
    have hls := hrow.list encT_len
    have hO6 := P.since hO5 hb6
    clear hrow hO5
    go_wp2_with fail
    refine (P.whole hO6).mono ?_
    rintro e w7 ⟨rfl, hb7⟩
    have wp7 := Since.whole (Since.trans hb6 hb7) wp
    have hbw7 : Below w.heap.size w w7 := hbw5.trans (Below.mono (Since.trans hb6 hb7) hbw5.size)
    have hls7 := hls.since hb7 (Nat.le_refl _)
    have hsz7 := hb7.size
    have hO7 := P.since hO6 hb7
    have d1 : decide ((1 : Int) < (t.tiles 0 0).length) = true := decide_eq_true (by have := hP.two; omega)
    have HF := Lib.hid hP.fine
    have HL := Lib.hid hP.lt
    have H1 := Lib.hid hP.d1
    have H2 := Lib.hid hP.b0
    have H3 := Lib.hid hP.b1
    have HU := Lib.hid hP.under
    have HM := Lib.hid hP.most
    have c0 := box_cell wp7 0 _ rfl
    have c1 := box_cell wp7 1 _ rfl
    have hsr := Since.refl w7
    clear wp hb6 hb7 hbw5 hO6 hls hP
    obtain ⟨Wh, hWh⟩ : ∃ Wh, (t.gaps 0 0).isEmpty = Wh := ⟨_, rfl⟩
    rw [hWh]
    have HWh := Lib.hid hWh
    clear hWh
    cases Wh
    all_goals
      go_wp2_with fail
      refine (child_at w7 HF.out HL.out (by decide) (by decide) H1.out H2.out).mono ?_
      rintro e w8 ⟨rfl, hb8⟩
      have hsa8 : Since w7 (w8.alloc (.cells #[.int .i64 sd, .int .i64 sb] 27)) := Since.alloc hb8 _
      go_wp2_with fail
      refine Calls.named (fun w9 hw => ?_)
      have wa : Whole w9 w8.heap.size 27 #[.int .i64 sd, .int .i64 sb] := (Whole.new w8 _ _).named hw
      have hs9 : Since w7 w9 := hsa8.named hw
      clear hw hsa8 hb8
      refine (child_at w9 HF.out HL.out (by decide) (by decide) H1.out H3.out).mono ?_
      rintro e w8' ⟨rfl, hb9⟩
      have wa8 := Since.whole hb9 wa
      go_wp2_with (go_at_call 12; fail)
      obtain ⟨w10, hw⟩ : ∃ w10, w10 = w8'.alloc (.cells #[.int .i64 sd, .int .i64 C] 27) := ⟨_, rfl⟩
      have wb : Whole w10 w8'.heap.size 27 #[.int .i64 sd, .int .i64 C] := by rw [hw]; exact Whole.new w8' _ _
      have hs10 : Since w7 w10 := by rw [hw]; exact (Since.trans hs9 hb9).alloc _
      have wa10 : Whole w10 w8.heap.size 27 #[.int .i64 sd, .int .i64 sb] := by rw [hw]; exact wa8.alloc _
      have hO10 := P.since hO7 hs10
      have wp10 := Since.whole hs10 wp7
      have hls10 := hls7.since hs10 hsz7
      have hbw10 : Below w.heap.size w w10 := hbw7.trans (Below.mono hs10 hbw7.size)
      have hsz10 : w6.heap.size ≤ w10.heap.size := Nat.le_trans hsz7 hs10.size
      rw [← hw]
      obtain ⟨AB, hAB⟩ : ∃ AB, AB = w8.heap.size := ⟨_, rfl⟩
      obtain ⟨BB, hBB⟩ : ∃ BB, BB = w8'.heap.size := ⟨_, rfl⟩
      rw [← hAB] at wa10 ⊢
      rw [← hBB] at wb ⊢
      clear hw hs10 hs9 hb9 wa8 wa hO7 hbw7 hls7 hsz7 wp7 c0 c1 hsr hAB hBB
      have c0 := box_cell wp10 0 _ rfl
      have c1 := box_cell wp10 1 _ rfl
      have e0 := box_cell wa10 0 _ rfl
      have e1 := box_cell wa10 1 _ rfl
      have f0 := box_cell wb 0 _ rfl
      have f1 := box_cell wb 1 _ rfl
      have hun : ∀ W, Since w10 W → Calls Try.prog 23 #[.pointer (some ⟨g, 0, none⟩), .agg #[.int .i64 D, .int .i64 B]] W fun e W' => ∃ a, e = .returned a ∧ RowE encT 3 W' W.heap.size 50 a [⟨sd, sb, sw⟩, ⟨sd, C, uw⟩] ∧ Below W.heap.size W W' := fun W hW => by
        have h := P.under D B (P.since hO10 hW)
        rw [HU.out] at h
        exact h
      have hsr := Since.refl w10
      have hsd := hsr.drew
      obtain ⟨wq, hwq⟩ : ∃ wq, wq = w10.drew := ⟨_, rfl⟩
      refine wp_region_held_drew (S := fun W => Since w10 W) (by kernel_rfl) hsd (fun hHeld => ?_)
      rw [← hwq] at hHeld ⊢
      have hq : Since w10 wq := hHeld
      have hwz : IntKind.i64.wrap 0 = 0 := by decide
      clear hwq hsd
      refine wpAnyH_take (i := 0) (v := ?_) rfl (by kernel_rfl) (by kernel_rfl) (by kernel_rfl) (fun _ _ _ h => h) (Or.inl ⟨by rfl, ?_⟩) (by assumption) ?_
      rotate_left 1
      · (intro W hW; clear hW; go_simp; try with_reducible rfl)
      simp only [Act.put, List.getElem_toArray, List.getElem_cons_zero, List.setIfInBounds_toArray, List.set_cons_zero, List.set_cons_succ]
      refine wpAnyH_take (i := 2) (v := ?_) rfl (by kernel_rfl) (by kernel_rfl) (by kernel_rfl) (fun _ _ _ h => h) (Or.inl ⟨by rfl, ?_⟩) (by assumption) ?_
      rotate_left 1
      · (intro W hW; clear hW; go_simp; try with_reducible rfl)
      simp only [Act.put, List.getElem_toArray, List.getElem_cons_succ, List.getElem_cons_zero, List.setIfInBounds_toArray, List.set_cons_zero, List.set_cons_succ]
      refine wpAnyH_ready (rs := [1]) (by kernel_rfl) (by simp) ?_
      refine AllReadyH.cons rfl (fun K hK => ?_) AllReadyH.nil
      go_simp
      refine (law5_num _ _).mono ?_
      rintro e wn ⟨rfl, rfl⟩
      go_wp2_with fail
      refine hK.out _ _ (hq) (fun hHeld => ?_)
      clear hK K
      try simp only [Act.put, List.getElem_toArray, List.getElem_cons_succ, List.getElem_cons_zero, List.setIfInBounds_toArray, List.set_cons_zero, List.set_cons_succ]
      refine wpAnyH_ready (rs := [3]) (by kernel_rfl) (by simp) ?_
      refine AllReadyH.cons rfl (fun K hK => ?_) AllReadyH.nil
      go_simp
      refine (law5_num _ _).mono ?_
      rintro e wn ⟨rfl, rfl⟩
      go_wp2_with fail
      refine hK.out _ _ (hq) (fun hHeld => ?_)
      clear hK K
      try simp only [Act.put, List.getElem_toArray, List.getElem_cons_succ, List.getElem_cons_zero, List.setIfInBounds_toArray, List.set_cons_zero, List.set_cons_succ]
      refine wpAnyH_take (i := 4) (v := ?_) rfl (by kernel_rfl) (by kernel_rfl) (by kernel_rfl) (fun _ _ _ h => h) (Or.inl ⟨by rfl, ?_⟩) (by assumption) ?_
      rotate_left 1
      · (intro W hW; clear hW; go_simp; try with_reducible rfl)
      simp only [Act.put, List.getElem_toArray, List.getElem_cons_succ, List.getElem_cons_zero, List.setIfInBounds_toArray, List.set_cons_zero, List.set_cons_succ]
      refine wpAnyH_take (i := 5) (v := ?_) rfl (by kernel_rfl) (by kernel_rfl) (by kernel_rfl) (fun _ _ _ h => h) (Or.inl ⟨by rfl, ?_⟩) (by assumption) ?_
      rotate_left 1
      · (intro W hW; clear hW; go_simp; try with_reducible rfl)
      simp only [Act.put, List.getElem_toArray, List.getElem_cons_succ, List.getElem_cons_zero, List.setIfInBounds_toArray, List.set_cons_zero, List.set_cons_succ]
      refine wpAnyH_take (i := 6) (v := ?_) rfl (by kernel_rfl) (by kernel_rfl) (by kernel_rfl) (fun _ _ _ h => h) (Or.inl ⟨by rfl, ?_⟩) (by assumption) ?_
      rotate_left 1
      · (intro W hW; clear hW; go_simp; try with_reducible rfl)
      simp only [Act.put, List.getElem_toArray, List.getElem_cons_succ, List.getElem_cons_zero, List.setIfInBounds_toArray, List.set_cons_zero, List.set_cons_succ]
      refine wpAnyH_take (i := 7) (v := ?_) rfl (by kernel_rfl) (by kernel_rfl) (by kernel_rfl) (fun _ _ _ h => h) (Or.inl ⟨by rfl, ?_⟩) (by assumption) ?_
      rotate_left 1
      · (intro W hW; clear hW; go_simp; try with_reducible rfl)
      simp only [Act.put, List.getElem_toArray, List.getElem_cons_succ, List.getElem_cons_zero, List.setIfInBounds_toArray, List.set_cons_zero, List.set_cons_succ]
      refine wpAnyH_take (i := 8) (v := ?_) rfl (by kernel_rfl) (by kernel_rfl) (by kernel_rfl) (fun _ _ _ h => h) (Or.inl ⟨by rfl, ?_⟩) (by assumption) ?_
      rotate_left 1
      · (intro W hW; skip; go_simp; try with_reducible rfl)
      simp only [Act.put, List.getElem_toArray, List.getElem_cons_succ, List.getElem_cons_zero, List.setIfInBounds_toArray, List.set_cons_zero, List.set_cons_succ]
      refine wpAnyH_ready (rs := [9]) (by kernel_rfl) (by simp) ?_
      refine AllReadyH.cons rfl (fun K hK => ?_) AllReadyH.nil
      go_simp
      refine (hun _ hq).mono ?_
      rintro e wu1 ⟨v1, rfl, hr1, hbu1⟩
      have hq1 : Since w10 wu1 := Since.trans hq hbu1
      obtain ⟨a1, cap1, rfl, hfm1⟩ : ∃ a cap, v1 = .slice a 2 cap ∧ ∀ i (_ : i < 2), ∃ g, a = some ⟨g, 0, none⟩ ∧ g < wu1.heap.size := (hr1.list encT_len).form
      go_wp2_with fail
      refine hK.out _ _ (hq1) (fun hHeld => ?_)
      clear hK K
      try simp only [Act.put, List.getElem_toArray, List.getElem_cons_succ, List.getElem_cons_zero, List.setIfInBounds_toArray, List.set_cons_zero, List.set_cons_succ]
      refine wpAnyH_take (i := 10) (v := ?_) rfl (by kernel_rfl) (by kernel_rfl) (by kernel_rfl) (fun _ _ _ h => h) (Or.inl ⟨by rfl, ?_⟩) (by assumption) ?_
      rotate_left 1
      · (intro W hW; clear hW; go_simp; try with_reducible rfl)
      simp only [Act.put, List.getElem_toArray, List.getElem_cons_succ, List.getElem_cons_zero, List.setIfInBounds_toArray, List.set_cons_zero, List.set_cons_succ]
      refine wpAnyH_take (i := 11) (v := ?_) rfl (by kernel_rfl) (by kernel_rfl) (by kernel_rfl) (fun _ _ _ h => h) (Or.inl ⟨by rfl, ?_⟩) (by assumption) ?_
      rotate_left 1
      · (intro W hW; clear hW; go_simp; try with_reducible rfl)
      simp only [Act.put, List.getElem_toArray, List.getElem_cons_succ, List.getElem_cons_zero, List.setIfInBounds_toArray, List.set_cons_zero, List.set_cons_succ]
      refine wpAnyH_take (i := 12) (v := ?_) rfl (by kernel_rfl) (by kernel_rfl) (by kernel_rfl) (fun _ _ _ h => h) (Or.inl ⟨by rfl, ?_⟩) (by assumption) ?_
      rotate_left 1
      · (intro W hW; clear hW; go_simp; try with_reducible rfl)
      simp only [Act.put, List.getElem_toArray, List.getElem_cons_succ, List.getElem_cons_zero, List.setIfInBounds_toArray, List.set_cons_zero, List.set_cons_succ]
      refine wpAnyH_take (i := 13) (v := ?_) rfl (by kernel_rfl) (by kernel_rfl) (by kernel_rfl) (fun _ _ _ h => h) (Or.inl ⟨by rfl, ?_⟩) (by assumption) ?_
      rotate_left 1
      · (intro W hW; clear hW; go_simp; try with_reducible rfl)
      simp only [Act.put, List.getElem_toArray, List.getElem_cons_succ, List.getElem_cons_zero, List.setIfInBounds_toArray, List.set_cons_zero, List.set_cons_succ]
      refine wpAnyH_take (i := 14) (v := ?_) rfl (by kernel_rfl) (by kernel_rfl) (by kernel_rfl) (fun _ _ _ h => h) (Or.inl ⟨by rfl, ?_⟩) (by assumption) ?_
      rotate_left 1
      · (intro W hW; clear hW; go_simp; try with_reducible rfl)
      simp only [Act.put, List.getElem_toArray, List.getElem_cons_succ, List.getElem_cons_zero, List.setIfInBounds_toArray, List.set_cons_zero, List.set_cons_succ]
      refine wpAnyH_take (i := 15) (v := ?_) rfl (by kernel_rfl) (by kernel_rfl) (by kernel_rfl) (fun _ _ _ h => h) (Or.inl ⟨by rfl, ?_⟩) (by assumption) ?_
      rotate_left 1
      · (intro W hW; skip; go_simp; try with_reducible rfl)
      simp only [Act.put, List.getElem_toArray, List.getElem_cons_succ, List.getElem_cons_zero, List.setIfInBounds_toArray, List.set_cons_zero, List.set_cons_succ]
      refine wpAnyH_take (i := 20) (v := ?_) rfl (by kernel_rfl) (by kernel_rfl) (by kernel_rfl) (fun _ _ _ h => h) (Or.inl ⟨by rfl, ?_⟩) (by assumption) ?_
      rotate_left 1
      · (intro W hW; skip; go_simp; try with_reducible rfl)
      simp only [Act.put, List.getElem_toArray, List.getElem_cons_succ, List.getElem_cons_zero, List.setIfInBounds_toArray, List.set_cons_zero, List.set_cons_succ]
      refine wpAnyH_ready (rs := [16]) (by kernel_rfl) (by simp) ?_
      refine AllReadyH.cons rfl (fun K hK => ?_) AllReadyH.nil
      go_simp
      refine (hun _ hq1).mono ?_
      rintro e wu2 ⟨v2, rfl, hr2, hbu2⟩
      have hq2 : Since w10 wu2 := Since.trans hq1 hbu2
      obtain ⟨a2, cap2, rfl, hfm2⟩ : ∃ a cap, v2 = .slice a 2 cap ∧ ∀ i (_ : i < 2), ∃ g, a = some ⟨g, 0, none⟩ ∧ g < wu2.heap.size := (hr2.list encT_len).form
      obtain ⟨g2, rfl, hg2⟩ := hfm2 0 (by decide)
      have y2 := (hr2.list encT_len).at_ (i := 0) (by simp) 0 rfl
      have z2 := (hr2.list encT_len).at_ (i := 0) (by simp) 1 rfl
      go_wp2_with fail
      refine hK.out _ _ (hq2) (fun hHeld => ?_)
      clear hK K
      try simp only [Act.put, List.getElem_toArray, List.getElem_cons_succ, List.getElem_cons_zero, List.setIfInBounds_toArray, List.set_cons_zero, List.set_cons_succ]
      refine wpAnyH_take (i := 17) (v := ?_) rfl (by kernel_rfl) (by kernel_rfl) (by kernel_rfl) (fun _ _ _ h => h) (Or.inl ⟨by rfl, ?_⟩) (by assumption) ?_
      rotate_left 1
      · (intro W hW; clear hW; go_simp; try with_reducible rfl)
      simp only [Act.put, List.getElem_toArray, List.getElem_cons_succ, List.getElem_cons_zero, List.setIfInBounds_toArray, List.set_cons_zero, List.set_cons_succ]
      refine wpAnyH_take (i := 18) (v := ?_) rfl (by kernel_rfl) (by kernel_rfl) (by kernel_rfl) (fun _ _ _ h => h) (Or.inl ⟨by rfl, ?_⟩) (by assumption) ?_
      rotate_left 1
      · (intro W hW; clear hW; go_simp; try with_reducible rfl)
      simp only [Act.put, List.getElem_toArray, List.getElem_cons_succ, List.getElem_cons_zero, List.setIfInBounds_toArray, List.set_cons_zero, List.set_cons_succ]
      refine wpAnyH_ready (rs := [19]) (by kernel_rfl) (by simp) ?_
      refine AllReadyH.cons rfl (fun K hK => ?_) AllReadyH.nil
      go_simp
      skip
      refine hK.out _ _ (hq2) (fun hHeld => ?_)
      clear hK K
      try simp only [Act.put, List.getElem_toArray, List.getElem_cons_succ, List.getElem_cons_zero, List.setIfInBounds_toArray, List.set_cons_zero, List.set_cons_succ]
      refine wpAnyH_take (i := 21) (v := ?_) rfl (by kernel_rfl) (by kernel_rfl) (by kernel_rfl) (fun _ _ _ h => h) (Or.inl ⟨by rfl, ?_⟩) (by assumption) ?_
      rotate_left 1
      · (intro W hW; clear hW; go_simp; try with_reducible rfl)
      simp only [Act.put, List.getElem_toArray, List.getElem_cons_succ, List.getElem_cons_zero, List.setIfInBounds_toArray, List.set_cons_zero, List.set_cons_succ]
      refine wpAnyH_take (i := 22) (v := ?_) rfl (by kernel_rfl) (by kernel_rfl) (by kernel_rfl) (fun _ _ _ h => h) (Or.inl ⟨by rfl, ?_⟩) (by assumption) ?_
      rotate_left 1
      · (intro W hW; clear hW; go_simp; try with_reducible rfl)
      simp only [Act.put, List.getElem_toArray, List.getElem_cons_succ, List.getElem_cons_zero, List.setIfInBounds_toArray, List.set_cons_zero, List.set_cons_succ]
      refine wpAnyH_take (i := 23) (v := ?_) rfl (by kernel_rfl) (by kernel_rfl) (by kernel_rfl) (fun _ _ _ h => h) (Or.inl ⟨by rfl, ?_⟩) (by assumption) ?_
      rotate_left 1
      · (intro W hW; clear hW; go_simp; try with_reducible rfl)
      simp only [Act.put, List.getElem_toArray, List.getElem_cons_succ, List.getElem_cons_zero, List.setIfInBounds_toArray, List.set_cons_zero, List.set_cons_succ]
      refine wpAnyH_take (i := 24) (v := ?_) rfl (by kernel_rfl) (by kernel_rfl) (by kernel_rfl) (fun _ _ _ h => h) (Or.inl ⟨by rfl, ?_⟩) (by assumption) ?_
      rotate_left 1
      · (intro W hW; clear hW; go_simp; try with_reducible rfl)
      simp only [Act.put, List.getElem_toArray, List.getElem_cons_succ, List.getElem_cons_zero, List.setIfInBounds_toArray, List.set_cons_zero, List.set_cons_succ]
      refine wpAnyH_take (i := 25) (v := ?_) rfl (by kernel_rfl) (by kernel_rfl) (by kernel_rfl) (fun _ _ _ h => h) (Or.inl ⟨by rfl, ?_⟩) (by assumption) ?_
      rotate_left 1
      · (intro W hW; skip; go_simp; try with_reducible rfl)
      simp only [Act.put, List.getElem_toArray, List.getElem_cons_succ, List.getElem_cons_zero, List.setIfInBounds_toArray, List.set_cons_zero, List.set_cons_succ]
      refine wpAnyH_take (i := 30) (v := ?_) rfl (by kernel_rfl) (by kernel_rfl) (by kernel_rfl) (fun _ _ _ h => h) (Or.inl ⟨by rfl, ?_⟩) (by assumption) ?_
      rotate_left 1
      · (intro W hW; skip; go_simp; try with_reducible rfl)
      simp only [Act.put, List.getElem_toArray, List.getElem_cons_succ, List.getElem_cons_zero, List.setIfInBounds_toArray, List.set_cons_zero, List.set_cons_succ]
      refine wpAnyH_ready (rs := [26]) (by kernel_rfl) (by simp) ?_
      refine AllReadyH.cons rfl (fun K hK => ?_) AllReadyH.nil
      go_simp
      refine (hun _ hq2).mono ?_
      rintro e wu3 ⟨v3, rfl, hr3, hbu3⟩
      have hq3 : Since w10 wu3 := Since.trans hq2 hbu3
      obtain ⟨a3, cap3, rfl, hfm3⟩ : ∃ a cap, v3 = .slice a 2 cap ∧ ∀ i (_ : i < 2), ∃ g, a = some ⟨g, 0, none⟩ ∧ g < wu3.heap.size := (hr3.list encT_len).form
      obtain ⟨g3, rfl, hg3⟩ := hfm3 1 (by decide)
      have y3 := (hr3.list encT_len).at_ (i := 1) (by simp) 0 rfl
      have z3 := (hr3.list encT_len).at_ (i := 1) (by simp) 1 rfl
      go_wp2_with fail
      refine hK.out _ _ (hq3) (fun hHeld => ?_)
      clear hK K
      try simp only [Act.put, List.getElem_toArray, List.getElem_cons_succ, List.getElem_cons_zero, List.setIfInBounds_toArray, List.set_cons_zero, List.set_cons_succ]
      refine wpAnyH_take (i := 27) (v := ?_) rfl (by kernel_rfl) (by kernel_rfl) (by kernel_rfl) (fun _ _ _ h => h) (Or.inl ⟨by rfl, ?_⟩) (by assumption) ?_
      rotate_left 1
      · (intro W hW; clear hW; go_simp; try with_reducible rfl)
      simp only [Act.put, List.getElem_toArray, List.getElem_cons_succ, List.getElem_cons_zero, List.setIfInBounds_toArray, List.set_cons_zero, List.set_cons_succ]
      refine wpAnyH_take (i := 28) (v := ?_) rfl (by kernel_rfl) (by kernel_rfl) (by kernel_rfl) (fun _ _ _ h => h) (Or.inl ⟨by rfl, ?_⟩) (by assumption) ?_
      rotate_left 1
      · (intro W hW; clear hW; go_simp; try with_reducible rfl)
      simp only [Act.put, List.getElem_toArray, List.getElem_cons_succ, List.getElem_cons_zero, List.setIfInBounds_toArray, List.set_cons_zero, List.set_cons_succ]
      refine wpAnyH_ready (rs := [29]) (by kernel_rfl) (by simp) ?_
      refine AllReadyH.cons rfl (fun K hK => ?_) AllReadyH.nil
      go_simp
      skip
      refine hK.out _ _ (hq3) (fun hHeld => ?_)
      clear hK K
      try simp only [Act.put, List.getElem_toArray, List.getElem_cons_succ, List.getElem_cons_zero, List.setIfInBounds_toArray, List.set_cons_zero, List.set_cons_succ]
      refine wpAnyH_take (i := 31) (v := ?_) rfl (by kernel_rfl) (by kernel_rfl) (by kernel_rfl) (fun _ _ _ h => h) (Or.inl ⟨by rfl, ?_⟩) (by assumption) ?_
      rotate_left 1
      · (intro W hW; clear hW; go_simp; try with_reducible rfl)
      simp only [Act.put, List.getElem_toArray, List.getElem_cons_succ, List.getElem_cons_zero, List.setIfInBounds_toArray, List.set_cons_zero, List.set_cons_succ]
      refine wpAnyH_take (i := 32) (v := ?_) rfl (by kernel_rfl) (by kernel_rfl) (by kernel_rfl) (fun _ _ _ h => h) (Or.inl ⟨by rfl, ?_⟩) (by assumption) ?_
      rotate_left 1
      · (intro W hW; clear hW; go_simp; try with_reducible rfl)
      simp only [Act.put, List.getElem_toArray, List.getElem_cons_succ, List.getElem_cons_zero, List.setIfInBounds_toArray, List.set_cons_zero, List.set_cons_succ]
      refine wpAnyH_done (by kernel_rfl) ?_ _
      have hs3 : Since w10 wu3 := hq3
      clear hq1 hq2 hq3 hq hHeld y2 z2 y3 z3 hr1 hr2 hr3 hfm1 hfm2 hfm3 c0 c1 f0 f1 hsr hbu1 hbu2 hbu3
      go_wp2_with fail
      go_loopw [13] (fun i wr => ∃ m : Nat, i = .int .i64 m ∧ m ≤ (t.tiles 0 0).length ∧ Since w10 wr) (fun i _ => (t.tiles 0 0).length - (intOf i).toNat)
      case atStart => exact ⟨0, rfl, Nat.zero_le _, hs3⟩
      case round =>
        clear hs3
        obtain ⟨m, rfl, hm, hsm⟩ := hrel
        by_cases hlt : m < (t.tiles 0 0).length
        · obtain ⟨ga, rfl, hga⟩ := hform m hlt
          have dm : decide ((m : Int) < (t.tiles 0 0).length) = true := decide_eq_true (by omega)
          have hml : (m : Int) ≤ 64 := by have := (P.ok hO10).2.2; omega
          have t0 : ∀ W, Since w10 W → W.cell? ⟨ga, m * 3, none⟩ = some (.int .i64 (t.tiles 0 0)[m].d) := fun W hW => (hls10.since hW hsz10).at_ hlt 0 rfl
          have hwh := P.whole (P.since hO10 hsm)
          rw [HWh.out] at hwh
          have hmost := fun hg => HM.out hg (t.tiles 0 0)[m] (List.getElem_mem _)
          obtain ⟨X, hX⟩ : ∃ X, (t.tiles 0 0)[m].d = X := ⟨_, rfl⟩
          rw [hX] at t0 hmost
          have dx : (t.gaps 0 0).isEmpty = true → decide (sd < X) = false := fun hg => decide_eq_false (by have := hmost (List.isEmpty_iff.1 hg); omega)
          rw [HWh.out] at dx
          clear hX hmost hls10 hform
          go_wp2_with fail
          refine hwh.mono ?_
          rintro e w11 ⟨rfl, hb11⟩
          have hs11 : Since w10 w11 := Since.trans hsm hb11
          first
            | (go_wp2_with fail; go_ret; exact ⟨rfl, hbw10.trans (Below.mono hs11 hbw10.size)⟩)
            | (have dx' := dx (by first | rfl | trivial)
               clear dx hwh hsm hb11
               go_wp2_with fail
               go_quiet (fail)
               go_wp2_with fail
               go_roundw
               case rel => exact ⟨m + 1, by go_num, by omega, by first | exact hs11.drewN _ | exact hs11⟩
               case measure => simp [intOf]; omega)
        · obtain rfl : m = (t.tiles 0 0).length := by omega
          have dm : decide (((t.tiles 0 0).length : Int) < (t.tiles 0 0).length) = false := decide_eq_false (by omega)
          go_wp2_with fail
          go_ret
          exact ⟨rfl, hbw10.trans (Below.mono hsm hbw10.size)⟩
end Go.Proofs.Ytdbacinaffdkaaa
