/- The walk of the law TilingBack, by premises. -/
import Derived.Test.YtdbacinaffdkaaaGMade
namespace Go.Proofs.Ytdbacinaffdkaaa
open Go.RowKit
theorem law5_num' (n : Int) (w : World) : Calls Try.prog 12 #[.int .i64 n] w fun e w' => e = .returned (.int .i64 n) ∧ w' = w := (law5_num n w).mono fun _ _ ⟨a, b⟩ => ⟨a, b.symm⟩
/-- Two tiles of a list in order that meet are one. -/
theorem pw_irr {L : List Tl} (hp : L.Pairwise Tl.ltB) {s u : Tl} (hs : s ∈ L) (hu : u ∈ L) (hm : metB s.d s.b u.d u.b = true) : s = u := by
  obtain ⟨i, hi, rfl⟩ := List.getElem_of_mem hs
  obtain ⟨j, hj, rfl⟩ := List.getElem_of_mem hu
  rcases Nat.lt_trichotomy i j with h | h | h
  · have := (List.pairwise_iff_getElem.1 hp i j hi hj h).2
    rw [hm] at this; cases this
  · subst h; rfl
  · have := (List.pairwise_iff_getElem.1 hp j i hj hi h).2
    rw [metB_comm, hm] at this; cases this
theorem hasT_of {L : List Tl} {s : Tl} (h : s ∈ L) : hasT L s.d s.b = true := (hasT_iff _ _ _).2 ⟨s, h, rfl, rfl⟩
theorem find_mem {k : Int} {L : List Tl} {x y : Int} {s : Tl} (h : findT k L x y = some s) : s ∈ L := by
  unfold findT at h
  split at h
  · exact List.mem_of_find?_eq_some h
  · cases h
theorem splT_has {L : List Tl} {s : Tl} (h : s ∈ L) (who : Int) : hasT (splT L s.d s.b who) (s.d + 1) (2 * s.b) = true ∧ hasT (splT L s.d s.b who) (s.d + 1) (2 * s.b + 1) = true := by
  have hm : ∀ u ∈ [(⟨s.d + 1, 2 * s.b, s.who⟩ : Tl), ⟨s.d + 1, 2 * s.b + 1, who⟩], u ∈ splT L s.d s.b who := by
    intro u hu
    unfold splT
    exact List.mem_flatMap.2 ⟨s, h, by rw [if_pos ⟨rfl, rfl⟩]; exact hu⟩
  exact ⟨(hasT_iff _ _ _).2 ⟨_, hm _ List.mem_cons_self, rfl, rfl⟩, (hasT_iff _ _ _).2 ⟨_, hm _ (List.mem_cons_of_mem _ List.mem_cons_self), rfl, rfl⟩⟩
/-- A split and a merge of a tile. -/
theorem back_facts {k : Int} {t : Tr} (hk : rgt k = true) (hh : (t.high : Int) ≤ 2 * k) {s : Tl} (hs : s ∈ t.tiles 0 0) (who : Int) :
    s.d ≤ 2 * k ∧
    splitT k (t.tiles 0 0) s.d s.b who = (if s.d = 2 * k then (30, t.tiles 0 0) else if 64 ≤ (t.tiles 0 0).length then (7, t.tiles 0 0) else (0, splT (t.tiles 0 0) s.d s.b who)) ∧
    (splT (t.tiles 0 0) s.d s.b who).length = (t.tiles 0 0).length + 1 ∧
    mergeT (splT (t.tiles 0 0) s.d s.b who) s.d s.b = (0, t.tiles 0 0) := by
  have hf0 : fine 0 0 = true := by decide
  have hk1 := (rgt_iff k).1 hk
  have hp := Tr.tiles_pair t 0 0 hf0 (by omega)
  obtain ⟨a1, a2⟩ := Tr.tiles_abv t 0 0 hf0 (by omega) s hs
  obtain ⟨_, fs, _⟩ := (abvB_iff _ _ _ _).1 a1
  have hsp := splT_has hs who
  refine ⟨by omega, by unfold splitT; rw [if_pos (hasT_of hs)], spl_len hp hs fs who, ?_⟩
  unfold mergeT
  rw [if_pos hsp, spl_mrg who]
  rintro u hu ⟨u1, u2⟩
  obtain ⟨f1, f2, f3, f4⟩ := (fine_iff _ _).1 fs
  obtain ⟨b1, b2⟩ := Tr.tiles_abv t 0 0 hf0 (by omega) u hu
  obtain ⟨_, fu, _⟩ := (abvB_iff _ _ _ _).1 b1
  have hu32 := ((fine_iff _ _).1 fu).2.1
  have e : pv u.d u.b s.d = s.b := by
    have h1 := pv_half (d := u.d) (b := u.b) (m := s.d) (by omega)
    rw [← u1, pv_all] at h1
    omega
  have := pw_irr hp hs hu (by unfold metB; rw [(abvB_iff _ _ _ _).2 ⟨fs, fu, by omega, e⟩]; rfl)
  rw [← this] at u1
  omega
set_option maxRecDepth 100000 in
set_option maxHeartbeats 6400000 in
theorem back_walk5 {Obj : (Nat → Prop) → World → Value → Int → Tr → Prop} (P : TilP Obj) (k : Int) {B0 : Nat} {v : Value} {A : List Ac} (cx cy who : Int) (w : World) (hA : LentE encA 4 B0 w v A) (hB0 : B0 ≤ w.heap.size) :
    Calls Try.prog 6 #[.int .i64 k, v, .agg #[.int .i64 cx, .int .i64 cy], .int .i64 who] w fun e w' => e = .returned (.bool true) ∧ Below w.heap.size w w' := by
  have k1 := tmod_bd k 16 (by decide)
  have k2 := tmod_pos k 16 (by decide)
  obtain ⟨R, hR⟩ : ∃ R, k % 16 = R := ⟨_, rfl⟩
  have k3 : 0 ≤ R ∧ R < 16 := by omega
  rw [hR] at k2
  clear hR
  obtain ⟨K, hK⟩ : ∃ K, 1 + R = K := ⟨_, rfl⟩
  have hr : rgt K = true := by rw [rgt_iff]; omega
  have HR := Lib.hid hr
  clear hr
  obtain ⟨w0, hw0⟩ : ∃ w0, w0 = (w.alloc (.cells #[.int .i64 cx, .int .i64 cy] 25)).alloc (.cells #[.int .i64 K] 66) := ⟨_, rfl⟩
  have hs0 : Since w w0 := by rw [hw0]; exact ((Since.refl w).alloc _).alloc _
  have wh0 : Whole w0 (w.heap.size) 25 #[.int .i64 cx, .int .i64 cy] := by rw [hw0]; exact (Whole.new w _ _).alloc _
  have wh1 : Whole w0 (w.heap.size + 1) 66 #[.int .i64 K] := by rw [hw0]; exact (Whole.new (w.alloc _) _ _).at_ (by simp)
  have HW := Lib.hid hw0
  have c0_0 := box_cell wh0 0 (.int .i64 cx) rfl
  have c0_1 := box_cell wh0 1 (.int .i64 cy) rfl
  have c1_0 := box_cell wh1 0 (.int .i64 K) rfl
  have hsr := Since.refl w0
  have hsd := hsr.drew
  clear hw0
  go_enter Try.func6, Try.ntmps6
  go_wp2_with fail
  rw [← HW.out]
  have hA0 := hA.since hs0 hB0
  refine (made_any P HR.out w0 hA0 (Nat.le_trans hB0 hs0.size_)).mono ?_
  rintro e w2 ⟨g, F, t, rfl, hO, hF, hbw⟩
  clear k1 k2 k3 hK hA0
  go_wp2_with (go_at_call 8; (with_reducible refine (knows5 P _).mono ?_); rintro e w3 ⟨rfl, hb3⟩; have hbw3 : Since w0 w3 := Since.trans hbw hb3)
  have hO3 := P.since hO hb3
  clear hO hb3 hbw
  obtain ⟨X, hX⟩ : ∃ X, cx % sd K = X := ⟨_, rfl⟩
  obtain ⟨Y, hY⟩ : ∃ Y, cy % sd K = Y := ⟨_, rfl⟩
  have hwr := wrap_any K cx cy
  rw [hX, hY] at hwr
  clear hX hY
  refine (hwr w3).mono ?_
  rintro e w4 ⟨rfl, hb4⟩
  have hO4 := P.since hO3 hb4
  have hbw4 : Since w0 w4 := Since.trans hbw3 hb4
  clear hO3 hb4 hbw3 hwr c0_0 c0_1 c1_0 hsr hsd wh0 wh1
  go_wp2_with fail
  refine (P.find X Y hO4).mono ?_
  rintro e w5 ⟨rfl, hb5⟩
  have hO5 := P.since hO4 hb5
  have hbw5 : Since w0 w5 := Since.trans hbw4 hb5
  clear hb5 hO4 hbw4
  have hk2 : 1 ≤ K ∧ K ≤ 16 := (rgt_iff K).1 HR.out
  cases hfd : findT K (t.tiles 0 0) X Y with
  | none =>
    unfold tlV
    clear hfd
    go_wp2_with fail
    refine Calls.named (fun w6 hw => ?_)
    have hs6 : Since w5 w6 := ((Since.refl w5).alloc _).named hw
    have hO6 := P.since hO5 hs6
    clear hw
    refine (P.list hO6).mono ?_
    rintro e w7 ⟨a, rfl, hrow, hb7⟩
    go_wp2_with fail
    go_ret
    exact ⟨rfl, hs0.trans (hbw5.trans (hs6.trans hb7))⟩
  | some s =>
    obtain ⟨o1, o2, o3⟩ := P.ok hO5
    have hfs := back_facts o1 o2 (find_mem hfd) who
    obtain ⟨sd, sb, sw⟩ := s
    dsimp only at hfs
    obtain ⟨f1, f2, f3, f4⟩ := hfs
    obtain ⟨L, hL⟩ : ∃ L, t.tiles 0 0 = L := ⟨_, rfl⟩
    rw [hL] at f2 f3 f4 o3
    have HL := Lib.hid hL
    have F4 := Lib.hid f4
    have F3 := Lib.hid f3
    have F1 := Lib.hid f1
    clear hfd f4 f3 o1 o2 hL f1
    unfold tlV
    dsimp only
    go_wp2_with fail
    refine Calls.named (fun w6 hw => ?_)
    have wy : Whole w6 w5.heap.size 50 #[.int .i64 sd, .int .i64 sb, .int .i64 sw] := (Whole.new w5 _ _).named hw
    have hs6 : Since w5 w6 := ((Since.refl w5).alloc _).named hw
    have hO6 := P.since hO5 hs6
    have hbw6 : Since w0 w6 := hbw5.trans hs6
    have hFy : ¬ F w5.heap.size := fun z => by have := P.lt hO5 _ z; omega
    obtain ⟨YB, hYB⟩ : ∃ YB, YB = w5.heap.size := ⟨_, rfl⟩
    rw [← hYB] at wy hFy ⊢
    clear hw hs6 hO5 hbw5 hYB
    have hli := P.list hO6
    rw [HL.out] at hli
    refine hli.mono ?_
    rintro e w7 ⟨a, rfl, hrow, hb7⟩
    obtain ⟨va, cap, rfl, hform⟩ := (hrow.list encT_len).form
    have hO7 := P.since hO6 hb7
    have wy7 := Since.whole hb7 wy
    have hbw7 : Since w0 w7 := Since.trans hbw6 hb7
    have hFr : ∀ a, (Value.slice va L.length cap).ownBlock = some a → ¬ F a ∧ a < w7.heap.size := fun a ha => ⟨fun z => by have h1 := hrow.own a ha; have h2 := P.lt hO6 a z; omega, (hrow.own a ha).2⟩
    clear hli hO6 wy hbw6 hb7
    have y0 := wy7.cell 0
    have y1 := wy7.cell 1
    go_wp2_with fail
    have hsp := P.split sd sb who hO7
    rw [HL.out, f2] at hsp
    clear f2
    by_cases h1 : sd = 2 * K
    · rw [if_pos h1] at hsp
      have kw : IntKind.i64.wrap (2 * K) = 2 * K := IntWalk.i64_in _ (by omega)
      have kd : (sd == 2 * K) = true := beq_iff_eq.2 h1
      have wyy := wy7
      clear y0 y1
      refine hsp.mono ?_
      rintro e w8 ⟨rfl, F8, t8, hO8, _, hoff, _⟩
      have y0 := (hoff.whole wyy hFy).cell 0
      have hbw8 : Below w.heap.size w w8 := Below.trans (B := w.heap.size) (hs0.trans hbw7) (hoff.below (hs0.trans hbw7).size (fun b z => Nat.le_trans hs0.size_ (hF b z)))
      clear hsp hO8 hoff h1
      go_wp2_with (go_at_call 12; (with_reducible refine (law5_num _ _).mono ?_); rintro e wn ⟨rfl, rfl⟩)
      go_quiet ((go_at_call 12; exact Calls.quiet_of_same (law5_num' _ _)))
      go_wp2_with fail
      go_ret
      exact ⟨rfl, Below.drewN hbw8 _⟩
    · rw [if_neg h1] at hsp
      by_cases h2 : 64 ≤ L.length
      · rw [if_pos h2] at hsp
        have kw : IntKind.i64.wrap (2 * K) = 2 * K := IntWalk.i64_in _ (by omega)
        have kd : (sd == 2 * K) = false := beq_eq_false_iff_ne.2 h1
        have kl : ((L.length : Int) == 64) = true := beq_iff_eq.2 (by omega)
        have wyy := wy7
        clear y0 y1
        refine hsp.mono ?_
        rintro e w8 ⟨rfl, F8, t8, hO8, _, hoff, _⟩
        have y0 := (hoff.whole wyy hFy).cell 0
        have hbw8 : Below w.heap.size w w8 := Below.trans (B := w.heap.size) (hs0.trans hbw7) (hoff.below (hs0.trans hbw7).size (fun b z => Nat.le_trans hs0.size_ (hF b z)))
        clear hsp hO8 hoff h1 h2
        go_wp2_with (go_at_call 12; (with_reducible refine (law5_num _ _).mono ?_); rintro e wn ⟨rfl, rfl⟩)
        go_quiet ((go_at_call 12; exact Calls.quiet_of_same (law5_num' _ _)))
        go_wp2_with fail
        go_ret
        exact ⟨rfl, Below.drewN hbw8 _⟩
      · rw [if_neg h2] at hsp
        refine hsp.mono ?_
        rintro e w8 ⟨rfl, F8, t8, hO8, ht8, hoff, hF8⟩
        dsimp only at ht8
        have wy8 := hoff.whole wy7 hFy
        have hrow8 := (hrow.list encT_len).off (Nat.le_refl _) hoff (fun a ha => (hFr a ha).1)
        have hbw8 : Below w.heap.size w w8 := Below.trans (B := w.heap.size) (hs0.trans hbw7) (hoff.below (hs0.trans hbw7).size (fun b z => Nat.le_trans hs0.size_ (hF b z)))
        have hFy8 : ¬ F8 YB := fun z => (hF8 YB z).elim hFy (fun q => by have := wy7.lt; omega)
        have hFr8 : ∀ a, (Value.slice va L.length cap).ownBlock = some a → ¬ F8 a := fun a ha z => (hF8 a z).elim (hFr a ha).1 (fun q => by have := (hFr a ha).2; omega)
        have hF8w : ∀ b, F8 b → w.heap.size ≤ b := fun b z => (hF8 b z).elim (fun q => Nat.le_trans hs0.size_ (hF b q)) (fun q => Nat.le_trans (hs0.trans hbw7).size q)
        have hsz8 : w7.heap.size ≤ w8.heap.size := hoff.size
        have hL64 : (L.length : Int) ≤ 64 := by omega
        clear y0 y1 hsp hoff hO7 wy7 hF8 hrow hFr hFy hF h1 h2 o3 hbw7
        go_wp2_with (go_at_call 12; (with_reducible refine (law5_num _ _).mono ?_); rintro e wn ⟨rfl, rfl⟩)
        have hli := P.list hO8
        rw [ht8] at hli
        refine hli.mono ?_
        rintro e w9 ⟨a9, rfl, hrow9, hb9⟩
        obtain ⟨va9, cap9, rfl⟩ : ∃ a cap, a9 = .slice a (L.length + 1) cap := by
          obtain ⟨a, cap, h, _⟩ := (hrow9.list encT_len).form
          exact ⟨a, cap, by rw [h, F3.out]⟩
        have hO9 := P.since hO8 hb9
        have hmg := P.merge sd sb hO9
        rw [ht8, F4.out] at hmg
        have wy9 := Since.whole hb9 wy8
        have hrow9' := hrow8.since hb9 hsz8
        have hbw9 : Below w.heap.size w w9 := hbw8.trans (Below.mono hb9 hbw8.size)
        have hsz9 : w7.heap.size ≤ w9.heap.size := Nat.le_trans hsz8 hb9.size
        have y0 := wy9.cell 0
        have y1 := wy9.cell 1
        clear hrow9 hli hb9 hO8 wy8 hrow8 hbw8 hsz8 ht8
        go_wp2_with fail
        refine hmg.mono ?_
        rintro e w10 ⟨rfl, F10, t10, hO10, ht10, hoff10, hF10⟩
        dsimp only at ht10
        have hrow10 := hrow9'.off hsz9 hoff10 hFr8
        have hbw10 : Below w.heap.size w w10 := Below.trans (B := w.heap.size) hbw9 (hoff10.below hbw9.size hF8w)
        have hsz10 : w7.heap.size ≤ w10.heap.size := Nat.le_trans hsz9 hoff10.size
        clear hmg hO9 wy9 hrow9' hbw9 hsz9 y0 y1 hoff10 hF10 hFr8 hF8w hFy8
        go_wp2_with (go_at_call 12; (with_reducible refine (law5_num _ _).mono ?_); rintro e wn ⟨rfl, rfl⟩)
        have hli := P.list hO10
        rw [ht10] at hli
        refine hli.mono ?_
        rintro e w11 ⟨a11, rfl, hrow11, hb11⟩
        have hl11 := hrow11.list encT_len
        obtain ⟨va11, cap11, rfl, hform11⟩ := hl11.form
        have hr11 := hrow10.since hb11 hsz10
        have hbw11 : Below w.heap.size w w11 := hbw10.trans (Below.mono hb11 hbw10.size)
        have hsz11 : w7.heap.size ≤ w11.heap.size := Nat.le_trans hsz10 hb11.size
        clear hli hrow11 hb11 hrow10 hbw10 hsz10 hO10 ht10
        go_wp2_with fail
        go_loopw [16] (fun i wr => ∃ m : Nat, i = .int .i64 m ∧ m ≤ L.length ∧ Since w11 wr) (fun i _ => L.length - (intOf i).toNat)
        case atStart => exact ⟨0, rfl, Nat.zero_le _, Since.refl w11⟩
        case round =>
          obtain ⟨m, rfl, hm, hsm⟩ := hrel
          by_cases hlt : m < L.length
          · obtain ⟨ga, rfl, hga⟩ := hform m hlt
            obtain ⟨gb, rfl, hgb⟩ := hform11 m hlt
            have dm : decide ((m : Int) < L.length) = true := decide_eq_true (by omega)
            have dk : (m : Int) < 64 := by omega
            obtain ⟨⟨ad, ab, aw⟩, hr⟩ : ∃ r, L[m] = r := ⟨_, rfl⟩
            have l1 := hr11.since hsm hsz11
            have l2 := hl11.since hsm (Nat.le_refl _)
            have t0 := l1.at_ hlt 0 (u := .int .i64 ad) (by rw [hr]; rfl)
            have t1 := l1.at_ hlt 1 (u := .int .i64 ab) (by rw [hr]; rfl)
            have t2 := l1.at_ hlt 2 (u := .int .i64 aw) (by rw [hr]; rfl)
            have u0 := l2.at_ hlt 0 (u := .int .i64 ad) (by rw [hr]; rfl)
            have u1 := l2.at_ hlt 1 (u := .int .i64 ab) (by rw [hr]; rfl)
            have u2 := l2.at_ hlt 2 (u := .int .i64 aw) (by rw [hr]; rfl)
            rw [Nat.add_zero] at t0 u0
            clear hr l1 l2 hr11 hl11 hform hform11
            go_wp2_with fail
            go_quiet (fail)
            go_wp2_with fail
            go_roundw
            case rel => exact ⟨m + 1, by go_num, by omega, hsm.drewN _⟩
            case measure => simp [intOf]; omega
          · obtain rfl : m = L.length := by omega
            have dm : decide ((L.length : Int) < L.length) = false := decide_eq_false (by omega)
            go_wp2_with fail
            go_ret
            exact ⟨rfl, hbw11.trans (Below.mono hsm hbw11.size)⟩
end Go.Proofs.Ytdbacinaffdkaaa
