/- The walk of the law TilingPlays. -/
import Derived.Test.YtgnhamhkpbadbaaMTwo
import Derived.Test.YtgnhamhkpbadbaaMRefB
import Derived.Test.YtgnhamhkpbadbaaGMade
import Derived.Test.YtgnhamhkpbadbaaGSame
namespace Go.Proofs.Ytgnhamhkpbadbaa
open Go.RowKit
set_option linter.unusedVariables false
set_option linter.unusedSimpArgs false
set_option maxRecDepth 100000 in
set_option maxHeartbeats 25600000 in
theorem plays_walk (k : Int) {B : Nat} {vl va : Value} {L : List Tl} {A : List Ac} (cx cy pd pb : Int) (w : World) (hL : LentE encT 3 B w vl L) (hA : LentE encA 4 B w va A) (hB : B ≤ w.heap.size) :
    Calls Try.prog 3 #[.int .i64 k, vl, va, .agg #[.int .i64 cx, .int .i64 cy], .agg #[.int .i64 pd, .int .i64 pb]] w fun e w' => e = .returned (.bool true) ∧ Below w.heap.size w w' := by
  obtain ⟨w0, hw0⟩ : ∃ w0, w0 = (w.alloc (.cells #[.int .i64 cx, .int .i64 cy] 25)).alloc (.cells #[.int .i64 pd, .int .i64 pb] 27) := ⟨_, rfl⟩
  have hs0 : Since w w0 := by rw [hw0]; exact ((Since.refl w).alloc _).alloc _
  have wh0 : Whole w0 (w.heap.size) 25 #[.int .i64 cx, .int .i64 cy] := by rw [hw0]; exact (Whole.new w _ _).alloc _
  have wh1 : Whole w0 (w.heap.size + 1) 27 #[.int .i64 pd, .int .i64 pb] := by rw [hw0]; exact (Whole.new (w.alloc _) _ _).at_ (by simp)
  have HW := Lib.hid hw0
  have c0_0 := box_cell wh0 0 (.int .i64 cx) rfl
  have c0_1 := box_cell wh0 1 (.int .i64 cy) rfl
  have c1_0 := box_cell wh1 0 (.int .i64 pd) rfl
  have c1_1 := box_cell wh1 1 (.int .i64 pb) rfl
  have hsr := Since.refl w0
  have hsd := hsr.drew
  clear hw0 wh0 wh1
  have hL0 := hL.below (Below.mono hs0 hB) (Nat.le_refl _)
  have hA0 := hA.below (Below.mono hs0 hB) (Nat.le_refl _)
  clear hL hA
  have HLE := Lib.hid hL0
  obtain ⟨la, lc, rfl, hlf⟩ := hL0
  obtain ⟨aa, ac, rfl, haf⟩ := hA0
  have HAF := Lib.hid haf
  have hB0 : B ≤ w0.heap.size := Nat.le_trans hB hs0.size_
  clear hlf haf
  by_cases h80 : 80 < L.length
  · have d1 : decide ((80 : Int) < L.length) = true := decide_eq_true (by omega)
    go_enter Try.func3, Try.ntmps3
    go_wp2_with fail
    rw [← HW.out]
    go_wp2_with (go_at_call 8; (with_reducible refine (knows5 tilP _).mono ?_); rintro e w3 ⟨rfl, hb3⟩)
    go_ret
    exact ⟨rfl, hs0.trans hb3⟩
  have d1 : decide ((80 : Int) < L.length) = false := decide_eq_false (by omega)
  by_cases h40 : 40 < A.length
  · have d2 : decide ((40 : Int) < A.length) = true := decide_eq_true (by omega)
    go_enter Try.func3, Try.ntmps3
    go_wp2_with fail
    rw [← HW.out]
    go_wp2_with (go_at_call 8; (with_reducible refine (knows5 tilP _).mono ?_); rintro e w3 ⟨rfl, hb3⟩)
    go_ret
    exact ⟨rfl, hs0.trans hb3⟩
  have d2 : decide ((40 : Int) < A.length) = false := decide_eq_false (by omega)
  go_enter Try.func3, Try.ntmps3
  go_wp2_with fail
  rw [← HW.out]
  go_wp2_with fail
  refine (own_any w0 HLE.out hB0 (by omega)).mono ?_
  rintro e w1 ⟨va1, rfl, row1, hb1⟩
  have hl1 := row1.list encT_len
  go_wp2_with fail
  refine (tnew_any (k := k) w1 hl1 (Nat.le_refl _) (by omega)).mono ?_
  rintro e w2 hn2
  have hLE2 := HLE.out.below (hb1.trans (show Since w1 w2 from by
    rcases hn2 with ⟨_, _, _, _, _, _, _, z⟩ | ⟨_, _, z⟩
    · exact z
    · exact z)) hB0
  obtain ⟨⟨E, TL⟩, hE⟩ : ∃ z, newT k L = z := ⟨_, rfl⟩
  have hrn := refNew_any (k := k) w2 hLE2 (Nat.le_trans hB0 (by rcases hn2 with ⟨_, _, _, _, _, _, _, z⟩ | ⟨_, _, z⟩ <;> (have := z.size; have := hb1.size; omega))) (by omega)
  rw [hE] at hn2 hrn
  have HRN := Lib.hid hrn
  have nn : (E != E) = false := by simp
  clear hrn hE hLE2 hl1 row1
  rcases hn2 with ⟨h0, gx, p, rfl, hx, ht, hbl, hb2⟩ | ⟨h0, rfl, hb2⟩
  rotate_left
  · dsimp only at h0
    replace hb2 : Since w1 w2 := hb2
    go_wp2_with fail
    refine HRN.out.mono ?_
    rintro e w3 hr3
    rcases hr3 with ⟨z, _⟩ | ⟨_, rfl, hb3⟩
    · exact absurd z h0
    have hs3 : Since w w3 := hs0.trans (hb1.trans (hb2.trans hb3))
    clear h0 HRN
    go_wp2_with (first | (go_at_call 12; (with_reducible refine (law5_num _ _).mono ?_); rintro e wn ⟨rfl, rfl⟩) | (go_at_call 8; (with_reducible refine (knows5 tilP _).mono ?_); rintro e w4 ⟨rfl, hb4⟩))
    have hs4 : Since w w4 := hs3.trans hb4
    go_loopw [11, 15] (fun xv iv wr => xv = .pointer none ∧ iv = .int .i64 0 ∧ wr = w4) (fun _ _ _ => 0)
    case atStart => exact ⟨rfl, rfl, rfl⟩
    case round =>
      obtain ⟨rfl, rfl, rfl⟩ := hrel
      by_cases hA0 : 0 < A.length
      · have d3 : decide ((0 : Int) < A.length) = true := decide_eq_true (by omega)
        go_wp2_with fail
        go_ret
        exact ⟨rfl, hs4⟩
      · have d3 : decide ((0 : Int) < A.length) = false := decide_eq_false (by omega)
        go_wp2_with fail
        go_ret
        exact ⟨rfl, hs4⟩
  · dsimp only at h0
    subst h0
    replace hb2 : Since w1 w2 := hb2
    go_wp2_with fail
    refine HRN.out.mono ?_
    rintro e w3 hr3
    rcases hr3 with ⟨_, gr, v, rfl, hr, hgr, hb3⟩ | ⟨z, _⟩
    rotate_left
    · exact absurd rfl z
    have hs3 : Since w0 w3 := hb1.trans (hb2.trans hb3)
    have hT3 : Two gx p gr v k w3 := ⟨hx.since hb3, by rw [ht]; exact hr⟩
    have hge : ∀ b ∈ gx :: p.bl, w0.heap.size ≤ b := fun b hb => Nat.le_trans hb1.size_ (hbl b hb)
    have hgr0 : w0.heap.size ≤ gr := by have := hb1.size_; have := hb2.size; omega
    have HT3 := Lib.hid hT3
    have HGE := Lib.hid hge
    clear hx ht hbl hr hgr HRN hT3 hge
    go_wp2_with (first | (go_at_call 12; (with_reducible refine (law5_num _ _).mono ?_); rintro e wn ⟨rfl, rfl⟩) | (go_at_call 8; (with_reducible refine (knows5 tilP _).mono ?_); rintro e w4 ⟨rfl, hb4⟩))
    have hs4 : Since w0 w4 := hs3.trans hb4
    go_loopw [11, 15] (fun xv iv wr => ∃ (m gx : Nat) (p : PT) (v : Value), iv = .int .i64 m ∧ m ≤ A.length ∧ xv = .pointer (some ⟨gx, 0, none⟩) ∧ Two gx p gr v k wr ∧ (∀ b ∈ gx :: p.bl, w0.heap.size ≤ b) ∧ Since w0 wr) (fun _ iv _ => A.length - (intOf iv).toNat)
    case atStart => exact ⟨0, gx, p, v, rfl, Nat.zero_le _, rfl, ⟨HT3.out.x.since hb4, HT3.out.r.since hb4⟩, HGE.out, hs4⟩
    case round =>
      clear HT3 HGE hs3 hb3 hb4 hs4 hb1 hb2
      obtain ⟨m, gx, p, v, rfl, hm, rfl, hT, hge, hs⟩ := hrel
      have HT := Lib.hid hT
      have HGE := Lib.hid hge
      clear hT hge
      have hwrap : wrap64 ((m : Int) + 1) = ((m + 1 : Nat) : Int) := IntWalk.wrap64_in _ ⟨by omega, by omega⟩
      by_cases hlt : m < A.length
      · have d3 : decide ((m : Int) < A.length) = true := decide_eq_true (by omega)
        have hlt' : (m : Int) < A.length := by omega
        obtain ⟨g, go, rfl, hg, hcc⟩ : ∃ g go, aa = some ⟨g, go, none⟩ ∧ g < B ∧ ∀ j u, (encA A[m])[j]? = some u → w0.cell? ⟨g, go + m * 4 + j, none⟩ = some u := by
          rcases HAF.out with z | ⟨g, go, h1, h2, h3⟩
          · omega
          · exact ⟨g, go, h1, h2, h3 m hlt⟩
        obtain ⟨⟨KI, ad, ab, aw⟩, hr⟩ : ∃ a, A[m] = a := ⟨_, rfl⟩
        rw [hr] at hcc
        have hcell := Lib.hid (show ∀ W, Since w0 W → W.cell? ⟨g, go + m * 4, none⟩ = some (.int .i64 KI) ∧ W.cell? ⟨g, go + m * 4 + 1, none⟩ = some (.int .i64 ad) ∧ W.cell? ⟨g, go + m * 4 + 1 + 1, none⟩ = some (.int .i64 ab) ∧ W.cell? ⟨g, go + m * 4 + 2, none⟩ = some (.int .i64 ab) ∧ W.cell? ⟨g, go + m * 4 + 3, none⟩ = some (.int .i64 aw) from fun W hW => by
          have e : ∀ j, W.cell? ⟨g, j, none⟩ = w0.cell? ⟨g, j, none⟩ := fun j => World.cell?_of_block (hW.block g (Nat.lt_of_lt_of_le hg hB0))
          exact ⟨(e _).trans (hcc 0 _ rfl), (e _).trans (hcc 1 _ rfl), (e _).trans (hcc 2 _ rfl), (e _).trans (hcc 2 _ rfl), (e _).trans (hcc 3 _ rfl)⟩)
        clear hr hcc
        obtain ⟨q0, q1, q2, q3, q4⟩ := hcell.out wr hs
        by_cases h5 : KI = 5
        · subst h5
          go_wp2_with fail
          refine (clone_any HT.out.x).mono ?_
          rintro e w5 ⟨gy, q, rfl, hy, hyt, hyb, hb5⟩
          have s5 : Since w0 w5 := hs.trans hb5
          obtain ⟨r0, r1, r2, r3, r4⟩ := hcell.out w5 s5
          have T5 : Two gx p gr v k w5 := ⟨HT.out.x.since hb5, HT.out.r.since hb5⟩
          have HT5 := Lib.hid T5
          have HY := Lib.hid hy
          have HYB := Lib.hid hyb
          have HYT := Lib.hid hyt
          clear q0 q1 q2 q3 q4 T5 hy hyb hyt
          go_wp2_with fail
          refine (split_any HT5.out.x ad ab 9).mono ?_
          rintro e w6 hc6
          obtain ⟨rfl, p1, hx1, ht1, hr1, ho1, hbl1⟩ := HT5.out.prog hc6
          have hy6 : TilO gy q k w6 := HY.out.off ho1 (fun b hb z => by have := HYB.out b hb; have := HT.out.x.lt b z; omega)
          have s6 : Since w0 w6 := Below.trans s5 (ho1.below s5.size_ (fun b hb => HGE.out b hb))
          have HX1 := Lib.hid hx1
          have HR1 := Lib.hid hr1
          have HB1 := Lib.hid hbl1
          have HY6 := Lib.hid hy6
          clear r0 r1 r2 r3 r4 hc6 ht1 hx1 hr1 hbl1 hy6
          go_wp2_with fail
          refine (drop_any HX1.out 0 0).mono ?_
          rintro e w7 ⟨rfl, p7, _, _, ho7, _⟩
          have ha7 := RefO.apart HX1.out HR1.out
          have hr7 := HR1.out.off ho7 (fun z => (ha7 gr z).1 rfl) (fun b hb z => (ha7 b z).2 hb)
          have hin : ∀ b, b ∈ gx :: p1.bl → b ∈ gx :: p.bl ∨ w5.heap.size ≤ b := by
            intro b hb
            rcases List.mem_cons.1 hb with rfl | hb
            · exact .inl List.mem_cons_self
            · exact (HB1.out b hb).imp (fun z => List.mem_cons_of_mem _ z) id
          have hy7 : TilO gy q k w7 := HY6.out.off ho7 (fun b hb z => by
            have h1 := HYB.out b hb
            have h2 := HY.out.lt b hb
            rcases hin b z with y | y
            · have := HT.out.x.lt b y; omega
            · omega)
          have s7 : Since w0 w7 := Below.trans s6 (ho7.below s6.size_ (fun b hb => by
            rcases hin b hb with y | y
            · exact HGE.out b y
            · have := s5.size_; omega))
          have T7 : Two gy q gr v k w7 := ⟨hy7, by rw [HYT.out]; exact hr7⟩
          have hge7 : ∀ b ∈ gy :: q.bl, w0.heap.size ≤ b := fun b hb => Nat.le_trans hs.size_ (HYB.out b hb)
          have HS7 := Lib.hid s7
          have HT7 := Lib.hid T7
          have HG7 := Lib.hid hge7
          clear hr7 hy7 ho7 ha7 hin T7 hge7
          go_upto_region 15 with fail
          obtain ⟨Fb, hFb⟩ : ∃ Fb : Nat → Prop, Fb = fun b => b ∈ gy :: q.bl ∨ b = gr := ⟨_, rfl⟩
          have HFB := Lib.hid hFb
          have hFl : ∀ b, Fb b → w0.heap.size ≤ b := by
            rw [hFb]
            rintro b (z | z)
            · exact HG7.out b z
            · rw [z]; exact hgr0
          have hsw : ∀ W', Off Fb w7 W' → Since w0 W' := fun W' h => Below.trans HS7.out (h.below (HS7.out).size_ hFl)
          have m0 := fun W' (h : Off Fb w7 W') => (hcell.out W' (hsw W' h)).1
          have m1 := fun W' (h : Off Fb w7 W') => (hcell.out W' (hsw W' h)).2.1
          have m2 := fun W' (h : Off Fb w7 W') => (hcell.out W' (hsw W' h)).2.2.1
          have m3 := fun W' (h : Off Fb w7 W') => (hcell.out W' (hsw W' h)).2.2.2.1
          have m4 := fun W' (h : Off Fb w7 W') => (hcell.out W' (hsw W' h)).2.2.2.2
          have HSW := Lib.hid hsw
          obtain ⟨wq, hwq⟩ : ∃ wq, wq = w7.drew := ⟨_, rfl⟩
          have htq : Two gy q gr v k wq := by rw [hwq]; exact ⟨(HT7.out).x.since (Since.refl w7).drew, (HT7.out).r.since (Since.refl w7).drew⟩
          refine wp_region_held_drew (S := fun W' => Off Fb w7 W') (by kernel_rfl) (Off.refl Fb w7).drew (fun hHeld => ?_)
          rw [← hwq] at hHeld ⊢
          have hq : Off Fb w7 wq := hHeld
          have HTQ := Lib.hid htq
          clear hwq htq hFb hFl hsw
          refine wpAnyH_take (i := 0) (v := ?_) rfl (by kernel_rfl) (by kernel_rfl) (by kernel_rfl) (fun _ _ _ h => h) (Or.inl ⟨by rfl, ?_⟩) (by assumption) ?_
          rotate_left 1
          · (intro W hW; clear hW; go_simp; try with_reducible rfl)
          simp only [Act.put, List.getElem_toArray, List.getElem_cons_zero, List.setIfInBounds_toArray, List.set_cons_zero, List.set_cons_succ]
          refine wpAnyH_take (i := 1) (v := ?_) rfl (by kernel_rfl) (by kernel_rfl) (by kernel_rfl) (fun _ _ _ h => h) (Or.inl ⟨by rfl, ?_⟩) (by assumption) ?_
          rotate_left 1
          · (intro W hW; clear hW; go_simp; try with_reducible rfl)
          simp only [Act.put, List.getElem_toArray, List.getElem_cons_succ, List.getElem_cons_zero, List.setIfInBounds_toArray, List.set_cons_zero, List.set_cons_succ]
          refine wpAnyH_take (i := 2) (v := ?_) rfl (by kernel_rfl) (by kernel_rfl) (by kernel_rfl) (fun _ _ _ h => h) (Or.inl ⟨by rfl, ?_⟩) (by assumption) ?_
          rotate_left 1
          · (intro W hW; clear hW; go_simp; try with_reducible rfl)
          simp only [Act.put, List.getElem_toArray, List.getElem_cons_succ, List.getElem_cons_zero, List.setIfInBounds_toArray, List.set_cons_zero, List.set_cons_succ]
          refine wpAnyH_take (i := 3) (v := ?_) rfl (by kernel_rfl) (by kernel_rfl) (by kernel_rfl) (fun _ _ _ h => h) (Or.inl ⟨by rfl, ?_⟩) (by assumption) ?_
          rotate_left 1
          · (intro W hW; clear hW; go_simp; try with_reducible rfl)
          simp only [Act.put, List.getElem_toArray, List.getElem_cons_succ, List.getElem_cons_zero, List.setIfInBounds_toArray, List.set_cons_zero, List.set_cons_succ]
          refine wpAnyH_take (i := 4) (v := ?_) rfl (by kernel_rfl) (by kernel_rfl) (by kernel_rfl) (fun _ _ _ h => h) (Or.inl ⟨by rfl, ?_⟩) (by assumption) ?_
          rotate_left 1
          · (intro W hW; clear hW; go_simp; try with_reducible rfl)
          simp only [Act.put, List.getElem_toArray, List.getElem_cons_succ, List.getElem_cons_zero, List.setIfInBounds_toArray, List.set_cons_zero, List.set_cons_succ]
          refine wpAnyH_take (i := 5) (v := ?_) rfl (by kernel_rfl) (by kernel_rfl) (by kernel_rfl) (fun _ _ _ h => h) (Or.inl ⟨by rfl, ?_⟩) (by assumption) ?_
          rotate_left 1
          · (intro W hW; skip; go_simp; try with_reducible rfl)
          simp only [Act.put, List.getElem_toArray, List.getElem_cons_succ, List.getElem_cons_zero, List.setIfInBounds_toArray, List.set_cons_zero, List.set_cons_succ]
          refine wpAnyH_ready (rs := [6]) (by kernel_rfl) (by simp) ?_
          refine AllReadyH.cons rfl (fun K hK => ?_) AllReadyH.nil
          go_simp
          refine (one_any HTQ.out 5 ad ab aw).mono ?_
          rintro e w8 ⟨rfl, p8, v8, h8, o8, b8⟩
          obtain ⟨va8, vc8, rfl⟩ := h8.r.size
          have k8 : Off Fb w7 w8 := hq.trans (by rw [HFB.out]; exact o8) (fun b _ z => z)
          have c8 := h8.r.box.cell 1
          have H8 := Lib.hid h8
          have B8 := Lib.hid b8
          clear h8 o8 b8
          go_wp2_with fail
          refine hK.out _ _ (k8) (fun hHeld => ?_)
          clear hK K
          try simp only [Act.put, List.getElem_toArray, List.getElem_cons_succ, List.getElem_cons_zero, List.setIfInBounds_toArray, List.set_cons_zero, List.set_cons_succ]
          refine wpAnyH_take (i := 7) (v := ?_) rfl (by kernel_rfl) (by kernel_rfl) (by kernel_rfl) (fun _ _ _ h => h) (Or.inl ⟨by rfl, ?_⟩) (by assumption) ?_
          rotate_left 1
          · (intro W hW; clear hW; go_simp; try with_reducible rfl)
          simp only [Act.put, List.getElem_toArray, List.getElem_cons_succ, List.getElem_cons_zero, List.setIfInBounds_toArray, List.set_cons_zero, List.set_cons_succ]
          refine wpAnyH_take (i := 8) (v := ?_) rfl (by kernel_rfl) (by kernel_rfl) (by kernel_rfl) (fun _ _ _ h => h) (Or.inl ⟨by rfl, ?_⟩) (by assumption) ?_
          rotate_left 1
          · (intro W hW; clear hW; go_simp; try with_reducible rfl)
          simp only [Act.put, List.getElem_toArray, List.getElem_cons_succ, List.getElem_cons_zero, List.setIfInBounds_toArray, List.set_cons_zero, List.set_cons_succ]
          refine wpAnyH_take (i := 9) (v := ?_) rfl (by kernel_rfl) (by kernel_rfl) (by kernel_rfl) (fun _ _ _ h => h) (Or.inl ⟨by rfl, ?_⟩) (by assumption) ?_
          rotate_left 1
          · (intro W hW; clear hW; go_simp; try with_reducible rfl)
          simp only [Act.put, List.getElem_toArray, List.getElem_cons_succ, List.getElem_cons_zero, List.setIfInBounds_toArray, List.set_cons_zero, List.set_cons_succ]
          refine wpAnyH_take (i := 11) (v := ?_) rfl (by kernel_rfl) (by kernel_rfl) (by kernel_rfl) (fun _ _ _ h => h) (Or.inl ⟨by rfl, ?_⟩) (by assumption) ?_
          rotate_left 1
          · (intro W hW; clear hW; go_simp; try with_reducible rfl)
          simp only [Act.put, List.getElem_toArray, List.getElem_cons_succ, List.getElem_cons_zero, List.setIfInBounds_toArray, List.set_cons_zero, List.set_cons_succ]
          refine wpAnyH_take (i := 12) (v := ?_) rfl (by kernel_rfl) (by kernel_rfl) (by kernel_rfl) (fun _ _ _ h => h) (Or.inl ⟨by rfl, ?_⟩) (by assumption) ?_
          rotate_left 1
          · (intro W hW; clear hW; go_simp; try with_reducible rfl)
          simp only [Act.put, List.getElem_toArray, List.getElem_cons_succ, List.getElem_cons_zero, List.setIfInBounds_toArray, List.set_cons_zero, List.set_cons_succ]
          refine wpAnyH_take (i := 13) (v := ?_) rfl (by kernel_rfl) (by kernel_rfl) (by kernel_rfl) (fun _ _ _ h => h) (Or.inl ⟨by rfl, ?_⟩) (by assumption) ?_
          rotate_left 1
          · (intro W hW; clear hW; go_simp; try with_reducible rfl)
          simp only [Act.put, List.getElem_toArray, List.getElem_cons_succ, List.getElem_cons_zero, List.setIfInBounds_toArray, List.set_cons_zero, List.set_cons_succ]
          refine wpAnyH_ready (rs := [10, 14]) (by kernel_rfl) (by simp) ?_
          refine AllReadyH.cons rfl (fun K hK => ?_) (AllReadyH.cons rfl (fun K hK => ?_) AllReadyH.nil)
          · go_simp
            refine (tilP.list (show TilObj (fun b => b ∈ gy :: p8.bl) w8 (.pointer (some ⟨gy, 0, none⟩)) k p8.tr from ⟨gy, p8, rfl, H8.out.x, rfl, fun _ => Iff.rfl⟩)).mono ?_
            rintro e w9 ⟨a9, rfl, row9, hb9⟩
            have k9 : Off Fb w7 w9 := k8.since hb9
            have c9 := (Since.whole hb9 H8.out.r.box).cell 1
            go_wp2_with fail
            refine hK.out _ _ (k9) (fun hHeld => ?_)
            clear hK K
            try simp only [Act.put, List.getElem_toArray, List.getElem_cons_succ, List.getElem_cons_zero, List.setIfInBounds_toArray, List.set_cons_zero, List.set_cons_succ]
            refine wpAnyH_ready (rs := [14]) (by kernel_rfl) (by simp) ?_
            refine AllReadyH.cons rfl (fun K hK => ?_) AllReadyH.nil
            go_simp
            skip
            refine hK.out _ _ (k9) (fun hHeld => ?_)
            clear hK K
            try simp only [Act.put, List.getElem_toArray, List.getElem_cons_succ, List.getElem_cons_zero, List.setIfInBounds_toArray, List.set_cons_zero, List.set_cons_succ]
            refine wpAnyH_ready (rs := [15]) (by kernel_rfl) (by simp) ?_
            refine AllReadyH.cons rfl (fun K hK => ?_) AllReadyH.nil
            go_simp
            refine (sameT_any w9 (row9.list encT_len) ((H8.out.r.since hb9).row.list encT_len) (Nat.le_refl _) (by have := H8.out.x.most; omega)).mono ?_
            rintro e wS ⟨rfl, hbS⟩
            have kS := k9.since hbS
            go_wp2_with fail
            refine hK.out _ _ (kS) (fun hHeld => ?_)
            clear hK K
            try simp only [Act.put, List.getElem_toArray, List.getElem_cons_succ, List.getElem_cons_zero, List.setIfInBounds_toArray, List.set_cons_zero, List.set_cons_succ]
            refine wpAnyH_take (i := 16) (v := ?_) rfl (by kernel_rfl) (by kernel_rfl) (by kernel_rfl) (fun _ _ _ h => h) (Or.inl ⟨by rfl, ?_⟩) (by assumption) ?_
            rotate_left 1
            · (intro W hW; clear hW; go_simp; try with_reducible rfl)
            simp only [Act.put, List.getElem_toArray, List.getElem_cons_succ, List.getElem_cons_zero, List.setIfInBounds_toArray, List.set_cons_zero, List.set_cons_succ]
            refine wpAnyH_take (i := 17) (v := ?_) rfl (by kernel_rfl) (by kernel_rfl) (by kernel_rfl) (fun _ _ _ h => h) (Or.inl ⟨by rfl, ?_⟩) (by assumption) ?_
            rotate_left 1
            · (intro W hW; clear hW; go_simp; try with_reducible rfl)
            simp only [Act.put, List.getElem_toArray, List.getElem_cons_succ, List.getElem_cons_zero, List.setIfInBounds_toArray, List.set_cons_zero, List.set_cons_succ]
            refine wpAnyH_done (by kernel_rfl) ?_ _
            go_wp2_with fail
            go_roundw
            case rel => exact ⟨m + 1, gy, p8, _, by go_num, by omega, rfl, ⟨H8.out.x.since (Since.trans hb9 hbS), H8.out.r.since (Since.trans hb9 hbS)⟩, (fun b hb => by
              rcases List.mem_cons.1 hb with rfl | hb
              · exact HG7.out _ List.mem_cons_self
              · rcases B8.out b hb with z | z
                · exact HG7.out _ (List.mem_cons_of_mem _ z)
                · have := (HS7.out).size_; have := hq.size; omega), HSW.out _ kS⟩
            case measure => simp [intOf]; omega
          · go_simp
            skip
            refine hK.out _ _ (k8) (fun hHeld => ?_)
            clear hK K
            try simp only [Act.put, List.getElem_toArray, List.getElem_cons_succ, List.getElem_cons_zero, List.setIfInBounds_toArray, List.set_cons_zero, List.set_cons_succ]
            refine wpAnyH_ready (rs := [10]) (by kernel_rfl) (by simp) ?_
            refine AllReadyH.cons rfl (fun K hK => ?_) AllReadyH.nil
            go_simp
            refine (tilP.list (show TilObj (fun b => b ∈ gy :: p8.bl) w8 (.pointer (some ⟨gy, 0, none⟩)) k p8.tr from ⟨gy, p8, rfl, H8.out.x, rfl, fun _ => Iff.rfl⟩)).mono ?_
            rintro e w9 ⟨a9, rfl, row9, hb9⟩
            have k9 : Off Fb w7 w9 := k8.since hb9
            have c9 := (Since.whole hb9 H8.out.r.box).cell 1
            go_wp2_with fail
            refine hK.out _ _ (k9) (fun hHeld => ?_)
            clear hK K
            try simp only [Act.put, List.getElem_toArray, List.getElem_cons_succ, List.getElem_cons_zero, List.setIfInBounds_toArray, List.set_cons_zero, List.set_cons_succ]
            refine wpAnyH_ready (rs := [15]) (by kernel_rfl) (by simp) ?_
            refine AllReadyH.cons rfl (fun K hK => ?_) AllReadyH.nil
            go_simp
            refine (sameT_any w9 (row9.list encT_len) ((H8.out.r.since hb9).row.list encT_len) (Nat.le_refl _) (by have := H8.out.x.most; omega)).mono ?_
            rintro e wS ⟨rfl, hbS⟩
            have kS := k9.since hbS
            go_wp2_with fail
            refine hK.out _ _ (kS) (fun hHeld => ?_)
            clear hK K
            try simp only [Act.put, List.getElem_toArray, List.getElem_cons_succ, List.getElem_cons_zero, List.setIfInBounds_toArray, List.set_cons_zero, List.set_cons_succ]
            refine wpAnyH_take (i := 16) (v := ?_) rfl (by kernel_rfl) (by kernel_rfl) (by kernel_rfl) (fun _ _ _ h => h) (Or.inl ⟨by rfl, ?_⟩) (by assumption) ?_
            rotate_left 1
            · (intro W hW; clear hW; go_simp; try with_reducible rfl)
            simp only [Act.put, List.getElem_toArray, List.getElem_cons_succ, List.getElem_cons_zero, List.setIfInBounds_toArray, List.set_cons_zero, List.set_cons_succ]
            refine wpAnyH_take (i := 17) (v := ?_) rfl (by kernel_rfl) (by kernel_rfl) (by kernel_rfl) (fun _ _ _ h => h) (Or.inl ⟨by rfl, ?_⟩) (by assumption) ?_
            rotate_left 1
            · (intro W hW; clear hW; go_simp; try with_reducible rfl)
            simp only [Act.put, List.getElem_toArray, List.getElem_cons_succ, List.getElem_cons_zero, List.setIfInBounds_toArray, List.set_cons_zero, List.set_cons_succ]
            refine wpAnyH_done (by kernel_rfl) ?_ _
            go_wp2_with fail
            go_roundw
            case rel => exact ⟨m + 1, gy, p8, _, by go_num, by omega, rfl, ⟨H8.out.x.since (Since.trans hb9 hbS), H8.out.r.since (Since.trans hb9 hbS)⟩, (fun b hb => by
              rcases List.mem_cons.1 hb with rfl | hb
              · exact HG7.out _ List.mem_cons_self
              · rcases B8.out b hb with z | z
                · exact HG7.out _ (List.mem_cons_of_mem _ z)
                · have := (HS7.out).size_; have := hq.size; omega), HSW.out _ kS⟩
            case measure => simp [intOf]; omega
        · have x5 : (KI == 5) = false := beq_eq_false_iff_ne.2 h5
          have HS7 := Lib.hid hs
          clear hs
          go_upto_region 15 with fail
          obtain ⟨Fb, hFb⟩ : ∃ Fb : Nat → Prop, Fb = fun b => b ∈ gx :: p.bl ∨ b = gr := ⟨_, rfl⟩
          have HFB := Lib.hid hFb
          have hFl : ∀ b, Fb b → w0.heap.size ≤ b := by
            rw [hFb]
            rintro b (z | z)
            · exact HGE.out b z
            · rw [z]; exact hgr0
          have hsw : ∀ W', Off Fb wr W' → Since w0 W' := fun W' h => Below.trans HS7.out (h.below (HS7.out).size_ hFl)
          have m0 := fun W' (h : Off Fb wr W') => (hcell.out W' (hsw W' h)).1
          have m1 := fun W' (h : Off Fb wr W') => (hcell.out W' (hsw W' h)).2.1
          have m2 := fun W' (h : Off Fb wr W') => (hcell.out W' (hsw W' h)).2.2.1
          have m3 := fun W' (h : Off Fb wr W') => (hcell.out W' (hsw W' h)).2.2.2.1
          have m4 := fun W' (h : Off Fb wr W') => (hcell.out W' (hsw W' h)).2.2.2.2
          have HSW := Lib.hid hsw
          obtain ⟨wq, hwq⟩ : ∃ wq, wq = wr.drew := ⟨_, rfl⟩
          have htq : Two gx p gr v k wq := by rw [hwq]; exact ⟨(HT.out).x.since (Since.refl wr).drew, (HT.out).r.since (Since.refl wr).drew⟩
          refine wp_region_held_drew (S := fun W' => Off Fb wr W') (by kernel_rfl) (Off.refl Fb wr).drew (fun hHeld => ?_)
          rw [← hwq] at hHeld ⊢
          have hq : Off Fb wr wq := hHeld
          have HTQ := Lib.hid htq
          clear hwq htq hFb hFl hsw
          clear q0 q1 q2 q3 q4
          refine wpAnyH_take (i := 0) (v := ?_) rfl (by kernel_rfl) (by kernel_rfl) (by kernel_rfl) (fun _ _ _ h => h) (Or.inl ⟨by rfl, ?_⟩) (by assumption) ?_
          rotate_left 1
          · (intro W hW; clear hW; go_simp; try with_reducible rfl)
          simp only [Act.put, List.getElem_toArray, List.getElem_cons_zero, List.setIfInBounds_toArray, List.set_cons_zero, List.set_cons_succ]
          refine wpAnyH_take (i := 1) (v := ?_) rfl (by kernel_rfl) (by kernel_rfl) (by kernel_rfl) (fun _ _ _ h => h) (Or.inl ⟨by rfl, ?_⟩) (by assumption) ?_
          rotate_left 1
          · (intro W hW; clear hW; go_simp; try with_reducible rfl)
          simp only [Act.put, List.getElem_toArray, List.getElem_cons_succ, List.getElem_cons_zero, List.setIfInBounds_toArray, List.set_cons_zero, List.set_cons_succ]
          refine wpAnyH_take (i := 2) (v := ?_) rfl (by kernel_rfl) (by kernel_rfl) (by kernel_rfl) (fun _ _ _ h => h) (Or.inl ⟨by rfl, ?_⟩) (by assumption) ?_
          rotate_left 1
          · (intro W hW; clear hW; go_simp; try with_reducible rfl)
          simp only [Act.put, List.getElem_toArray, List.getElem_cons_succ, List.getElem_cons_zero, List.setIfInBounds_toArray, List.set_cons_zero, List.set_cons_succ]
          refine wpAnyH_take (i := 3) (v := ?_) rfl (by kernel_rfl) (by kernel_rfl) (by kernel_rfl) (fun _ _ _ h => h) (Or.inl ⟨by rfl, ?_⟩) (by assumption) ?_
          rotate_left 1
          · (intro W hW; clear hW; go_simp; try with_reducible rfl)
          simp only [Act.put, List.getElem_toArray, List.getElem_cons_succ, List.getElem_cons_zero, List.setIfInBounds_toArray, List.set_cons_zero, List.set_cons_succ]
          refine wpAnyH_take (i := 4) (v := ?_) rfl (by kernel_rfl) (by kernel_rfl) (by kernel_rfl) (fun _ _ _ h => h) (Or.inl ⟨by rfl, ?_⟩) (by assumption) ?_
          rotate_left 1
          · (intro W hW; clear hW; go_simp; try with_reducible rfl)
          simp only [Act.put, List.getElem_toArray, List.getElem_cons_succ, List.getElem_cons_zero, List.setIfInBounds_toArray, List.set_cons_zero, List.set_cons_succ]
          refine wpAnyH_take (i := 5) (v := ?_) rfl (by kernel_rfl) (by kernel_rfl) (by kernel_rfl) (fun _ _ _ h => h) (Or.inl ⟨by rfl, ?_⟩) (by assumption) ?_
          rotate_left 1
          · (intro W hW; skip; go_simp; try with_reducible rfl)
          simp only [Act.put, List.getElem_toArray, List.getElem_cons_succ, List.getElem_cons_zero, List.setIfInBounds_toArray, List.set_cons_zero, List.set_cons_succ]
          refine wpAnyH_ready (rs := [6]) (by kernel_rfl) (by simp) ?_
          refine AllReadyH.cons rfl (fun K hK => ?_) AllReadyH.nil
          go_simp
          refine (one_any HTQ.out KI ad ab aw).mono ?_
          rintro e w8 ⟨rfl, p8, v8, h8, o8, b8⟩
          obtain ⟨va8, vc8, rfl⟩ := h8.r.size
          have k8 : Off Fb wr w8 := hq.trans (by rw [HFB.out]; exact o8) (fun b _ z => z)
          have c8 := h8.r.box.cell 1
          have H8 := Lib.hid h8
          have B8 := Lib.hid b8
          clear h8 o8 b8
          go_wp2_with fail
          refine hK.out _ _ (k8) (fun hHeld => ?_)
          clear hK K
          try simp only [Act.put, List.getElem_toArray, List.getElem_cons_succ, List.getElem_cons_zero, List.setIfInBounds_toArray, List.set_cons_zero, List.set_cons_succ]
          refine wpAnyH_take (i := 7) (v := ?_) rfl (by kernel_rfl) (by kernel_rfl) (by kernel_rfl) (fun _ _ _ h => h) (Or.inl ⟨by rfl, ?_⟩) (by assumption) ?_
          rotate_left 1
          · (intro W hW; clear hW; go_simp; try with_reducible rfl)
          simp only [Act.put, List.getElem_toArray, List.getElem_cons_succ, List.getElem_cons_zero, List.setIfInBounds_toArray, List.set_cons_zero, List.set_cons_succ]
          refine wpAnyH_take (i := 8) (v := ?_) rfl (by kernel_rfl) (by kernel_rfl) (by kernel_rfl) (fun _ _ _ h => h) (Or.inl ⟨by rfl, ?_⟩) (by assumption) ?_
          rotate_left 1
          · (intro W hW; clear hW; go_simp; try with_reducible rfl)
          simp only [Act.put, List.getElem_toArray, List.getElem_cons_succ, List.getElem_cons_zero, List.setIfInBounds_toArray, List.set_cons_zero, List.set_cons_succ]
          refine wpAnyH_take (i := 9) (v := ?_) rfl (by kernel_rfl) (by kernel_rfl) (by kernel_rfl) (fun _ _ _ h => h) (Or.inl ⟨by rfl, ?_⟩) (by assumption) ?_
          rotate_left 1
          · (intro W hW; clear hW; go_simp; try with_reducible rfl)
          simp only [Act.put, List.getElem_toArray, List.getElem_cons_succ, List.getElem_cons_zero, List.setIfInBounds_toArray, List.set_cons_zero, List.set_cons_succ]
          refine wpAnyH_take (i := 11) (v := ?_) rfl (by kernel_rfl) (by kernel_rfl) (by kernel_rfl) (fun _ _ _ h => h) (Or.inl ⟨by rfl, ?_⟩) (by assumption) ?_
          rotate_left 1
          · (intro W hW; clear hW; go_simp; try with_reducible rfl)
          simp only [Act.put, List.getElem_toArray, List.getElem_cons_succ, List.getElem_cons_zero, List.setIfInBounds_toArray, List.set_cons_zero, List.set_cons_succ]
          refine wpAnyH_take (i := 12) (v := ?_) rfl (by kernel_rfl) (by kernel_rfl) (by kernel_rfl) (fun _ _ _ h => h) (Or.inl ⟨by rfl, ?_⟩) (by assumption) ?_
          rotate_left 1
          · (intro W hW; clear hW; go_simp; try with_reducible rfl)
          simp only [Act.put, List.getElem_toArray, List.getElem_cons_succ, List.getElem_cons_zero, List.setIfInBounds_toArray, List.set_cons_zero, List.set_cons_succ]
          refine wpAnyH_take (i := 13) (v := ?_) rfl (by kernel_rfl) (by kernel_rfl) (by kernel_rfl) (fun _ _ _ h => h) (Or.inl ⟨by rfl, ?_⟩) (by assumption) ?_
          rotate_left 1
          · (intro W hW; clear hW; go_simp; try with_reducible rfl)
          simp only [Act.put, List.getElem_toArray, List.getElem_cons_succ, List.getElem_cons_zero, List.setIfInBounds_toArray, List.set_cons_zero, List.set_cons_succ]
          refine wpAnyH_ready (rs := [10, 14]) (by kernel_rfl) (by simp) ?_
          refine AllReadyH.cons rfl (fun K hK => ?_) (AllReadyH.cons rfl (fun K hK => ?_) AllReadyH.nil)
          · go_simp
            refine (tilP.list (show TilObj (fun b => b ∈ gx :: p8.bl) w8 (.pointer (some ⟨gx, 0, none⟩)) k p8.tr from ⟨gx, p8, rfl, H8.out.x, rfl, fun _ => Iff.rfl⟩)).mono ?_
            rintro e w9 ⟨a9, rfl, row9, hb9⟩
            have k9 : Off Fb wr w9 := k8.since hb9
            have c9 := (Since.whole hb9 H8.out.r.box).cell 1
            go_wp2_with fail
            refine hK.out _ _ (k9) (fun hHeld => ?_)
            clear hK K
            try simp only [Act.put, List.getElem_toArray, List.getElem_cons_succ, List.getElem_cons_zero, List.setIfInBounds_toArray, List.set_cons_zero, List.set_cons_succ]
            refine wpAnyH_ready (rs := [14]) (by kernel_rfl) (by simp) ?_
            refine AllReadyH.cons rfl (fun K hK => ?_) AllReadyH.nil
            go_simp
            skip
            refine hK.out _ _ (k9) (fun hHeld => ?_)
            clear hK K
            try simp only [Act.put, List.getElem_toArray, List.getElem_cons_succ, List.getElem_cons_zero, List.setIfInBounds_toArray, List.set_cons_zero, List.set_cons_succ]
            refine wpAnyH_ready (rs := [15]) (by kernel_rfl) (by simp) ?_
            refine AllReadyH.cons rfl (fun K hK => ?_) AllReadyH.nil
            go_simp
            refine (sameT_any w9 (row9.list encT_len) ((H8.out.r.since hb9).row.list encT_len) (Nat.le_refl _) (by have := H8.out.x.most; omega)).mono ?_
            rintro e wS ⟨rfl, hbS⟩
            have kS := k9.since hbS
            go_wp2_with fail
            refine hK.out _ _ (kS) (fun hHeld => ?_)
            clear hK K
            try simp only [Act.put, List.getElem_toArray, List.getElem_cons_succ, List.getElem_cons_zero, List.setIfInBounds_toArray, List.set_cons_zero, List.set_cons_succ]
            refine wpAnyH_take (i := 16) (v := ?_) rfl (by kernel_rfl) (by kernel_rfl) (by kernel_rfl) (fun _ _ _ h => h) (Or.inl ⟨by rfl, ?_⟩) (by assumption) ?_
            rotate_left 1
            · (intro W hW; clear hW; go_simp; try with_reducible rfl)
            simp only [Act.put, List.getElem_toArray, List.getElem_cons_succ, List.getElem_cons_zero, List.setIfInBounds_toArray, List.set_cons_zero, List.set_cons_succ]
            refine wpAnyH_take (i := 17) (v := ?_) rfl (by kernel_rfl) (by kernel_rfl) (by kernel_rfl) (fun _ _ _ h => h) (Or.inl ⟨by rfl, ?_⟩) (by assumption) ?_
            rotate_left 1
            · (intro W hW; clear hW; go_simp; try with_reducible rfl)
            simp only [Act.put, List.getElem_toArray, List.getElem_cons_succ, List.getElem_cons_zero, List.setIfInBounds_toArray, List.set_cons_zero, List.set_cons_succ]
            refine wpAnyH_done (by kernel_rfl) ?_ _
            go_wp2_with fail
            go_roundw
            case rel => exact ⟨m + 1, gx, p8, _, by go_num, by omega, rfl, ⟨H8.out.x.since (Since.trans hb9 hbS), H8.out.r.since (Since.trans hb9 hbS)⟩, (fun b hb => by
              rcases List.mem_cons.1 hb with rfl | hb
              · exact HGE.out _ List.mem_cons_self
              · rcases B8.out b hb with z | z
                · exact HGE.out _ (List.mem_cons_of_mem _ z)
                · have := (HS7.out).size_; have := hq.size; omega), HSW.out _ kS⟩
            case measure => simp [intOf]; omega
          · go_simp
            skip
            refine hK.out _ _ (k8) (fun hHeld => ?_)
            clear hK K
            try simp only [Act.put, List.getElem_toArray, List.getElem_cons_succ, List.getElem_cons_zero, List.setIfInBounds_toArray, List.set_cons_zero, List.set_cons_succ]
            refine wpAnyH_ready (rs := [10]) (by kernel_rfl) (by simp) ?_
            refine AllReadyH.cons rfl (fun K hK => ?_) AllReadyH.nil
            go_simp
            refine (tilP.list (show TilObj (fun b => b ∈ gx :: p8.bl) w8 (.pointer (some ⟨gx, 0, none⟩)) k p8.tr from ⟨gx, p8, rfl, H8.out.x, rfl, fun _ => Iff.rfl⟩)).mono ?_
            rintro e w9 ⟨a9, rfl, row9, hb9⟩
            have k9 : Off Fb wr w9 := k8.since hb9
            have c9 := (Since.whole hb9 H8.out.r.box).cell 1
            go_wp2_with fail
            refine hK.out _ _ (k9) (fun hHeld => ?_)
            clear hK K
            try simp only [Act.put, List.getElem_toArray, List.getElem_cons_succ, List.getElem_cons_zero, List.setIfInBounds_toArray, List.set_cons_zero, List.set_cons_succ]
            refine wpAnyH_ready (rs := [15]) (by kernel_rfl) (by simp) ?_
            refine AllReadyH.cons rfl (fun K hK => ?_) AllReadyH.nil
            go_simp
            refine (sameT_any w9 (row9.list encT_len) ((H8.out.r.since hb9).row.list encT_len) (Nat.le_refl _) (by have := H8.out.x.most; omega)).mono ?_
            rintro e wS ⟨rfl, hbS⟩
            have kS := k9.since hbS
            go_wp2_with fail
            refine hK.out _ _ (kS) (fun hHeld => ?_)
            clear hK K
            try simp only [Act.put, List.getElem_toArray, List.getElem_cons_succ, List.getElem_cons_zero, List.setIfInBounds_toArray, List.set_cons_zero, List.set_cons_succ]
            refine wpAnyH_take (i := 16) (v := ?_) rfl (by kernel_rfl) (by kernel_rfl) (by kernel_rfl) (fun _ _ _ h => h) (Or.inl ⟨by rfl, ?_⟩) (by assumption) ?_
            rotate_left 1
            · (intro W hW; clear hW; go_simp; try with_reducible rfl)
            simp only [Act.put, List.getElem_toArray, List.getElem_cons_succ, List.getElem_cons_zero, List.setIfInBounds_toArray, List.set_cons_zero, List.set_cons_succ]
            refine wpAnyH_take (i := 17) (v := ?_) rfl (by kernel_rfl) (by kernel_rfl) (by kernel_rfl) (fun _ _ _ h => h) (Or.inl ⟨by rfl, ?_⟩) (by assumption) ?_
            rotate_left 1
            · (intro W hW; clear hW; go_simp; try with_reducible rfl)
            simp only [Act.put, List.getElem_toArray, List.getElem_cons_succ, List.getElem_cons_zero, List.setIfInBounds_toArray, List.set_cons_zero, List.set_cons_succ]
            refine wpAnyH_done (by kernel_rfl) ?_ _
            go_wp2_with fail
            go_roundw
            case rel => exact ⟨m + 1, gx, p8, _, by go_num, by omega, rfl, ⟨H8.out.x.since (Since.trans hb9 hbS), H8.out.r.since (Since.trans hb9 hbS)⟩, (fun b hb => by
              rcases List.mem_cons.1 hb with rfl | hb
              · exact HGE.out _ List.mem_cons_self
              · rcases B8.out b hb with z | z
                · exact HGE.out _ (List.mem_cons_of_mem _ z)
                · have := (HS7.out).size_; have := hq.size; omega), HSW.out _ kS⟩
            case measure => simp [intOf]; omega
      · obtain rfl : m = A.length := by omega
        have d3 : decide ((A.length : Int) < A.length) = false := decide_eq_false (by omega)
        have obj : ∀ W, Since wr W → TilObj (fun b => b ∈ gx :: p.bl) W (.pointer (some ⟨gx, 0, none⟩)) k p.tr := fun W hW => ⟨gx, p, rfl, HT.out.x.since hW, rfl, fun _ => Iff.rfl⟩
        have hm64 := HT.out.x.most
        have hfine := HT.out.x.fine
        obtain ⟨a1, a2, a3, fd, hfd⟩ : ∃ a1 a2 a3 fd, tlV (findT k (p.tr.tiles 0 0) cx cy) = .tuple #[.agg #[.int .i64 a1, .int .i64 a2, .int .i64 a3], .bool fd] := by
          cases findT k (p.tr.tiles 0 0) cx cy with
          | none => exact ⟨0, 0, 0, false, rfl⟩
          | some s => exact ⟨s.d, s.b, s.who, true, rfl⟩
        obtain ⟨e1, e2, ge, hge⟩ : ∃ e1 e2 ge, deV (deepL (p.tr.tiles 0 0)) = .tuple #[.agg #[.int .i64 e1, .int .i64 e2], .bool ge] := by
          cases deepL (p.tr.tiles 0 0) with
          | none => exact ⟨0, 0, false, rfl⟩
          | some s => exact ⟨s.d - 1, s.b / 2, true, rfl⟩
        have HXF := Lib.hid (fun W (hW : Since wr W) => hfd ▸ tilP.find cx cy (obj W hW))
        have HRF := Lib.hid (fun W (hW : Since wr W) => hfd ▸ refFind_any (HT.out.r.since hW) cx cy (by omega) (fun s hs => ⟨((fine_iff _ _).1 (hfine s hs).1).1, (hfine s hs).2⟩))
        have HXD := Lib.hid (fun W (hW : Since wr W) => hge ▸ tilP.deep (obj W hW))
        have HRD := Lib.hid (fun W (hW : Since wr W) => hge ▸ refDeep_any (HT.out.r.since hW) (by omega) (fun s hs => (hfine s hs).1))
        have hge2 : gapsG (p.tr.tiles 0 0) 32 0 0 = p.tr.gaps 0 0 := gaps_eq _ p.tr 0 0 32 [] [] (by decide) HT.out.x.k32.2.2 (by have := HT.out.x.k32; omega) (by simp) (by simp)
        have hgl : (p.tr.gaps 0 0).length ≤ 2900 := by
          have h1 := gapsG_len (p.tr.tiles 0 0) 32 0 0 (by decide) (by decide)
          have h2 := List.countP_le_length (p := fun s : Tl => abvB 0 0 s.d s.b) (l := p.tr.tiles 0 0)
          rw [hge2] at h1
          omega
        have HLG := Lib.hid hgl
        have HLU := Lib.hid (show ((p.tr.tiles 0 0).filter fun s => abvB pd pb s.d s.b).length ≤ 2900 by have := List.length_filter_le (fun s : Tl => abvB pd pb s.d s.b) (p.tr.tiles 0 0); omega)
        have HXU0 := Lib.hid (fun W (hW : Since wr W) => tilP.under pd pb (obj W hW))
        have HRU0 := Lib.hid (fun W (hW : Since wr W) => refUnder_any (HT.out.r.since hW) pd pb (by omega))
        have HXG0 := Lib.hid (fun W (hW : Since wr W) => tilP.gaps (obj W hW))
        have HRG0 := Lib.hid (fun W (hW : Since wr W) => hge2 ▸ refGaps_any (HT.out.r.since hW) (by omega))
        have HXW0 := Lib.hid (fun W (hW : Since wr W) => tilP.whole (obj W hW))
        obtain ⟨em, hem⟩ : ∃ em, (p.tr.gaps 0 0).isEmpty = em := ⟨_, rfl⟩
        have hem2 : (((p.tr.gaps 0 0).length : Int) == 0) = em := by
          rw [← hem]
          cases p.tr.gaps 0 0 with
          | nil => rfl
          | cons x l => simp; omega
        have HEM := Lib.hid hem
        have sr := Since.refl wr
        have c0 := c0_0 _ hs
        have c1 := c0_1 _ hs
        clear obj hfd hge hge2 hgl hem hfine
        have cc0 := fun W (hW : Since wr W) => c0_0 W (hs.trans hW)
        have cc1 := fun W (hW : Since wr W) => c0_1 W (hs.trans hW)
        go_upto_region 23 with (first | (go_at_call 19; (with_reducible refine (HXF.out _ sr).mono ?_); rintro e wa ⟨rfl, hba⟩; have sa : Since wr (wa.alloc (.cells #[.int .i64 a1, .int .i64 a2, .int .i64 a3] 50)) := (sr.trans hba).alloc _; have bA : Whole (wa.alloc (.cells #[.int .i64 a1, .int .i64 a2, .int .i64 a3] 50)) wa.heap.size 50 #[.int .i64 a1, .int .i64 a2, .int .i64 a3] := Whole.new wa _ _) | (go_at_call 20; (with_reducible refine (HRF.out _ sa).mono ?_); rintro e wb ⟨rfl, hbb⟩; have sb : Since wr (wb.alloc (.cells #[.int .i64 a1, .int .i64 a2, .int .i64 a3] 53)) := (sa.trans hbb).alloc _; have bA2 := (Since.whole hbb bA).alloc (.cells #[.int .i64 a1, .int .i64 a2, .int .i64 a3] 53); have bB : Whole (wb.alloc (.cells #[.int .i64 a1, .int .i64 a2, .int .i64 a3] 53)) wb.heap.size 53 #[.int .i64 a1, .int .i64 a2, .int .i64 a3] := Whole.new wb _ _) | (go_at_call 21; (with_reducible refine (HXD.out _ sb).mono ?_); rintro e wc ⟨rfl, hbc⟩; have sc : Since wr (wc.alloc (.cells #[.int .i64 e1, .int .i64 e2] 27)) := (sb.trans hbc).alloc _; have bA3 := (Since.whole hbc bA2).alloc (.cells #[.int .i64 e1, .int .i64 e2] 27); have bB3 := (Since.whole hbc bB).alloc (.cells #[.int .i64 e1, .int .i64 e2] 27); have bC : Whole (wc.alloc (.cells #[.int .i64 e1, .int .i64 e2] 27)) wc.heap.size 27 #[.int .i64 e1, .int .i64 e2] := Whole.new wc _ _) | (go_at_call 22; (with_reducible refine (HRD.out _ sc).mono ?_); rintro e wd ⟨rfl, hbd⟩; have sd : Since wr (wd.alloc (.cells #[.int .i64 e1, .int .i64 e2] 27)) := (sc.trans hbd).alloc _; have bA4 := (Since.whole hbd bA3).alloc (.cells #[.int .i64 e1, .int .i64 e2] 27); have bB4 := (Since.whole hbd bB3).alloc (.cells #[.int .i64 e1, .int .i64 e2] 27); have bC4 := (Since.whole hbd bC).alloc (.cells #[.int .i64 e1, .int .i64 e2] 27); have bD : Whole (wd.alloc (.cells #[.int .i64 e1, .int .i64 e2] 27)) wd.heap.size 27 #[.int .i64 e1, .int .i64 e2] := Whole.new wd _ _))
        obtain ⟨wz, hwz⟩ : ∃ wz, wz = wd.alloc (.cells #[.int .i64 e1, .int .i64 e2] 27) := ⟨_, rfl⟩
        rw [← hwz] at sd bA4 bB4 bC4 bD ⊢
        clear hwz
        have zA0 := box_cell bA4 0 _ rfl
        have zA1 := box_cell bA4 1 _ rfl
        have zA2 := box_cell bA4 2 _ rfl
        have zB0 := box_cell bB4 0 _ rfl
        have zB1 := box_cell bB4 1 _ rfl
        have zB2 := box_cell bB4 2 _ rfl
        have zC0 := box_cell bC4 0 _ rfl
        have zC1 := box_cell bC4 1 _ rfl
        have zD0 := box_cell bD 0 _ rfl
        have zD1 := box_cell bD 1 _ rfl
        have zP0 := fun W (hW : Since wz W) => c1_0 W (hs.trans (sd.trans hW))
        have zP1 := fun W (hW : Since wz W) => c1_1 W (hs.trans (sd.trans hW))
        have HXU := Lib.hid (fun W (hW : Since wz W) => HXU0.out W (sd.trans hW))
        have HRU := Lib.hid (fun W (hW : Since wz W) => HRU0.out W (sd.trans hW))
        have HXG := Lib.hid (fun W (hW : Since wz W) => HXG0.out W (sd.trans hW))
        have HRG := Lib.hid (fun W (hW : Since wz W) => HRG0.out W (sd.trans hW))
        have HXW := Lib.hid (fun W (hW : Since wz W) => HEM.out ▸ HXW0.out W (sd.trans hW))
        have hsz : Since w wz := hs0.trans (hs.trans sd)
        have sz := Since.refl wz
        have szd := sz.drew
        clear bA bA2 bA3 bA4 bB bB3 bB4 bC bC4 bD cc0 cc1 c0 c1 HXU0 HRU0 HXG0 HRG0 HXW0 HXF HRF HXD HRD
        go_region_held3 (fun W => Since wz W) (first | assumption | exact Since.drew (by assumption)) ((first | (go_at_call 23; (with_reducible refine (HXU.out _ (by assumption)).mono ?_); rintro e wu ⟨au, rfl, rowu, hbu⟩; have su : Since wz wu := Since.trans (by assumption) hbu) | (go_at_call 24; (with_reducible refine (HRU.out _ su).mono ?_); rintro e wv ⟨av, rfl, rowv, hbv⟩; have sv : Since wz wv := su.trans hbv) | (go_at_call 17; (with_reducible refine (sameT_any wv ((RowE.since rowu hbv).list encT_len) (rowv.list encT_len) (Nat.le_refl _) HLU.out).mono ?_); rintro e ws ⟨rfl, hbs⟩; have ss : Since wz ws := sv.trans hbs) | (go_at_call 26; (with_reducible refine (HXG.out _ (by assumption)).mono ?_); rintro e wx ⟨ax, rfl, rowx, hbx⟩; have sx : Since wz wx := Since.trans (by assumption) hbx) | (go_at_call 27; (with_reducible refine (HRG.out _ (by assumption)).mono ?_); rintro e wy ⟨ay, rfl, rowy, hby⟩; have sy : Since wz wy := Since.trans (by assumption) hby; obtain ⟨gya, gyc, rfl⟩ := rowy.shape2) | (go_at_call 25; (with_reducible refine (pathsG_any wy ((RowE.since rowx hby).list encG_len) (rowy.list encG_len) (Nat.le_refl _) HLG.out).mono ?_); rintro e wt ⟨rfl, hbt⟩; have st : Since wz wt := sy.trans hbt) | (go_at_call 28; (with_reducible refine (HXW.out _ (by assumption)).mono ?_); rintro e wo ⟨rfl, hbo⟩; have so : Since wz wo := Since.trans (by assumption) hbo)))
        go_wp2
        all_goals
          go_ret
          exact ⟨by first | rfl | simp, hsz.trans (by assumption)⟩
end Go.Proofs.Ytgnhamhkpbadbaa
