/- The walk of the law TilingOnce, by premises. -/
import Derived.Test.YtdbacinaffdkaaaGOnce
import Derived.Test.YtdbacinaffdkaaaPZones
namespace Go.Proofs.Ytdbacinaffdkaaa
open Go.RowKit
set_option maxRecDepth 100000 in
set_option maxHeartbeats 6400000 in
theorem once_walk {Obj : (Nat → Prop) → World → Value → Int → Tr → Prop} (P : TilP Obj) (k : Int) {B0 : Nat} {v : Value} {A : List Ac} (cx cy : Int) (w : World) (hA : LentE encA 4 B0 w v A) (hB0 : B0 ≤ w.heap.size) :
    Calls Try.prog 5 #[.int .i64 k, v, .agg #[.int .i64 cx, .int .i64 cy]] w fun e w' => e = .returned (.bool true) ∧ Below w.heap.size w w' := by
  have k1 := tmod_bd k 16 (by decide)
  have k2 := tmod_pos k 16 (by decide)
  obtain ⟨R, hR⟩ : ∃ R, k % 16 = R := ⟨_, rfl⟩
  have k3 : 0 ≤ R ∧ R < 16 := by omega
  rw [hR] at k2
  clear hR
  obtain ⟨K, hK⟩ : ∃ K, 1 + R = K := ⟨_, rfl⟩
  have hr : rgt K = true := by rw [rgt_iff]; omega
  have HR := Lib.hid hr
  obtain ⟨X, hX⟩ : ∃ X, cx % sd K = X := ⟨_, rfl⟩
  obtain ⟨Y, hY⟩ : ∃ Y, cy % sd K = Y := ⟨_, rfl⟩
  have hwr := wrap_any K cx cy
  rw [hX, hY] at hwr
  have hxy : hasB K X Y = true := by
    rw [hasB_iff, ← sd_yes hr, ← hX, ← hY]
    have hsp := sd_pos K
    exact ⟨Int.emod_nonneg _ (by omega), Int.emod_lt_of_pos _ hsp, Int.emod_nonneg _ (by omega), Int.emod_lt_of_pos _ hsp⟩
  have HXY := Lib.hid hxy
  clear hr hX hY hxy
  obtain ⟨w0, hw0⟩ : ∃ w0, w0 = (w.alloc (.cells #[.int .i64 cx, .int .i64 cy] 25)).alloc (.cells #[.int .i64 K] 66) := ⟨_, rfl⟩
  have hs0 : Since w w0 := by rw [hw0]; exact ((Since.refl w).alloc _).alloc _
  have wh0 : Whole w0 (w.heap.size) 25 #[.int .i64 cx, .int .i64 cy] := by rw [hw0]; exact (Whole.new w _ _).alloc _
  have wh1 : Whole w0 (w.heap.size + 1) 66 #[.int .i64 K] := by rw [hw0]; exact (Whole.new (w.alloc _) _ _).at_ (by simp)
  have HW := Lib.hid hw0
  have c0_0 := box_cell wh0 0 (.int .i64 cx) rfl
  have f0_0 := box_free wh0 0
  have c0_1 := box_cell wh0 1 (.int .i64 cy) rfl
  have f0_1 := box_free wh0 1
  have c1_0 := box_cell wh1 0 (.int .i64 K) rfl
  have hsr := Since.refl w0
  have hsd := hsr.drew
  clear hw0
  go_enter Try.func5, Try.ntmps5
  go_wp2_with fail
  rw [← HW.out]
  go_wp2_with fail
  refine (hwr w0).mono ?_
  rintro e w1 ⟨rfl, hb1⟩
  have wc1 := Since.whole hb1 wh0
  have wt1 := Since.whole hb1 wh1
  have q0 := wc1.frozen 0
  have q1 := wc1.frozen 1
  have q2 := wc1.cell 0
  have q3 := wc1.cell 1
  clear k1 k2 k3 hK hwr c0_0 c0_1 c1_0 f0_0 f0_1 hsr hsd
  go_wp2_with fail
  refine Calls.named (fun w2 hw => ?_)
  have wc : Whole w2 w.heap.size 25 #[.int .i64 X, .int .i64 Y] := Whole.named ((wc1.set_ 0 (.int .i64 X)).set_ 1 (.int .i64 Y)) hw
  have wt : Whole w2 (w.heap.size + 1) 66 #[.int .i64 K] := Whole.named ((wt1.far (p := ⟨w.heap.size, 0, none⟩) (by simp) (.int .i64 X)).far (p := ⟨w.heap.size, 1, none⟩) (by simp) (.int .i64 Y)) hw
  have hbw : Below w.heap.size w w2 := by rw [hw]; exact Below.setCell (Below.setCell (hs0.trans hb1) (p := ⟨w.heap.size, 0, none⟩) (Nat.le_refl _) _) (p := ⟨w.heap.size, 1, none⟩) (Nat.le_refl _) _
  clear hw wc1 wt1 hb1 wh0 wh1 hs0 q0 q1 q2 q3
  refine (made_any P HR.out w2 (hA.below hbw hB0) (Nat.le_trans hB0 hbw.size)).mono ?_
  rintro e w3 ⟨g, F, t, rfl, hO, hF, hb3⟩
  clear hF
  go_wp2_with (go_at_call 8; (with_reducible refine (knows5 P _).mono ?_); rintro e w4 ⟨rfl, hb4⟩)
  have hs4 : Since w2 w4 := Since.trans hb3 hb4
  have hO4 := P.since hO hb4
  clear hb3 hb4 hO
  have hL64 := (P.ok hO4).2.2
  have hhi := (P.ok hO4).2.1
  have hk16 := (rgt_iff K).1 HR.out
  have hcnt := Tr.count K X Y t 0 0 (Int.le_refl _)
  rw [show hitB K X Y 0 0 = true by rfl, if_pos rfl] at hcnt
  have hare := Tr.area K t 0 0 (by omega)
  have hgl : (t.gaps 0 0).length ≤ 2100 := by
    have h1 := Tr.gaps_len t 0 0
    have h2 : (t.tiles 0 0).length * t.high ≤ 64 * 32 := Nat.mul_le_mul hL64 (by omega)
    omega
  have hpair := Tr.tiles_pair t 0 0 (by decide) (by omega)
  have htok := fun s hs => Tr.tile_ok (t := t) HR.out hhi (s := s) hs
  have hgok := fun s hs => Tr.gap_ok (t := t) HR.out hhi (s := s) hs
  have hli := P.list hO4
  obtain ⟨L, hL⟩ : ∃ L, t.tiles 0 0 = L := ⟨_, rfl⟩
  obtain ⟨G, hG⟩ : ∃ G, t.gaps 0 0 = G := ⟨_, rfl⟩
  have HL := Lib.hid hL
  have HG := Lib.hid hG
  rw [hL] at hcnt hare hpair htok hL64 hli
  rw [hG] at hcnt hare hgl hgok
  have hA0 : zA K 0 ≤ 4294967296 := zA_bd hk16.2 (Int.le_refl _)
  have hS : sumG (fun s : Tl => zA K s.d) L ≤ 4294967296 := by
    have := sumG_nn (f := fun s : Int × Int => zA K s.1) (fun x => zA_nn _ _) G
    omega
  have HC := Lib.hid hcnt
  have HAR := Lib.hid hare
  have HP := Lib.hid hpair
  have HTO := Lib.hid htok
  have HGO := Lib.hid hgok
  have HS := Lib.hid hS
  have HA0 := Lib.hid hA0
  have HK := Lib.hid hk16
  clear hL hG hcnt hare hpair htok hgok hhi hS hA0 hk16
  refine hli.mono ?_
  rintro e w5 ⟨aL, rfl, hrowL, hb5⟩
  have hO5 := P.since hO4 hb5
  obtain ⟨vL, capL, rfl, hformL⟩ := (hrowL.list encT_len).form
  have hga := P.gaps hO5
  rw [HG.out] at hga
  have hlsL := hrowL.list encT_len
  clear hli hO4 hrowL
  go_wp2_with fail
  refine hga.mono ?_
  rintro e wz ⟨aG, rfl, hrowG, hb6⟩
  have hOz := P.since hO5 hb6
  obtain ⟨vG, capG, rfl, hformG⟩ := (hrowG.list encG_len).form
  have hLz := hlsL.since hb6 (Nat.le_refl _)
  have hGz := hrowG.list encG_len
  have hsL : w5.heap.size ≤ wz.heap.size := hb6.size
  have hsz : Since w2 wz := hs4.trans (Since.trans hb5 hb6)
  have wcz := Since.whole hsz wc
  have wtz := Since.whole hsz wt
  have hbz : Below w.heap.size w wz := hbw.trans (Below.mono hsz hbw.size)
  have cz0 := box_cell wcz 0 _ rfl
  have cz1 := box_cell wcz 1 _ rfl
  have tz0 := box_cell wtz 0 _ rfl
  clear hga hlsL hrowG hb5 hb6 hO5 hs4 hsz wc wt wcz wtz hbw
  go_wp2_with fail
  go_loopw [11, 12, 13] (fun n ar i wr => ∃ m : Nat, i = .int .i64 m ∧ m ≤ L.length ∧ n = .int .i64 ((L.take m).countP (fun s => hitB K X Y s.d s.b) : Nat) ∧ ar = .int .i64 (sumG (fun s : Tl => zA K s.d) (L.take m)) ∧ Since wz wr) (fun _ _ i _ => L.length - (intOf i).toNat)
  case atStart => exact ⟨0, rfl, Nat.zero_le _, rfl, rfl, Since.refl wz⟩
  case round =>
    obtain ⟨m, rfl, hm, rfl, rfl, hsm⟩ := hrel
    by_cases hlt : m < L.length
    · obtain ⟨ga, rfl, hgaL⟩ := hformL m hlt
      have d1 : decide ((m : Int) < L.length) = true := decide_eq_true (by omega)
      have hm64 : (m : Int) < 64 := by omega
      have hcp := countP_take (fun s => hitB K X Y s.d s.b) L m hlt
      have hsp := sumG_take (fun s : Tl => zA K s.d) L m hlt
      have hs0 := sumG_nn (f := fun s : Tl => zA K s.d) (fun x => zA_nn _ _) (L.take m)
      have hs1 := sumG_take_le (f := fun s : Tl => zA K s.d) (fun x => zA_nn _ _) L (m + 1)
      have hcl := List.countP_le_length (p := fun s => hitB K X Y s.d s.b) (l := L.take m)
      have hll := List.length_take_le m L
      have hfi := find_hit (fun s => hitB K X Y s.d s.b) L (by have := HC.out; omega) m hlt
      obtain ⟨o1, o2, o3⟩ := HTO.out L[m] (List.getElem_mem _)
      have hlz := hLz
      have hprev : ∀ q : Nat, ∀ hq : q + 1 = m, Tl.ltB (L[q]'(by omega)) L[m] := fun q hq => List.pairwise_iff_getElem.1 HP.out q m (by omega) hlt (by omega)
      obtain ⟨⟨sd, sb, sw⟩, hr⟩ : ∃ s, L[m] = s := ⟨_, rfl⟩
      rw [hr] at hcp hsp hfi o1 o2 o3 hprev
      dsimp only at hcp hsp hfi o1 o2 o3 hprev
      have t0 : ∀ W, Since wr W → W.cell? ⟨ga, m * 3, none⟩ = some (.int .i64 sd) := fun W hW => (hlz.since (hsm.trans hW) hsL).at_ hlt 0 (by rw [hr]; rfl)
      have t1 : ∀ W, Since wr W → W.cell? ⟨ga, m * 3 + 1, none⟩ = some (.int .i64 sb) := fun W hW => (hlz.since (hsm.trans hW) hsL).at_ hlt 1 (by rw [hr]; rfl)
      have t2 : ∀ W, Since wr W → W.cell? ⟨ga, m * 3 + 2, none⟩ = some (.int .i64 sw) := fun W hW => (hlz.since (hsm.trans hW) hsL).at_ hlt 2 (by rw [hr]; rfl)
      have cr0 : ∀ W, Since wr W → W.cell? ⟨w.heap.size, 0, none⟩ = some (.int .i64 X) := fun W hW => cz0 W (hsm.trans hW)
      have cr1 : ∀ W, Since wr W → W.cell? ⟨w.heap.size, 1, none⟩ = some (.int .i64 Y) := fun W hW => cz1 W (hsm.trans hW)
      have tr0 : ∀ W, Since wr W → W.cell? ⟨w.heap.size + 1, 0, none⟩ = some (.int .i64 K) := fun W hW => tz0 W (hsm.trans hW)
      obtain ⟨dn, hdn⟩ : ∃ dn : Nat, sd = (dn : Int) := ⟨sd.toNat, by omega⟩
      obtain ⟨AV, hAV⟩ : ∃ AV, atV K X Y dn = AV := ⟨_, rfl⟩
      have hhit : hitB K X Y sd sb = (AV == sb) := by unfold hitB; rw [hdn, Int.toNat_natCast, hAV]
      obtain ⟨⟨px, py, pw, ph⟩, hco⟩ : ∃ q, corF (side K) (ups sd sb (cnt sd sb)) = q := ⟨_, rfl⟩
      have hwh := corner_area o1 hco
      have hz0 := zA_nn K sd
      have hz1 : zA K sd ≤ 4294967296 := zA_bd HK.out.2 o2
      obtain ⟨Z, hZ⟩ : ∃ Z, zA K sd = Z := ⟨_, rfl⟩
      rw [hZ] at hsp hwh hz0 hz1
      obtain ⟨N, hN⟩ : ∃ N, (L.take m).countP (fun s => hitB K X Y s.d s.b) = N := ⟨_, rfl⟩
      obtain ⟨S, hS⟩ : ∃ S, sumG (fun s : Tl => zA K s.d) (L.take m) = S := ⟨_, rfl⟩
      have hs2 := HS.out
      rw [hN] at hcp hcl ⊢
      rw [hS] at hsp hs0 ⊢
      rw [hsp] at hs1
      rw [hhit] at hcp hfi
      have e1 : wrap64 (pw * ph) = Z := by rw [hwh]; exact IntWalk.wrap64_in _ ⟨by omega, by omega⟩
      have e2 : wrap64 (S + Z) = S + Z := IntWalk.wrap64_in _ ⟨by omega, by omega⟩
      have hN64 : (N : Int) ≤ 64 := by omega
      have HDN := Lib.hid hdn
      have HAV := Lib.hid hAV
      have HCO := Lib.hid hco
      have HCP := Lib.hid hcp
      have HSP := Lib.hid hsp
      have HFI := Lib.hid hfi
      have HO1 := Lib.hid o1
      have HPR := Lib.hid hprev
      have HD3 := Lib.hid o3
      have HRm := Lib.hid hr
      clear hcp hsp hs0 hs1 hs2 hcl hll hfi o1 o2 o3 hlz hprev hr hdn hAV hhit hco hwh hz0 hz1 hZ hN hS
      have hsr := Since.refl wr
      have hsd := hsr.drew
      go_upto_region 14 with fail
      go_cut [14, 15] from 61 to 72 (fun p e wx => (∃ NB, p = .pointer (some ⟨NB, 0, none⟩) ∧ Whole wx NB 27 #[.int .i64 sd, .int .i64 AV]) ∧ e = .int .i64 0 ∧ Since wr wx)
      case first =>
        obtain ⟨wq, hwq⟩ : ∃ wq, wq = wr.drew := ⟨_, rfl⟩
        refine wp_region_held_drew (S := fun W => Since wr W) (by kernel_rfl) hsd (fun hHeld => ?_)
        rw [← hwq] at hHeld ⊢
        have hq : Since wr wq := hHeld
        clear hwq hsd
        refine wpAnyH_take (i := 0) (v := ?_) rfl (by kernel_rfl) (by kernel_rfl) (by kernel_rfl) (fun _ _ _ h => h) (Or.inl ⟨by rfl, ?_⟩) (by assumption) ?_
        rotate_left 1
        · (intro W hW; skip; go_simp; try with_reducible rfl)
        simp only [Act.put, List.getElem_toArray, List.getElem_cons_zero, List.setIfInBounds_toArray, List.set_cons_zero, List.set_cons_succ]
        refine wpAnyH_take (i := 1) (v := ?_) rfl (by kernel_rfl) (by kernel_rfl) (by kernel_rfl) (fun _ _ _ h => h) (Or.inl ⟨by rfl, ?_⟩) (by assumption) ?_
        rotate_left 1
        · (intro W hW; skip; go_simp; try with_reducible rfl)
        simp only [Act.put, List.getElem_toArray, List.getElem_cons_succ, List.getElem_cons_zero, List.setIfInBounds_toArray, List.set_cons_zero, List.set_cons_succ]
        refine wpAnyH_take (i := 2) (v := ?_) rfl (by kernel_rfl) (by kernel_rfl) (by kernel_rfl) (fun _ _ _ h => h) (Or.inl ⟨by rfl, ?_⟩) (by assumption) ?_
        rotate_left 1
        · (intro W hW; clear hW; go_simp; try with_reducible rfl)
        simp only [Act.put, List.getElem_toArray, List.getElem_cons_succ, List.getElem_cons_zero, List.setIfInBounds_toArray, List.set_cons_zero, List.set_cons_succ]
        refine wpAnyH_take (i := 3) (v := ?_) rfl (by kernel_rfl) (by kernel_rfl) (by kernel_rfl) (fun _ _ _ h => h) (Or.inl ⟨by rfl, ?_⟩) (by assumption) ?_
        rotate_left 1
        · (intro W hW; clear hW; go_simp; try with_reducible rfl)
        simp only [Act.put, List.getElem_toArray, List.getElem_cons_succ, List.getElem_cons_zero, List.setIfInBounds_toArray, List.set_cons_zero, List.set_cons_succ]
        refine wpAnyH_take (i := 4) (v := ?_) rfl (by kernel_rfl) (by kernel_rfl) (by kernel_rfl) (fun _ _ _ h => h) (Or.inl ⟨by rfl, ?_⟩) (by assumption) ?_
        rotate_left 1
        · (intro W hW; clear hW; go_simp; try with_reducible rfl)
        simp only [Act.put, List.getElem_toArray, List.getElem_cons_succ, List.getElem_cons_zero, List.setIfInBounds_toArray, List.set_cons_zero, List.set_cons_succ]
        refine wpAnyH_take (i := 5) (v := ?_) rfl (by kernel_rfl) (by kernel_rfl) (by kernel_rfl) (fun _ _ _ h => h) (Or.inl ⟨by rfl, ?_⟩) (by assumption) ?_
        rotate_left 1
        · (intro W hW; clear hW; go_simp; try with_reducible rfl)
        simp only [Act.put, List.getElem_toArray, List.getElem_cons_succ, List.getElem_cons_zero, List.setIfInBounds_toArray, List.set_cons_zero, List.set_cons_succ]
        refine wpAnyH_take (i := 6) (v := ?_) rfl (by kernel_rfl) (by kernel_rfl) (by kernel_rfl) (fun _ _ _ h => h) (Or.inl ⟨by rfl, ?_⟩) (by assumption) ?_
        rotate_left 1
        · (intro W hW; clear hW; go_simp; try with_reducible rfl)
        simp only [Act.put, List.getElem_toArray, List.getElem_cons_succ, List.getElem_cons_zero, List.setIfInBounds_toArray, List.set_cons_zero, List.set_cons_succ]
        refine wpAnyH_take (i := 7) (v := ?_) rfl (by kernel_rfl) (by kernel_rfl) (by kernel_rfl) (fun _ _ _ h => h) (Or.inl ⟨by rfl, ?_⟩) (by assumption) ?_
        rotate_left 1
        · (intro W hW; skip; go_simp; try with_reducible rfl)
        simp only [Act.put, List.getElem_toArray, List.getElem_cons_succ, List.getElem_cons_zero, List.setIfInBounds_toArray, List.set_cons_zero, List.set_cons_succ]
        refine wpAnyH_ready (rs := [8, 12]) (by kernel_rfl) (by simp) ?_
        refine AllReadyH.cons rfl (fun K hK => ?_) (AllReadyH.cons rfl (fun K hK => ?_) AllReadyH.nil)
        · go_simp
          refine (Calls.since hq (at_at _ HXY.out HDN.out HD3.out HAV.out)).mono ?_
          rintro e w2 ⟨rfl, hb2⟩
          go_wp2_with fail
          refine hK.out _ _ (hb2) (fun hHeld => ?_)
          clear hK K
          try simp only [Act.put, List.getElem_toArray, List.getElem_cons_succ, List.getElem_cons_zero, List.setIfInBounds_toArray, List.set_cons_zero, List.set_cons_succ]
          refine wpAnyH_take (i := 9) (v := ?_) rfl (by kernel_rfl) (by kernel_rfl) (by kernel_rfl) (fun _ _ _ h => h) (Or.inl ⟨by rfl, ?_⟩) (by assumption) ?_
          rotate_left 1
          · (intro W hW; clear hW; go_simp; try with_reducible rfl)
          simp only [Act.put, List.getElem_toArray, List.getElem_cons_succ, List.getElem_cons_zero, List.setIfInBounds_toArray, List.set_cons_zero, List.set_cons_succ]
          refine wpAnyH_take (i := 10) (v := ?_) rfl (by kernel_rfl) (by kernel_rfl) (by kernel_rfl) (fun _ _ _ h => h) (Or.inl ⟨by rfl, ?_⟩) (by assumption) ?_
          rotate_left 1
          · (intro W hW; clear hW; go_simp; try with_reducible rfl)
          simp only [Act.put, List.getElem_toArray, List.getElem_cons_succ, List.getElem_cons_zero, List.setIfInBounds_toArray, List.set_cons_zero, List.set_cons_succ]
          refine wpAnyH_take (i := 11) (v := ?_) rfl (by kernel_rfl) (by kernel_rfl) (by kernel_rfl) (fun _ _ _ h => h) (Or.inl ⟨by rfl, ?_⟩) (by assumption) ?_
          rotate_left 1
          · (intro W hW; clear hW; go_simp; try with_reducible rfl)
          simp only [Act.put, List.getElem_toArray, List.getElem_cons_succ, List.getElem_cons_zero, List.setIfInBounds_toArray, List.set_cons_zero, List.set_cons_succ]
          refine wpAnyH_ready (rs := [12]) (by kernel_rfl) (by simp) ?_
          refine AllReadyH.cons rfl (fun K hK => ?_) AllReadyH.nil
          go_simp
          skip
          refine hK.out _ _ (hb2.alloc _) (fun hHeld => ?_)
          clear hK K
          try simp only [Act.put, List.getElem_toArray, List.getElem_cons_succ, List.getElem_cons_zero, List.setIfInBounds_toArray, List.set_cons_zero, List.set_cons_succ]
          refine wpAnyH_ready (rs := [13]) (by kernel_rfl) (by simp) ?_
          refine AllReadyH.cons rfl (fun K hK => ?_) AllReadyH.nil
          go_simp
          skip
          refine hK.out _ _ (hb2.alloc _) (fun hHeld => ?_)
          clear hK K
          try simp only [Act.put, List.getElem_toArray, List.getElem_cons_succ, List.getElem_cons_zero, List.setIfInBounds_toArray, List.set_cons_zero, List.set_cons_succ]
          refine wpAnyH_take (i := 14) (v := ?_) rfl (by kernel_rfl) (by kernel_rfl) (by kernel_rfl) (fun _ _ _ h => h) (Or.inl ⟨by rfl, ?_⟩) (by assumption) ?_
          rotate_left 1
          · (intro W hW; clear hW; go_simp; try with_reducible rfl)
          simp only [Act.put, List.getElem_toArray, List.getElem_cons_succ, List.getElem_cons_zero, List.setIfInBounds_toArray, List.set_cons_zero, List.set_cons_succ]
          refine wpAnyH_done (by kernel_rfl) ?_ _
          obtain ⟨w5, hw5⟩ : ∃ w5, w5 = w2.alloc (.cells #[.int .i64 sd, .int .i64 AV] 27) := ⟨_, rfl⟩
          have hS5 : Since wr w5 := Since.named (hb2.alloc _) hw5
          have hN5 : Whole w5 w2.heap.size 27 #[.int .i64 sd, .int .i64 AV] := (Whole.new w2 _ _).named hw5
          obtain ⟨NB, hNB⟩ : ∃ NB, NB = w2.heap.size := ⟨_, rfl⟩
          rw [← hw5, ← hNB]
          rw [← hNB] at hN5
          clear hHeld hb2 hw5 hNB hq
          go_wp2_with fail
          go_meet
          case rel => exact ⟨⟨_, rfl, hN5⟩, rfl, hS5⟩
        · go_simp
          skip
          refine hK.out _ _ (hq.alloc _) (fun hHeld => ?_)
          clear hK K
          try simp only [Act.put, List.getElem_toArray, List.getElem_cons_succ, List.getElem_cons_zero, List.setIfInBounds_toArray, List.set_cons_zero, List.set_cons_succ]
          refine wpAnyH_ready (rs := [8]) (by kernel_rfl) (by simp) ?_
          refine AllReadyH.cons rfl (fun K hK => ?_) AllReadyH.nil
          go_simp
          refine (at_at _ HXY.out HDN.out HD3.out HAV.out).mono ?_
          rintro e w2 ⟨rfl, hb2'⟩
          have hb2 : Since wr w2 := Since.trans (hq.alloc _) hb2'
          have hw := (Whole.new wq 27 #[.int .i64 0, .int .i64 0]).below hb2' (by simp)
          have y0 := hw.cell 0
          have x0 := hw.frozen 0
          have y1 := hw.cell 1
          have x1 := hw.frozen 1
          go_wp2_with fail
          refine hK.out _ _ (hb2) (fun hHeld => ?_)
          clear hK K
          try simp only [Act.put, List.getElem_toArray, List.getElem_cons_succ, List.getElem_cons_zero, List.setIfInBounds_toArray, List.set_cons_zero, List.set_cons_succ]
          refine wpAnyH_take (i := 9) (v := ?_) rfl (by kernel_rfl) (by kernel_rfl) (by kernel_rfl) (fun _ _ _ h => h) (Or.inl ⟨by rfl, ?_⟩) (by assumption) ?_
          rotate_left 1
          · (intro W hW; clear hW; go_simp; try with_reducible rfl)
          simp only [Act.put, List.getElem_toArray, List.getElem_cons_succ, List.getElem_cons_zero, List.setIfInBounds_toArray, List.set_cons_zero, List.set_cons_succ]
          refine wpAnyH_take (i := 10) (v := ?_) rfl (by kernel_rfl) (by kernel_rfl) (by kernel_rfl) (fun _ _ _ h => h) (Or.inl ⟨by rfl, ?_⟩) (by assumption) ?_
          rotate_left 1
          · (intro W hW; clear hW; go_simp; try with_reducible rfl)
          simp only [Act.put, List.getElem_toArray, List.getElem_cons_succ, List.getElem_cons_zero, List.setIfInBounds_toArray, List.set_cons_zero, List.set_cons_succ]
          refine wpAnyH_take (i := 11) (v := ?_) rfl (by kernel_rfl) (by kernel_rfl) (by kernel_rfl) (fun _ _ _ h => h) (Or.inl ⟨by rfl, ?_⟩) (by assumption) ?_
          rotate_left 1
          · (intro W hW; clear hW; go_simp; try with_reducible rfl)
          simp only [Act.put, List.getElem_toArray, List.getElem_cons_succ, List.getElem_cons_zero, List.setIfInBounds_toArray, List.set_cons_zero, List.set_cons_succ]
          refine wpAnyH_ready (rs := [13]) (by kernel_rfl) (by simp) ?_
          refine AllReadyH.cons rfl (fun K hK => ?_) AllReadyH.nil
          go_simp
          skip
          refine hK.out _ _ ((Since.setCell (Since.setCell hb2 (p := ⟨wq.heap.size, 0, none⟩) hq.size_ _) (p := ⟨wq.heap.size, 1, none⟩) hq.size_ _)) (fun hHeld => ?_)
          clear hK K
          try simp only [Act.put, List.getElem_toArray, List.getElem_cons_succ, List.getElem_cons_zero, List.setIfInBounds_toArray, List.set_cons_zero, List.set_cons_succ]
          refine wpAnyH_take (i := 14) (v := ?_) rfl (by kernel_rfl) (by kernel_rfl) (by kernel_rfl) (fun _ _ _ h => h) (Or.inl ⟨by rfl, ?_⟩) (by assumption) ?_
          rotate_left 1
          · (intro W hW; clear hW; go_simp; try with_reducible rfl)
          simp only [Act.put, List.getElem_toArray, List.getElem_cons_succ, List.getElem_cons_zero, List.setIfInBounds_toArray, List.set_cons_zero, List.set_cons_succ]
          refine wpAnyH_done (by kernel_rfl) ?_ _
          obtain ⟨w5, hw5⟩ : ∃ w5, w5 = ((w2.setCell ⟨wq.heap.size, 0, none⟩ (.int .i64 sd)).setCell ⟨wq.heap.size, 1, none⟩ (.int .i64 AV)) := ⟨_, rfl⟩
          have hS5 : Since wr w5 := Since.named ((Since.setCell (Since.setCell hb2 (p := ⟨wq.heap.size, 0, none⟩) hq.size_ _) (p := ⟨wq.heap.size, 1, none⟩) hq.size_ _)) hw5
          have hN5 : Whole w5 wq.heap.size 27 #[.int .i64 sd, .int .i64 AV] := (((hw.set_ 0 _).set_ 1 _)).named hw5
          clear hw hb2' x0 y0 x1 y1
          obtain ⟨NB, hNB⟩ : ∃ NB, NB = wq.heap.size := ⟨_, rfl⟩
          rw [← hw5, ← hNB]
          rw [← hNB] at hN5
          clear hHeld hb2 hw5 hNB hq
          go_wp2_with fail
          go_meet
          case rel => exact ⟨⟨_, rfl, hN5⟩, rfl, hS5⟩
      case rest =>
        obtain ⟨wa, hwa⟩ : ∃ w', w' = wc := ⟨_, rfl⟩
        rw [← hwa] at hcut ⊢
        clear hwa
        obtain ⟨⟨NA, rfl, wna⟩, rfl, hsa⟩ := hcut
        have ta0 : ∀ W, Since wa W → W.cell? ⟨ga, m * 3, none⟩ = some (.int .i64 sd) := fun W hW => t0 W (hsa.trans hW)
        have ta1 : ∀ W, Since wa W → W.cell? ⟨ga, m * 3 + 1, none⟩ = some (.int .i64 sb) := fun W hW => t1 W (hsa.trans hW)
        have tk0 : ∀ W, Since wa W → W.cell? ⟨w.heap.size + 1, 0, none⟩ = some (.int .i64 K) := fun W hW => tr0 W (hsa.trans hW)
        clear hsr hsd
        have hsr := Since.refl wa
        have hsd := hsr.drew
        go_upto_region 15 with fail
        go_cut [16, 17, 18] from 73 to 83 (fun p a b wx => (∃ NB, p = .pointer (some ⟨NB, 0, none⟩) ∧ Whole wx NB 25 #[.int .i64 px, .int .i64 py]) ∧ a = .int .i64 pw ∧ b = .int .i64 ph ∧ Since wa wx)
        case first =>
          obtain ⟨wq, hwq⟩ : ∃ wq, wq = wa.drew := ⟨_, rfl⟩
          refine wp_region_held_drew (S := fun W => Since wa W) (by kernel_rfl) hsd (fun hHeld => ?_)
          rw [← hwq] at hHeld ⊢
          have hq : Since wa wq := hHeld
          clear hwq hsd
          refine wpAnyH_take (i := 0) (v := ?_) rfl (by kernel_rfl) (by kernel_rfl) (by kernel_rfl) (fun _ _ _ h => h) (Or.inl ⟨by rfl, ?_⟩) (by assumption) ?_
          rotate_left 1
          · (intro W hW; skip; go_simp; try with_reducible rfl)
          simp only [Act.put, List.getElem_toArray, List.getElem_cons_zero, List.setIfInBounds_toArray, List.set_cons_zero, List.set_cons_succ]
          refine wpAnyH_take (i := 1) (v := ?_) rfl (by kernel_rfl) (by kernel_rfl) (by kernel_rfl) (fun _ _ _ h => h) (Or.inl ⟨by rfl, ?_⟩) (by assumption) ?_
          rotate_left 1
          · (intro W hW; clear hW; go_simp; try with_reducible rfl)
          simp only [Act.put, List.getElem_toArray, List.getElem_cons_succ, List.getElem_cons_zero, List.setIfInBounds_toArray, List.set_cons_zero, List.set_cons_succ]
          refine wpAnyH_take (i := 2) (v := ?_) rfl (by kernel_rfl) (by kernel_rfl) (by kernel_rfl) (fun _ _ _ h => h) (Or.inl ⟨by rfl, ?_⟩) (by assumption) ?_
          rotate_left 1
          · (intro W hW; clear hW; go_simp; try with_reducible rfl)
          simp only [Act.put, List.getElem_toArray, List.getElem_cons_succ, List.getElem_cons_zero, List.setIfInBounds_toArray, List.set_cons_zero, List.set_cons_succ]
          refine wpAnyH_take (i := 3) (v := ?_) rfl (by kernel_rfl) (by kernel_rfl) (by kernel_rfl) (fun _ _ _ h => h) (Or.inl ⟨by rfl, ?_⟩) (by assumption) ?_
          rotate_left 1
          · (intro W hW; clear hW; go_simp; try with_reducible rfl)
          simp only [Act.put, List.getElem_toArray, List.getElem_cons_succ, List.getElem_cons_zero, List.setIfInBounds_toArray, List.set_cons_zero, List.set_cons_succ]
          refine wpAnyH_take (i := 4) (v := ?_) rfl (by kernel_rfl) (by kernel_rfl) (by kernel_rfl) (fun _ _ _ h => h) (Or.inl ⟨by rfl, ?_⟩) (by assumption) ?_
          rotate_left 1
          · (intro W hW; clear hW; go_simp; try with_reducible rfl)
          simp only [Act.put, List.getElem_toArray, List.getElem_cons_succ, List.getElem_cons_zero, List.setIfInBounds_toArray, List.set_cons_zero, List.set_cons_succ]
          refine wpAnyH_take (i := 5) (v := ?_) rfl (by kernel_rfl) (by kernel_rfl) (by kernel_rfl) (fun _ _ _ h => h) (Or.inl ⟨by rfl, ?_⟩) (by assumption) ?_
          rotate_left 1
          · (intro W hW; skip; go_simp; try with_reducible rfl)
          simp only [Act.put, List.getElem_toArray, List.getElem_cons_succ, List.getElem_cons_zero, List.setIfInBounds_toArray, List.set_cons_zero, List.set_cons_succ]
          refine wpAnyH_ready (rs := [6, 11]) (by kernel_rfl) (by simp) ?_
          refine AllReadyH.cons rfl (fun K hK => ?_) (AllReadyH.cons rfl (fun K hK => ?_) AllReadyH.nil)
          · go_simp
            refine (Calls.since hq (corner5 _ HO1.out HCO.out)).mono ?_
            rintro e w2 ⟨rfl, hb2⟩
            go_wp2_with fail
            refine hK.out _ _ (hb2) (fun hHeld => ?_)
            clear hK K
            try simp only [Act.put, List.getElem_toArray, List.getElem_cons_succ, List.getElem_cons_zero, List.setIfInBounds_toArray, List.set_cons_zero, List.set_cons_succ]
            refine wpAnyH_take (i := 7) (v := ?_) rfl (by kernel_rfl) (by kernel_rfl) (by kernel_rfl) (fun _ _ _ h => h) (Or.inl ⟨by rfl, ?_⟩) (by assumption) ?_
            rotate_left 1
            · (intro W hW; clear hW; go_simp; try with_reducible rfl)
            simp only [Act.put, List.getElem_toArray, List.getElem_cons_succ, List.getElem_cons_zero, List.setIfInBounds_toArray, List.set_cons_zero, List.set_cons_succ]
            refine wpAnyH_take (i := 8) (v := ?_) rfl (by kernel_rfl) (by kernel_rfl) (by kernel_rfl) (fun _ _ _ h => h) (Or.inl ⟨by rfl, ?_⟩) (by assumption) ?_
            rotate_left 1
            · (intro W hW; clear hW; go_simp; try with_reducible rfl)
            simp only [Act.put, List.getElem_toArray, List.getElem_cons_succ, List.getElem_cons_zero, List.setIfInBounds_toArray, List.set_cons_zero, List.set_cons_succ]
            refine wpAnyH_take (i := 9) (v := ?_) rfl (by kernel_rfl) (by kernel_rfl) (by kernel_rfl) (fun _ _ _ h => h) (Or.inl ⟨by rfl, ?_⟩) (by assumption) ?_
            rotate_left 1
            · (intro W hW; clear hW; go_simp; try with_reducible rfl)
            simp only [Act.put, List.getElem_toArray, List.getElem_cons_succ, List.getElem_cons_zero, List.setIfInBounds_toArray, List.set_cons_zero, List.set_cons_succ]
            refine wpAnyH_take (i := 10) (v := ?_) rfl (by kernel_rfl) (by kernel_rfl) (by kernel_rfl) (fun _ _ _ h => h) (Or.inl ⟨by rfl, ?_⟩) (by assumption) ?_
            rotate_left 1
            · (intro W hW; clear hW; go_simp; try with_reducible rfl)
            simp only [Act.put, List.getElem_toArray, List.getElem_cons_succ, List.getElem_cons_zero, List.setIfInBounds_toArray, List.set_cons_zero, List.set_cons_succ]
            refine wpAnyH_ready (rs := [11]) (by kernel_rfl) (by simp) ?_
            refine AllReadyH.cons rfl (fun K hK => ?_) AllReadyH.nil
            go_simp
            skip
            refine hK.out _ _ (hb2.alloc _) (fun hHeld => ?_)
            clear hK K
            try simp only [Act.put, List.getElem_toArray, List.getElem_cons_succ, List.getElem_cons_zero, List.setIfInBounds_toArray, List.set_cons_zero, List.set_cons_succ]
            refine wpAnyH_ready (rs := [12]) (by kernel_rfl) (by simp) ?_
            refine AllReadyH.cons rfl (fun K hK => ?_) AllReadyH.nil
            go_simp
            skip
            refine hK.out _ _ (hb2.alloc _) (fun hHeld => ?_)
            clear hK K
            try simp only [Act.put, List.getElem_toArray, List.getElem_cons_succ, List.getElem_cons_zero, List.setIfInBounds_toArray, List.set_cons_zero, List.set_cons_succ]
            refine wpAnyH_take (i := 13) (v := ?_) rfl (by kernel_rfl) (by kernel_rfl) (by kernel_rfl) (fun _ _ _ h => h) (Or.inl ⟨by rfl, ?_⟩) (by assumption) ?_
            rotate_left 1
            · (intro W hW; clear hW; go_simp; try with_reducible rfl)
            simp only [Act.put, List.getElem_toArray, List.getElem_cons_succ, List.getElem_cons_zero, List.setIfInBounds_toArray, List.set_cons_zero, List.set_cons_succ]
            refine wpAnyH_take (i := 14) (v := ?_) rfl (by kernel_rfl) (by kernel_rfl) (by kernel_rfl) (fun _ _ _ h => h) (Or.inl ⟨by rfl, ?_⟩) (by assumption) ?_
            rotate_left 1
            · (intro W hW; clear hW; go_simp; try with_reducible rfl)
            simp only [Act.put, List.getElem_toArray, List.getElem_cons_succ, List.getElem_cons_zero, List.setIfInBounds_toArray, List.set_cons_zero, List.set_cons_succ]
            refine wpAnyH_done (by kernel_rfl) ?_ _
            obtain ⟨w5, hw5⟩ : ∃ w5, w5 = w2.alloc (.cells #[.int .i64 px, .int .i64 py] 25) := ⟨_, rfl⟩
            have hS5 : Since wa w5 := Since.named (hb2.alloc _) hw5
            have hN5 : Whole w5 w2.heap.size 25 #[.int .i64 px, .int .i64 py] := (Whole.new w2 _ _).named hw5
            obtain ⟨NB, hNB⟩ : ∃ NB, NB = w2.heap.size := ⟨_, rfl⟩
            rw [← hw5, ← hNB]
            rw [← hNB] at hN5
            clear hHeld hb2 hw5 hNB hq
            go_wp2_with fail
            go_meet
            case rel => exact ⟨⟨_, rfl, hN5⟩, rfl, rfl, hS5⟩
          · go_simp
            skip
            refine hK.out _ _ (hq.alloc _) (fun hHeld => ?_)
            clear hK K
            try simp only [Act.put, List.getElem_toArray, List.getElem_cons_succ, List.getElem_cons_zero, List.setIfInBounds_toArray, List.set_cons_zero, List.set_cons_succ]
            refine wpAnyH_ready (rs := [6]) (by kernel_rfl) (by simp) ?_
            refine AllReadyH.cons rfl (fun K hK => ?_) AllReadyH.nil
            go_simp
            refine (corner5 _ HO1.out HCO.out).mono ?_
            rintro e w2 ⟨rfl, hb2'⟩
            have hb2 : Since wa w2 := Since.trans (hq.alloc _) hb2'
            have hw := (Whole.new wq 25 #[.int .i64 0, .int .i64 0]).below hb2' (by simp)
            have y0 := hw.cell 0
            have x0 := hw.frozen 0
            have y1 := hw.cell 1
            have x1 := hw.frozen 1
            go_wp2_with fail
            refine hK.out _ _ (hb2) (fun hHeld => ?_)
            clear hK K
            try simp only [Act.put, List.getElem_toArray, List.getElem_cons_succ, List.getElem_cons_zero, List.setIfInBounds_toArray, List.set_cons_zero, List.set_cons_succ]
            refine wpAnyH_take (i := 7) (v := ?_) rfl (by kernel_rfl) (by kernel_rfl) (by kernel_rfl) (fun _ _ _ h => h) (Or.inl ⟨by rfl, ?_⟩) (by assumption) ?_
            rotate_left 1
            · (intro W hW; clear hW; go_simp; try with_reducible rfl)
            simp only [Act.put, List.getElem_toArray, List.getElem_cons_succ, List.getElem_cons_zero, List.setIfInBounds_toArray, List.set_cons_zero, List.set_cons_succ]
            refine wpAnyH_take (i := 8) (v := ?_) rfl (by kernel_rfl) (by kernel_rfl) (by kernel_rfl) (fun _ _ _ h => h) (Or.inl ⟨by rfl, ?_⟩) (by assumption) ?_
            rotate_left 1
            · (intro W hW; clear hW; go_simp; try with_reducible rfl)
            simp only [Act.put, List.getElem_toArray, List.getElem_cons_succ, List.getElem_cons_zero, List.setIfInBounds_toArray, List.set_cons_zero, List.set_cons_succ]
            refine wpAnyH_take (i := 9) (v := ?_) rfl (by kernel_rfl) (by kernel_rfl) (by kernel_rfl) (fun _ _ _ h => h) (Or.inl ⟨by rfl, ?_⟩) (by assumption) ?_
            rotate_left 1
            · (intro W hW; clear hW; go_simp; try with_reducible rfl)
            simp only [Act.put, List.getElem_toArray, List.getElem_cons_succ, List.getElem_cons_zero, List.setIfInBounds_toArray, List.set_cons_zero, List.set_cons_succ]
            refine wpAnyH_take (i := 10) (v := ?_) rfl (by kernel_rfl) (by kernel_rfl) (by kernel_rfl) (fun _ _ _ h => h) (Or.inl ⟨by rfl, ?_⟩) (by assumption) ?_
            rotate_left 1
            · (intro W hW; clear hW; go_simp; try with_reducible rfl)
            simp only [Act.put, List.getElem_toArray, List.getElem_cons_succ, List.getElem_cons_zero, List.setIfInBounds_toArray, List.set_cons_zero, List.set_cons_succ]
            refine wpAnyH_ready (rs := [12]) (by kernel_rfl) (by simp) ?_
            refine AllReadyH.cons rfl (fun K hK => ?_) AllReadyH.nil
            go_simp
            skip
            refine hK.out _ _ ((Since.setCell (Since.setCell hb2 (p := ⟨wq.heap.size, 0, none⟩) hq.size_ _) (p := ⟨wq.heap.size, 1, none⟩) hq.size_ _)) (fun hHeld => ?_)
            clear hK K
            try simp only [Act.put, List.getElem_toArray, List.getElem_cons_succ, List.getElem_cons_zero, List.setIfInBounds_toArray, List.set_cons_zero, List.set_cons_succ]
            refine wpAnyH_take (i := 13) (v := ?_) rfl (by kernel_rfl) (by kernel_rfl) (by kernel_rfl) (fun _ _ _ h => h) (Or.inl ⟨by rfl, ?_⟩) (by assumption) ?_
            rotate_left 1
            · (intro W hW; clear hW; go_simp; try with_reducible rfl)
            simp only [Act.put, List.getElem_toArray, List.getElem_cons_succ, List.getElem_cons_zero, List.setIfInBounds_toArray, List.set_cons_zero, List.set_cons_succ]
            refine wpAnyH_take (i := 14) (v := ?_) rfl (by kernel_rfl) (by kernel_rfl) (by kernel_rfl) (fun _ _ _ h => h) (Or.inl ⟨by rfl, ?_⟩) (by assumption) ?_
            rotate_left 1
            · (intro W hW; clear hW; go_simp; try with_reducible rfl)
            simp only [Act.put, List.getElem_toArray, List.getElem_cons_succ, List.getElem_cons_zero, List.setIfInBounds_toArray, List.set_cons_zero, List.set_cons_succ]
            refine wpAnyH_done (by kernel_rfl) ?_ _
            obtain ⟨w5, hw5⟩ : ∃ w5, w5 = ((w2.setCell ⟨wq.heap.size, 0, none⟩ (.int .i64 px)).setCell ⟨wq.heap.size, 1, none⟩ (.int .i64 py)) := ⟨_, rfl⟩
            have hS5 : Since wa w5 := Since.named ((Since.setCell (Since.setCell hb2 (p := ⟨wq.heap.size, 0, none⟩) hq.size_ _) (p := ⟨wq.heap.size, 1, none⟩) hq.size_ _)) hw5
            have hN5 : Whole w5 wq.heap.size 25 #[.int .i64 px, .int .i64 py] := (((hw.set_ 0 _).set_ 1 _)).named hw5
            clear hw hb2' x0 y0 x1 y1
            obtain ⟨NB, hNB⟩ : ∃ NB, NB = wq.heap.size := ⟨_, rfl⟩
            rw [← hw5, ← hNB]
            rw [← hNB] at hN5
            clear hHeld hb2 hw5 hNB hq
            go_wp2_with fail
            go_meet
            case rel => exact ⟨⟨_, rfl, hN5⟩, rfl, rfl, hS5⟩
        case rest =>
          obtain ⟨wb, hwb⟩ : ∃ w', w' = wc := ⟨_, rfl⟩
          rw [← hwb] at hcut ⊢
          clear hwb
          obtain ⟨⟨NC, rfl, wnc⟩, rfl, rfl, hsb⟩ := hcut
          have hsw := hsa.trans hsb
          have wnb := Since.whole hsb wna
          have n0 := wnb.cell 0
          have n1 := wnb.cell 1
          have v0 := t0 wb hsw
          have v1 := t1 wb hsw
          have hx0 : IntKind.i64.wrap ((m : Int) - 1) = (m : Int) - 1 := IntWalk.i64_in _ (by omega)
          clear hsr hsd ta0 ta1 tk0 wna wnc wnb hx0
          by_cases hh : AV = sb
          · subst hh
            have hf : findT K (t.tiles 0 0) X Y = some ⟨sd, AV, sw⟩ := by unfold findT; rw [if_pos HXY.out, HL.out]; exact HFI.out (by simp)
            have hcn := HCP.out
            rw [if_pos (by simp)] at hcn
            have HCN := Lib.hid hcn
            have HF := Lib.hid hf
            clear hcn hf
            go_wp2_with fail
            go_quiet ((go_at_call 12; exact Calls.quiet_of_same (law5_num' _ _)))
            obtain ⟨wv, hwv⟩ : ∃ wv, wv = wb.drewN nq := ⟨_, rfl⟩
            have hsv : Since wr wv := by rw [hwv]; exact hsw.drewN _
            rw [← hwv]
            clear hwv n0 n1 v0 v1
            have hfi2 := P.find X Y (P.since hOz (hsm.trans hsv))
            rw [HF.out] at hfi2
            go_wp2_with fail
            refine hfi2.mono ?_
            rintro e we ⟨rfl, hbe⟩
            have hse : Since wr (we.alloc (.cells #[.int .i64 sd, .int .i64 AV, .int .i64 sw] 50)) := (Since.trans hsv hbe).alloc _
            have v0 := t0 _ hse
            have v1 := t1 _ hse
            have v2 := t2 _ hse
            unfold tlV
            dsimp only
            clear hfi2 hbe hsv
            go_wp2_with fail
            go_quiet (fail)
            obtain ⟨wf, hwf⟩ : ∃ wf, wf = (we.alloc (.cells #[.int .i64 sd, .int .i64 AV, .int .i64 sw] 50)).drewN nq := ⟨_, rfl⟩
            have hsf : Since wr wf := by rw [hwf]; exact hse.drewN _
            rw [← hwf]
            clear hwf v0 v1 v2 hse
            go_wp2_with fail
            rcases Nat.eq_zero_or_pos m with hm0 | hm0
            · have d0 : decide ((0 : Int) < m) = false := decide_eq_false (by omega)
              have d0n : decide (0 < m) = false := decide_eq_false (by omega)
              replace hm0 := Lib.hid hm0
              have hsr := Since.refl wf
              have hsd := hsr.drew
              obtain ⟨wq, hwq⟩ : ∃ wq, wq = wf.drew := ⟨_, rfl⟩
              refine wp_region_held_drew (S := fun W => Since wf W) (by kernel_rfl) hsd (fun hHeld => ?_)
              rw [← hwq] at hHeld ⊢
              have hs7 : Since wr wq := hsf.trans hHeld
              clear hwq hsd hsr
              refine wpAnyH_take (i := 0) (v := ?_) rfl (by kernel_rfl) (by kernel_rfl) (by kernel_rfl) (fun _ _ _ h => h) (Or.inl ⟨by rfl, ?_⟩) (by assumption) ?_
              rotate_left 1
              · (intro W hW; clear hW; go_simp; try with_reducible rfl)
              simp only [Act.put, List.getElem_toArray, List.getElem_cons_zero, List.setIfInBounds_toArray, List.set_cons_zero, List.set_cons_succ]
              refine wpAnyH_take (i := 1) (v := ?_) rfl (by kernel_rfl) (by kernel_rfl) (by kernel_rfl) (fun _ _ _ h => h) (Or.inl ⟨by rfl, ?_⟩) (by assumption) ?_
              rotate_left 1
              · (intro W hW; clear hW; go_simp; try with_reducible rfl)
              simp only [Act.put, List.getElem_toArray, List.getElem_cons_succ, List.getElem_cons_zero, List.setIfInBounds_toArray, List.set_cons_zero, List.set_cons_succ]
              refine wpAnyH_take (i := 2) (v := ?_) rfl (by kernel_rfl) (by kernel_rfl) (by kernel_rfl) (fun _ _ _ h => h) (Or.inl ⟨by rfl, ?_⟩) (by assumption) ?_
              rotate_left 1
              · (intro W hW; clear hW; go_simp; try with_reducible rfl)
              simp only [Act.put, List.getElem_toArray, List.getElem_cons_succ, List.getElem_cons_zero, List.setIfInBounds_toArray, List.set_cons_zero, List.set_cons_succ]
              refine wpAnyH_take (i := 3) (v := undef) rfl (by kernel_rfl) (by kernel_rfl) (by kernel_rfl) (fun _ _ _ h => h) (Or.inr ⟨by rfl, rfl⟩) (by assumption) ?_
              simp only [Act.put, List.getElem_toArray, List.getElem_cons_succ, List.getElem_cons_zero, List.setIfInBounds_toArray, List.set_cons_zero, List.set_cons_succ]
              refine wpAnyH_take (i := 4) (v := undef) rfl (by kernel_rfl) (by kernel_rfl) (by kernel_rfl) (fun _ _ _ h => h) (Or.inr ⟨by rfl, rfl⟩) (by assumption) ?_
              simp only [Act.put, List.getElem_toArray, List.getElem_cons_succ, List.getElem_cons_zero, List.setIfInBounds_toArray, List.set_cons_zero, List.set_cons_succ]
              refine wpAnyH_take (i := 5) (v := undef) rfl (by kernel_rfl) (by kernel_rfl) (by kernel_rfl) (fun _ _ _ h => h) (Or.inr ⟨by rfl, rfl⟩) (by assumption) ?_
              simp only [Act.put, List.getElem_toArray, List.getElem_cons_succ, List.getElem_cons_zero, List.setIfInBounds_toArray, List.set_cons_zero, List.set_cons_succ]
              refine wpAnyH_take (i := 6) (v := undef) rfl (by kernel_rfl) (by kernel_rfl) (by kernel_rfl) (fun _ _ _ h => h) (Or.inr ⟨by rfl, rfl⟩) (by assumption) ?_
              simp only [Act.put, List.getElem_toArray, List.getElem_cons_succ, List.getElem_cons_zero, List.setIfInBounds_toArray, List.set_cons_zero, List.set_cons_succ]
              refine wpAnyH_take (i := 7) (v := undef) rfl (by kernel_rfl) (by kernel_rfl) (by kernel_rfl) (fun _ _ _ h => h) (Or.inr ⟨by rfl, rfl⟩) (by assumption) ?_
              simp only [Act.put, List.getElem_toArray, List.getElem_cons_succ, List.getElem_cons_zero, List.setIfInBounds_toArray, List.set_cons_zero, List.set_cons_succ]
              refine wpAnyH_take (i := 8) (v := undef) rfl (by kernel_rfl) (by kernel_rfl) (by kernel_rfl) (fun _ _ _ h => h) (Or.inr ⟨by rfl, rfl⟩) (by assumption) ?_
              simp only [Act.put, List.getElem_toArray, List.getElem_cons_succ, List.getElem_cons_zero, List.setIfInBounds_toArray, List.set_cons_zero, List.set_cons_succ]
              refine wpAnyH_take (i := 9) (v := undef) rfl (by kernel_rfl) (by kernel_rfl) (by kernel_rfl) (fun _ _ _ h => h) (Or.inr ⟨by rfl, rfl⟩) (by assumption) ?_
              simp only [Act.put, List.getElem_toArray, List.getElem_cons_succ, List.getElem_cons_zero, List.setIfInBounds_toArray, List.set_cons_zero, List.set_cons_succ]
              refine wpAnyH_take (i := 10) (v := undef) rfl (by kernel_rfl) (by kernel_rfl) (by kernel_rfl) (fun _ _ _ h => h) (Or.inr ⟨by rfl, rfl⟩) (by assumption) ?_
              simp only [Act.put, List.getElem_toArray, List.getElem_cons_succ, List.getElem_cons_zero, List.setIfInBounds_toArray, List.set_cons_zero, List.set_cons_succ]
              refine wpAnyH_take (i := 11) (v := undef) rfl (by kernel_rfl) (by kernel_rfl) (by kernel_rfl) (fun _ _ _ h => h) (Or.inr ⟨by rfl, rfl⟩) (by assumption) ?_
              simp only [Act.put, List.getElem_toArray, List.getElem_cons_succ, List.getElem_cons_zero, List.setIfInBounds_toArray, List.set_cons_zero, List.set_cons_succ]
              refine wpAnyH_take (i := 12) (v := undef) rfl (by kernel_rfl) (by kernel_rfl) (by kernel_rfl) (fun _ _ _ h => h) (Or.inr ⟨by rfl, rfl⟩) (by assumption) ?_
              simp only [Act.put, List.getElem_toArray, List.getElem_cons_succ, List.getElem_cons_zero, List.setIfInBounds_toArray, List.set_cons_zero, List.set_cons_succ]
              refine wpAnyH_take (i := 13) (v := undef) rfl (by kernel_rfl) (by kernel_rfl) (by kernel_rfl) (fun _ _ _ h => h) (Or.inr ⟨by rfl, rfl⟩) (by assumption) ?_
              simp only [Act.put, List.getElem_toArray, List.getElem_cons_succ, List.getElem_cons_zero, List.setIfInBounds_toArray, List.set_cons_zero, List.set_cons_succ]
              refine wpAnyH_take (i := 14) (v := undef) rfl (by kernel_rfl) (by kernel_rfl) (by kernel_rfl) (fun _ _ _ h => h) (Or.inr ⟨by rfl, rfl⟩) (by assumption) ?_
              simp only [Act.put, List.getElem_toArray, List.getElem_cons_succ, List.getElem_cons_zero, List.setIfInBounds_toArray, List.set_cons_zero, List.set_cons_succ]
              refine wpAnyH_take (i := 15) (v := undef) rfl (by kernel_rfl) (by kernel_rfl) (by kernel_rfl) (fun _ _ _ h => h) (Or.inr ⟨by rfl, rfl⟩) (by assumption) ?_
              simp only [Act.put, List.getElem_toArray, List.getElem_cons_succ, List.getElem_cons_zero, List.setIfInBounds_toArray, List.set_cons_zero, List.set_cons_succ]
              refine wpAnyH_take (i := 16) (v := undef) rfl (by kernel_rfl) (by kernel_rfl) (by kernel_rfl) (fun _ _ _ h => h) (Or.inr ⟨by rfl, rfl⟩) (by assumption) ?_
              simp only [Act.put, List.getElem_toArray, List.getElem_cons_succ, List.getElem_cons_zero, List.setIfInBounds_toArray, List.set_cons_zero, List.set_cons_succ]
              refine wpAnyH_take (i := 17) (v := undef) rfl (by kernel_rfl) (by kernel_rfl) (by kernel_rfl) (fun _ _ _ h => h) (Or.inr ⟨by rfl, rfl⟩) (by assumption) ?_
              simp only [Act.put, List.getElem_toArray, List.getElem_cons_succ, List.getElem_cons_zero, List.setIfInBounds_toArray, List.set_cons_zero, List.set_cons_succ]
              refine wpAnyH_take (i := 18) (v := undef) rfl (by kernel_rfl) (by kernel_rfl) (by kernel_rfl) (fun _ _ _ h => h) (Or.inr ⟨by rfl, rfl⟩) (by assumption) ?_
              simp only [Act.put, List.getElem_toArray, List.getElem_cons_succ, List.getElem_cons_zero, List.setIfInBounds_toArray, List.set_cons_zero, List.set_cons_succ]
              refine wpAnyH_take (i := 19) (v := undef) rfl (by kernel_rfl) (by kernel_rfl) (by kernel_rfl) (fun _ _ _ h => h) (Or.inr ⟨by rfl, rfl⟩) (by assumption) ?_
              simp only [Act.put, List.getElem_toArray, List.getElem_cons_succ, List.getElem_cons_zero, List.setIfInBounds_toArray, List.set_cons_zero, List.set_cons_succ]
              refine wpAnyH_take (i := 20) (v := undef) rfl (by kernel_rfl) (by kernel_rfl) (by kernel_rfl) (fun _ _ _ h => h) (Or.inr ⟨by rfl, rfl⟩) (by assumption) ?_
              simp only [Act.put, List.getElem_toArray, List.getElem_cons_succ, List.getElem_cons_zero, List.setIfInBounds_toArray, List.set_cons_zero, List.set_cons_succ]
              refine wpAnyH_take (i := 21) (v := undef) rfl (by kernel_rfl) (by kernel_rfl) (by kernel_rfl) (fun _ _ _ h => h) (Or.inr ⟨by rfl, rfl⟩) (by assumption) ?_
              simp only [Act.put, List.getElem_toArray, List.getElem_cons_succ, List.getElem_cons_zero, List.setIfInBounds_toArray, List.set_cons_zero, List.set_cons_succ]
              refine wpAnyH_take (i := 22) (v := undef) rfl (by kernel_rfl) (by kernel_rfl) (by kernel_rfl) (fun _ _ _ h => h) (Or.inr ⟨by rfl, rfl⟩) (by assumption) ?_
              simp only [Act.put, List.getElem_toArray, List.getElem_cons_succ, List.getElem_cons_zero, List.setIfInBounds_toArray, List.set_cons_zero, List.set_cons_succ]
              refine wpAnyH_take (i := 23) (v := undef) rfl (by kernel_rfl) (by kernel_rfl) (by kernel_rfl) (fun _ _ _ h => h) (Or.inr ⟨by rfl, rfl⟩) (by assumption) ?_
              simp only [Act.put, List.getElem_toArray, List.getElem_cons_succ, List.getElem_cons_zero, List.setIfInBounds_toArray, List.set_cons_zero, List.set_cons_succ]
              refine wpAnyH_take (i := 24) (v := undef) rfl (by kernel_rfl) (by kernel_rfl) (by kernel_rfl) (fun _ _ _ h => h) (Or.inr ⟨by rfl, rfl⟩) (by assumption) ?_
              simp only [Act.put, List.getElem_toArray, List.getElem_cons_succ, List.getElem_cons_zero, List.setIfInBounds_toArray, List.set_cons_zero, List.set_cons_succ]
              refine wpAnyH_take (i := 25) (v := undef) rfl (by kernel_rfl) (by kernel_rfl) (by kernel_rfl) (fun _ _ _ h => h) (Or.inr ⟨by rfl, rfl⟩) (by assumption) ?_
              simp only [Act.put, List.getElem_toArray, List.getElem_cons_succ, List.getElem_cons_zero, List.setIfInBounds_toArray, List.set_cons_zero, List.set_cons_succ]
              refine wpAnyH_take (i := 26) (v := undef) rfl (by kernel_rfl) (by kernel_rfl) (by kernel_rfl) (fun _ _ _ h => h) (Or.inr ⟨by rfl, rfl⟩) (by assumption) ?_
              simp only [Act.put, List.getElem_toArray, List.getElem_cons_succ, List.getElem_cons_zero, List.setIfInBounds_toArray, List.set_cons_zero, List.set_cons_succ]
              refine wpAnyH_take (i := 27) (v := undef) rfl (by kernel_rfl) (by kernel_rfl) (by kernel_rfl) (fun _ _ _ h => h) (Or.inr ⟨by rfl, rfl⟩) (by assumption) ?_
              simp only [Act.put, List.getElem_toArray, List.getElem_cons_succ, List.getElem_cons_zero, List.setIfInBounds_toArray, List.set_cons_zero, List.set_cons_succ]
              refine wpAnyH_take (i := 28) (v := undef) rfl (by kernel_rfl) (by kernel_rfl) (by kernel_rfl) (fun _ _ _ h => h) (Or.inr ⟨by rfl, rfl⟩) (by assumption) ?_
              simp only [Act.put, List.getElem_toArray, List.getElem_cons_succ, List.getElem_cons_zero, List.setIfInBounds_toArray, List.set_cons_zero, List.set_cons_succ]
              refine wpAnyH_take (i := 29) (v := undef) rfl (by kernel_rfl) (by kernel_rfl) (by kernel_rfl) (fun _ _ _ h => h) (Or.inr ⟨by rfl, rfl⟩) (by assumption) ?_
              simp only [Act.put, List.getElem_toArray, List.getElem_cons_succ, List.getElem_cons_zero, List.setIfInBounds_toArray, List.set_cons_zero, List.set_cons_succ]
              refine wpAnyH_take (i := 30) (v := ?_) rfl (by kernel_rfl) (by kernel_rfl) (by kernel_rfl) (fun _ _ _ h => h) (Or.inl ⟨by rfl, ?_⟩) (by assumption) ?_
              rotate_left 1
              · (intro W hW; clear hW; go_simp; try with_reducible rfl)
              simp only [Act.put, List.getElem_toArray, List.getElem_cons_succ, List.getElem_cons_zero, List.setIfInBounds_toArray, List.set_cons_zero, List.set_cons_succ]
              refine wpAnyH_done (by kernel_rfl) ?_ _
              go_wp2_with fail
              go_roundw
              case rel => exact ⟨m + 1, by go_num, by omega, by rw [HCN.out]; go_num, by first | (rw [HSP.out]; done) | rw [HSP.out, e2], hsm.trans (by first | assumption | exact Since.drewN (by assumption) _)⟩
              case measure => simp [intOf]; omega
            · have d0 : decide ((0 : Int) < m) = true := decide_eq_true (by omega)
              have d0n : decide (0 < m) = true := decide_eq_true (by omega)
              obtain ⟨q, hq⟩ : ∃ q, q + 1 = m := ⟨m - 1, by omega⟩
              have hql : q < L.length := by omega
              obtain ⟨c1, c2⟩ := HPR.out q hq
              obtain ⟨⟨ud, ub, uw⟩, hu⟩ : ∃ s, L[q] = s := ⟨_, rfl⟩
              rw [hu] at c1 c2
              dsimp only at c1 c2
              obtain ⟨CM, hCM⟩ : ∃ c, cmpP ud ub sd AV = c := ⟨_, rfl⟩
              rw [hCM] at c1
              have HCM := Lib.hid hCM
              have HMT := Lib.hid c2
              have dc : decide (0 ≤ CM) = false := decide_eq_false (by omega)
              have dq : decide ((q : Int) < L.length) = true := decide_eq_true (by omega)
              have hx : IntKind.i64.wrap ((m : Int) - 1) = (q : Int) := by rw [IntWalk.i64_in _ (by omega)]; omega
              have p0 : ∀ W, Since wf W → W.cell? ⟨ga, q * 3, none⟩ = some (.int .i64 ud) := fun W hW => (hLz.since (hsm.trans (hsf.trans hW)) hsL).at_ hql 0 (by rw [hu]; rfl)
              have p1 : ∀ W, Since wf W → W.cell? ⟨ga, q * 3 + 1, none⟩ = some (.int .i64 ub) := fun W hW => (hLz.since (hsm.trans (hsf.trans hW)) hsL).at_ hql 1 (by rw [hu]; rfl)
              have x0 : ∀ W, Since wf W → W.cell? ⟨ga, m * 3, none⟩ = some (.int .i64 sd) := fun W hW => t0 W (hsf.trans hW)
              have x1 : ∀ W, Since wf W → W.cell? ⟨ga, m * 3 + 1, none⟩ = some (.int .i64 AV) := fun W hW => t1 W (hsf.trans hW)
              have hsr := Since.refl wf
              have hsd := hsr.drew
              replace hq := Lib.hid hq
              clear c2 hu hCM hm0 hsr t0 t1 t2 cr0 cr1 tr0
              go_region_held3 (fun W => Since wf W) (first | assumption | exact Since.drew (by assumption)) ((first | (go_at_call 36; (with_reducible refine (Calls.since (by assumption) (compare_at HCM.out _)).mono ?_); rintro e w6 ⟨rfl, hb6⟩) | (go_at_call 37; (with_reducible refine (Calls.since (by assumption) (meet_at HMT.out _)).mono ?_); rintro e w7 ⟨rfl, hb7⟩)))
              have hs7 : Since wr w7 := hsf.trans hb7
              clear p0 p1 x0 x1 hx hsd
              go_wp2_with fail
              go_roundw
              case rel => exact ⟨m + 1, by go_num, by omega, by rw [HCN.out]; go_num, by first | (rw [HSP.out]; done) | rw [HSP.out, e2], hsm.trans (by first | assumption | exact Since.drewN (by assumption) _)⟩
              case measure => simp [intOf]; omega
          · have hab : (AV == sb) = false := beq_eq_false_iff_ne.2 hh
            have hcn := HCP.out
            rw [if_neg (by rw [hab]; exact Bool.false_ne_true), Nat.add_zero] at hcn
            have HCN := Lib.hid hcn
            clear hcn hh
            go_wp2_with fail
            go_quiet ((go_at_call 12; exact Calls.quiet_of_same (law5_num' _ _)))
            obtain ⟨wf, hwf⟩ : ∃ wv, wv = wb.drewN nq := ⟨_, rfl⟩
            have hsf : Since wr wf := by rw [hwf]; exact hsw.drewN _
            rw [← hwf]
            clear hwf n0 n1 v0 v1
            go_wp2_with fail
            rcases Nat.eq_zero_or_pos m with hm0 | hm0
            · have d0 : decide ((0 : Int) < m) = false := decide_eq_false (by omega)
              have d0n : decide (0 < m) = false := decide_eq_false (by omega)
              replace hm0 := Lib.hid hm0
              have hsr := Since.refl wf
              have hsd := hsr.drew
              obtain ⟨wq, hwq⟩ : ∃ wq, wq = wf.drew := ⟨_, rfl⟩
              refine wp_region_held_drew (S := fun W => Since wf W) (by kernel_rfl) hsd (fun hHeld => ?_)
              rw [← hwq] at hHeld ⊢
              have hs7 : Since wr wq := hsf.trans hHeld
              clear hwq hsd hsr
              refine wpAnyH_take (i := 0) (v := ?_) rfl (by kernel_rfl) (by kernel_rfl) (by kernel_rfl) (fun _ _ _ h => h) (Or.inl ⟨by rfl, ?_⟩) (by assumption) ?_
              rotate_left 1
              · (intro W hW; clear hW; go_simp; try with_reducible rfl)
              simp only [Act.put, List.getElem_toArray, List.getElem_cons_zero, List.setIfInBounds_toArray, List.set_cons_zero, List.set_cons_succ]
              refine wpAnyH_take (i := 1) (v := ?_) rfl (by kernel_rfl) (by kernel_rfl) (by kernel_rfl) (fun _ _ _ h => h) (Or.inl ⟨by rfl, ?_⟩) (by assumption) ?_
              rotate_left 1
              · (intro W hW; clear hW; go_simp; try with_reducible rfl)
              simp only [Act.put, List.getElem_toArray, List.getElem_cons_succ, List.getElem_cons_zero, List.setIfInBounds_toArray, List.set_cons_zero, List.set_cons_succ]
              refine wpAnyH_take (i := 2) (v := ?_) rfl (by kernel_rfl) (by kernel_rfl) (by kernel_rfl) (fun _ _ _ h => h) (Or.inl ⟨by rfl, ?_⟩) (by assumption) ?_
              rotate_left 1
              · (intro W hW; clear hW; go_simp; try with_reducible rfl)
              simp only [Act.put, List.getElem_toArray, List.getElem_cons_succ, List.getElem_cons_zero, List.setIfInBounds_toArray, List.set_cons_zero, List.set_cons_succ]
              refine wpAnyH_take (i := 3) (v := undef) rfl (by kernel_rfl) (by kernel_rfl) (by kernel_rfl) (fun _ _ _ h => h) (Or.inr ⟨by rfl, rfl⟩) (by assumption) ?_
              simp only [Act.put, List.getElem_toArray, List.getElem_cons_succ, List.getElem_cons_zero, List.setIfInBounds_toArray, List.set_cons_zero, List.set_cons_succ]
              refine wpAnyH_take (i := 4) (v := undef) rfl (by kernel_rfl) (by kernel_rfl) (by kernel_rfl) (fun _ _ _ h => h) (Or.inr ⟨by rfl, rfl⟩) (by assumption) ?_
              simp only [Act.put, List.getElem_toArray, List.getElem_cons_succ, List.getElem_cons_zero, List.setIfInBounds_toArray, List.set_cons_zero, List.set_cons_succ]
              refine wpAnyH_take (i := 5) (v := undef) rfl (by kernel_rfl) (by kernel_rfl) (by kernel_rfl) (fun _ _ _ h => h) (Or.inr ⟨by rfl, rfl⟩) (by assumption) ?_
              simp only [Act.put, List.getElem_toArray, List.getElem_cons_succ, List.getElem_cons_zero, List.setIfInBounds_toArray, List.set_cons_zero, List.set_cons_succ]
              refine wpAnyH_take (i := 6) (v := undef) rfl (by kernel_rfl) (by kernel_rfl) (by kernel_rfl) (fun _ _ _ h => h) (Or.inr ⟨by rfl, rfl⟩) (by assumption) ?_
              simp only [Act.put, List.getElem_toArray, List.getElem_cons_succ, List.getElem_cons_zero, List.setIfInBounds_toArray, List.set_cons_zero, List.set_cons_succ]
              refine wpAnyH_take (i := 7) (v := undef) rfl (by kernel_rfl) (by kernel_rfl) (by kernel_rfl) (fun _ _ _ h => h) (Or.inr ⟨by rfl, rfl⟩) (by assumption) ?_
              simp only [Act.put, List.getElem_toArray, List.getElem_cons_succ, List.getElem_cons_zero, List.setIfInBounds_toArray, List.set_cons_zero, List.set_cons_succ]
              refine wpAnyH_take (i := 8) (v := undef) rfl (by kernel_rfl) (by kernel_rfl) (by kernel_rfl) (fun _ _ _ h => h) (Or.inr ⟨by rfl, rfl⟩) (by assumption) ?_
              simp only [Act.put, List.getElem_toArray, List.getElem_cons_succ, List.getElem_cons_zero, List.setIfInBounds_toArray, List.set_cons_zero, List.set_cons_succ]
              refine wpAnyH_take (i := 9) (v := undef) rfl (by kernel_rfl) (by kernel_rfl) (by kernel_rfl) (fun _ _ _ h => h) (Or.inr ⟨by rfl, rfl⟩) (by assumption) ?_
              simp only [Act.put, List.getElem_toArray, List.getElem_cons_succ, List.getElem_cons_zero, List.setIfInBounds_toArray, List.set_cons_zero, List.set_cons_succ]
              refine wpAnyH_take (i := 10) (v := undef) rfl (by kernel_rfl) (by kernel_rfl) (by kernel_rfl) (fun _ _ _ h => h) (Or.inr ⟨by rfl, rfl⟩) (by assumption) ?_
              simp only [Act.put, List.getElem_toArray, List.getElem_cons_succ, List.getElem_cons_zero, List.setIfInBounds_toArray, List.set_cons_zero, List.set_cons_succ]
              refine wpAnyH_take (i := 11) (v := undef) rfl (by kernel_rfl) (by kernel_rfl) (by kernel_rfl) (fun _ _ _ h => h) (Or.inr ⟨by rfl, rfl⟩) (by assumption) ?_
              simp only [Act.put, List.getElem_toArray, List.getElem_cons_succ, List.getElem_cons_zero, List.setIfInBounds_toArray, List.set_cons_zero, List.set_cons_succ]
              refine wpAnyH_take (i := 12) (v := undef) rfl (by kernel_rfl) (by kernel_rfl) (by kernel_rfl) (fun _ _ _ h => h) (Or.inr ⟨by rfl, rfl⟩) (by assumption) ?_
              simp only [Act.put, List.getElem_toArray, List.getElem_cons_succ, List.getElem_cons_zero, List.setIfInBounds_toArray, List.set_cons_zero, List.set_cons_succ]
              refine wpAnyH_take (i := 13) (v := undef) rfl (by kernel_rfl) (by kernel_rfl) (by kernel_rfl) (fun _ _ _ h => h) (Or.inr ⟨by rfl, rfl⟩) (by assumption) ?_
              simp only [Act.put, List.getElem_toArray, List.getElem_cons_succ, List.getElem_cons_zero, List.setIfInBounds_toArray, List.set_cons_zero, List.set_cons_succ]
              refine wpAnyH_take (i := 14) (v := undef) rfl (by kernel_rfl) (by kernel_rfl) (by kernel_rfl) (fun _ _ _ h => h) (Or.inr ⟨by rfl, rfl⟩) (by assumption) ?_
              simp only [Act.put, List.getElem_toArray, List.getElem_cons_succ, List.getElem_cons_zero, List.setIfInBounds_toArray, List.set_cons_zero, List.set_cons_succ]
              refine wpAnyH_take (i := 15) (v := undef) rfl (by kernel_rfl) (by kernel_rfl) (by kernel_rfl) (fun _ _ _ h => h) (Or.inr ⟨by rfl, rfl⟩) (by assumption) ?_
              simp only [Act.put, List.getElem_toArray, List.getElem_cons_succ, List.getElem_cons_zero, List.setIfInBounds_toArray, List.set_cons_zero, List.set_cons_succ]
              refine wpAnyH_take (i := 16) (v := undef) rfl (by kernel_rfl) (by kernel_rfl) (by kernel_rfl) (fun _ _ _ h => h) (Or.inr ⟨by rfl, rfl⟩) (by assumption) ?_
              simp only [Act.put, List.getElem_toArray, List.getElem_cons_succ, List.getElem_cons_zero, List.setIfInBounds_toArray, List.set_cons_zero, List.set_cons_succ]
              refine wpAnyH_take (i := 17) (v := undef) rfl (by kernel_rfl) (by kernel_rfl) (by kernel_rfl) (fun _ _ _ h => h) (Or.inr ⟨by rfl, rfl⟩) (by assumption) ?_
              simp only [Act.put, List.getElem_toArray, List.getElem_cons_succ, List.getElem_cons_zero, List.setIfInBounds_toArray, List.set_cons_zero, List.set_cons_succ]
              refine wpAnyH_take (i := 18) (v := undef) rfl (by kernel_rfl) (by kernel_rfl) (by kernel_rfl) (fun _ _ _ h => h) (Or.inr ⟨by rfl, rfl⟩) (by assumption) ?_
              simp only [Act.put, List.getElem_toArray, List.getElem_cons_succ, List.getElem_cons_zero, List.setIfInBounds_toArray, List.set_cons_zero, List.set_cons_succ]
              refine wpAnyH_take (i := 19) (v := undef) rfl (by kernel_rfl) (by kernel_rfl) (by kernel_rfl) (fun _ _ _ h => h) (Or.inr ⟨by rfl, rfl⟩) (by assumption) ?_
              simp only [Act.put, List.getElem_toArray, List.getElem_cons_succ, List.getElem_cons_zero, List.setIfInBounds_toArray, List.set_cons_zero, List.set_cons_succ]
              refine wpAnyH_take (i := 20) (v := undef) rfl (by kernel_rfl) (by kernel_rfl) (by kernel_rfl) (fun _ _ _ h => h) (Or.inr ⟨by rfl, rfl⟩) (by assumption) ?_
              simp only [Act.put, List.getElem_toArray, List.getElem_cons_succ, List.getElem_cons_zero, List.setIfInBounds_toArray, List.set_cons_zero, List.set_cons_succ]
              refine wpAnyH_take (i := 21) (v := undef) rfl (by kernel_rfl) (by kernel_rfl) (by kernel_rfl) (fun _ _ _ h => h) (Or.inr ⟨by rfl, rfl⟩) (by assumption) ?_
              simp only [Act.put, List.getElem_toArray, List.getElem_cons_succ, List.getElem_cons_zero, List.setIfInBounds_toArray, List.set_cons_zero, List.set_cons_succ]
              refine wpAnyH_take (i := 22) (v := undef) rfl (by kernel_rfl) (by kernel_rfl) (by kernel_rfl) (fun _ _ _ h => h) (Or.inr ⟨by rfl, rfl⟩) (by assumption) ?_
              simp only [Act.put, List.getElem_toArray, List.getElem_cons_succ, List.getElem_cons_zero, List.setIfInBounds_toArray, List.set_cons_zero, List.set_cons_succ]
              refine wpAnyH_take (i := 23) (v := undef) rfl (by kernel_rfl) (by kernel_rfl) (by kernel_rfl) (fun _ _ _ h => h) (Or.inr ⟨by rfl, rfl⟩) (by assumption) ?_
              simp only [Act.put, List.getElem_toArray, List.getElem_cons_succ, List.getElem_cons_zero, List.setIfInBounds_toArray, List.set_cons_zero, List.set_cons_succ]
              refine wpAnyH_take (i := 24) (v := undef) rfl (by kernel_rfl) (by kernel_rfl) (by kernel_rfl) (fun _ _ _ h => h) (Or.inr ⟨by rfl, rfl⟩) (by assumption) ?_
              simp only [Act.put, List.getElem_toArray, List.getElem_cons_succ, List.getElem_cons_zero, List.setIfInBounds_toArray, List.set_cons_zero, List.set_cons_succ]
              refine wpAnyH_take (i := 25) (v := undef) rfl (by kernel_rfl) (by kernel_rfl) (by kernel_rfl) (fun _ _ _ h => h) (Or.inr ⟨by rfl, rfl⟩) (by assumption) ?_
              simp only [Act.put, List.getElem_toArray, List.getElem_cons_succ, List.getElem_cons_zero, List.setIfInBounds_toArray, List.set_cons_zero, List.set_cons_succ]
              refine wpAnyH_take (i := 26) (v := undef) rfl (by kernel_rfl) (by kernel_rfl) (by kernel_rfl) (fun _ _ _ h => h) (Or.inr ⟨by rfl, rfl⟩) (by assumption) ?_
              simp only [Act.put, List.getElem_toArray, List.getElem_cons_succ, List.getElem_cons_zero, List.setIfInBounds_toArray, List.set_cons_zero, List.set_cons_succ]
              refine wpAnyH_take (i := 27) (v := undef) rfl (by kernel_rfl) (by kernel_rfl) (by kernel_rfl) (fun _ _ _ h => h) (Or.inr ⟨by rfl, rfl⟩) (by assumption) ?_
              simp only [Act.put, List.getElem_toArray, List.getElem_cons_succ, List.getElem_cons_zero, List.setIfInBounds_toArray, List.set_cons_zero, List.set_cons_succ]
              refine wpAnyH_take (i := 28) (v := undef) rfl (by kernel_rfl) (by kernel_rfl) (by kernel_rfl) (fun _ _ _ h => h) (Or.inr ⟨by rfl, rfl⟩) (by assumption) ?_
              simp only [Act.put, List.getElem_toArray, List.getElem_cons_succ, List.getElem_cons_zero, List.setIfInBounds_toArray, List.set_cons_zero, List.set_cons_succ]
              refine wpAnyH_take (i := 29) (v := undef) rfl (by kernel_rfl) (by kernel_rfl) (by kernel_rfl) (fun _ _ _ h => h) (Or.inr ⟨by rfl, rfl⟩) (by assumption) ?_
              simp only [Act.put, List.getElem_toArray, List.getElem_cons_succ, List.getElem_cons_zero, List.setIfInBounds_toArray, List.set_cons_zero, List.set_cons_succ]
              refine wpAnyH_take (i := 30) (v := ?_) rfl (by kernel_rfl) (by kernel_rfl) (by kernel_rfl) (fun _ _ _ h => h) (Or.inl ⟨by rfl, ?_⟩) (by assumption) ?_
              rotate_left 1
              · (intro W hW; clear hW; go_simp; try with_reducible rfl)
              simp only [Act.put, List.getElem_toArray, List.getElem_cons_succ, List.getElem_cons_zero, List.setIfInBounds_toArray, List.set_cons_zero, List.set_cons_succ]
              refine wpAnyH_done (by kernel_rfl) ?_ _
              go_wp2_with fail
              go_roundw
              case rel => exact ⟨m + 1, by go_num, by omega, by rw [HCN.out]; go_num, by first | (rw [HSP.out]; done) | rw [HSP.out, e2], hsm.trans (by first | assumption | exact Since.drewN (by assumption) _)⟩
              case measure => simp [intOf]; omega
            · have d0 : decide ((0 : Int) < m) = true := decide_eq_true (by omega)
              have d0n : decide (0 < m) = true := decide_eq_true (by omega)
              obtain ⟨q, hq⟩ : ∃ q, q + 1 = m := ⟨m - 1, by omega⟩
              have hql : q < L.length := by omega
              obtain ⟨c1, c2⟩ := HPR.out q hq
              obtain ⟨⟨ud, ub, uw⟩, hu⟩ : ∃ s, L[q] = s := ⟨_, rfl⟩
              rw [hu] at c1 c2
              dsimp only at c1 c2
              obtain ⟨CM, hCM⟩ : ∃ c, cmpP ud ub sd sb = c := ⟨_, rfl⟩
              rw [hCM] at c1
              have HCM := Lib.hid hCM
              have HMT := Lib.hid c2
              have dc : decide (0 ≤ CM) = false := decide_eq_false (by omega)
              have dq : decide ((q : Int) < L.length) = true := decide_eq_true (by omega)
              have hx : IntKind.i64.wrap ((m : Int) - 1) = (q : Int) := by rw [IntWalk.i64_in _ (by omega)]; omega
              have p0 : ∀ W, Since wf W → W.cell? ⟨ga, q * 3, none⟩ = some (.int .i64 ud) := fun W hW => (hLz.since (hsm.trans (hsf.trans hW)) hsL).at_ hql 0 (by rw [hu]; rfl)
              have p1 : ∀ W, Since wf W → W.cell? ⟨ga, q * 3 + 1, none⟩ = some (.int .i64 ub) := fun W hW => (hLz.since (hsm.trans (hsf.trans hW)) hsL).at_ hql 1 (by rw [hu]; rfl)
              have x0 : ∀ W, Since wf W → W.cell? ⟨ga, m * 3, none⟩ = some (.int .i64 sd) := fun W hW => t0 W (hsf.trans hW)
              have x1 : ∀ W, Since wf W → W.cell? ⟨ga, m * 3 + 1, none⟩ = some (.int .i64 sb) := fun W hW => t1 W (hsf.trans hW)
              have hsr := Since.refl wf
              have hsd := hsr.drew
              replace hq := Lib.hid hq
              clear c2 hu hCM hm0 hsr t0 t1 t2 cr0 cr1 tr0
              go_region_held3 (fun W => Since wf W) (first | assumption | exact Since.drew (by assumption)) ((first | (go_at_call 36; (with_reducible refine (Calls.since (by assumption) (compare_at HCM.out _)).mono ?_); rintro e w6 ⟨rfl, hb6⟩) | (go_at_call 37; (with_reducible refine (Calls.since (by assumption) (meet_at HMT.out _)).mono ?_); rintro e w7 ⟨rfl, hb7⟩)))
              have hs7 : Since wr w7 := hsf.trans hb7
              clear p0 p1 x0 x1 hx hsd
              go_wp2_with fail
              go_roundw
              case rel => exact ⟨m + 1, by go_num, by omega, by rw [HCN.out]; go_num, by first | (rw [HSP.out]; done) | rw [HSP.out, e2], hsm.trans (by first | assumption | exact Since.drewN (by assumption) _)⟩
              case measure => simp [intOf]; omega
    · obtain rfl : m = L.length := by omega
      have d1 : decide ((L.length : Int) < L.length) = false := decide_eq_false (by omega)
      rw [List.take_of_length_le (Nat.le_refl _)]
      obtain ⟨NL, hNL⟩ : ∃ N, L.countP (fun s => hitB K X Y s.d s.b) = N := ⟨_, rfl⟩
      obtain ⟨SL, hSL⟩ : ∃ S, sumG (fun s : Tl => zA K s.d) L = S := ⟨_, rfl⟩
      have hC := HC.out
      have hAR := HAR.out
      rw [hNL] at hC ⊢
      rw [hSL] at hAR ⊢
      have hfn : NL = 0 → findT K (t.tiles 0 0) X Y = none := fun z => by unfold findT; rw [if_pos HXY.out, HL.out]; exact find_no _ (by rw [hNL, z])
      have hSL0 : 0 ≤ SL := by rw [← hSL]; exact sumG_nn (f := fun s : Tl => zA K s.d) (fun x => zA_nn _ _) L
      have HC2 := Lib.hid hC
      have HAR2 := Lib.hid hAR
      have HFN := Lib.hid hfn
      have HSL := Lib.hid hSL0
      clear hC hAR hNL hSL hfn hSL0
      go_wp2_with fail
      go_loopw [11, 12, 21] (fun n ar i wx => ∃ m : Nat, i = .int .i64 m ∧ m ≤ G.length ∧ n = .int .i64 ((NL + (G.take m).countP (fun s => hitB K X Y s.1 s.2) : Nat)) ∧ ar = .int .i64 (SL + sumG (fun s : Int × Int => zA K s.1) (G.take m)) ∧ Since wz wx) (fun _ _ i _ => G.length - (intOf i).toNat)
      case atStart => exact ⟨0, rfl, Nat.zero_le _, rfl, by show Value.int .i64 SL = Value.int .i64 (SL + 0); rw [Int.add_zero], hsm⟩
      case round =>
        clear hsm d1
        obtain ⟨m, rfl, hm, rfl, rfl, hsm⟩ := hrel
        by_cases hlt : m < G.length
        · obtain ⟨ga, rfl, hgaG⟩ := hformG m hlt
          have d1 : decide ((m : Int) < G.length) = true := decide_eq_true (by omega)
          have hm64 : (m : Int) < 2100 := by omega
          have hcp := countP_take (fun s : Int × Int => hitB K X Y s.1 s.2) G m hlt
          have hsp := sumG_take (fun s : Int × Int => zA K s.1) G m hlt
          have hs0 := sumG_nn (f := fun s : Int × Int => zA K s.1) (fun x => zA_nn _ _) (G.take m)
          have hs1 := sumG_take_le (f := fun s : Int × Int => zA K s.1) (fun x => zA_nn _ _) G (m + 1)
          have hcl := List.countP_le_length (p := fun s : Int × Int => hitB K X Y s.1 s.2) (l := G.take m)
          have hll := List.length_take_le m G
          have hpos : ∀ s ∈ G, hitB K X Y s.1 s.2 = true → NL = 0 := fun s hs hp => by
            have h1 := (List.countP_pos_iff (p := fun s : Int × Int => hitB K X Y s.1 s.2)).2 ⟨s, hs, hp⟩
            have h2 := HC2.out
            omega
          have hpm := hpos G[m] (List.getElem_mem _)
          obtain ⟨o1, o2, o3⟩ := HGO.out G[m] (List.getElem_mem _)
          obtain ⟨⟨sd, sb⟩, hr⟩ : ∃ s, G[m] = s := ⟨_, rfl⟩
          rw [hr] at hcp hsp o1 o2 o3 hpm
          dsimp only at hcp hsp o1 o2 o3 hpm
          have t0 : ∀ W, Since wr W → W.cell? ⟨ga, m * 2, none⟩ = some (.int .i64 sd) := fun W hW => (hGz.since (hsm.trans hW) (Nat.le_refl _)).at_ hlt 0 (by rw [hr]; rfl)
          have t1 : ∀ W, Since wr W → W.cell? ⟨ga, m * 2 + 1, none⟩ = some (.int .i64 sb) := fun W hW => (hGz.since (hsm.trans hW) (Nat.le_refl _)).at_ hlt 1 (by rw [hr]; rfl)
          have cr0 : ∀ W, Since wr W → W.cell? ⟨w.heap.size, 0, none⟩ = some (.int .i64 X) := fun W hW => cz0 W (hsm.trans hW)
          have cr1 : ∀ W, Since wr W → W.cell? ⟨w.heap.size, 1, none⟩ = some (.int .i64 Y) := fun W hW => cz1 W (hsm.trans hW)
          have tr0 : ∀ W, Since wr W → W.cell? ⟨w.heap.size + 1, 0, none⟩ = some (.int .i64 K) := fun W hW => tz0 W (hsm.trans hW)
          obtain ⟨dn, hdn⟩ : ∃ dn : Nat, sd = (dn : Int) := ⟨sd.toNat, by omega⟩
          obtain ⟨AV, hAV⟩ : ∃ AV, atV K X Y dn = AV := ⟨_, rfl⟩
          have hhit : hitB K X Y sd sb = (AV == sb) := by unfold hitB; rw [hdn, Int.toNat_natCast, hAV]
          obtain ⟨⟨px, py, pw, ph⟩, hco⟩ : ∃ q, corF (side K) (ups sd sb (cnt sd sb)) = q := ⟨_, rfl⟩
          have hwh := corner_area o1 hco
          have hz0 := zA_nn K sd
          have hz1 : zA K sd ≤ 4294967296 := zA_bd HK.out.2 o2
          obtain ⟨Z, hZ⟩ : ∃ Z, zA K sd = Z := ⟨_, rfl⟩
          rw [hZ] at hsp hwh hz0 hz1
          obtain ⟨N, hN⟩ : ∃ N, (G.take m).countP (fun s : Int × Int => hitB K X Y s.1 s.2) = N := ⟨_, rfl⟩
          obtain ⟨S, hS⟩ : ∃ S, sumG (fun s : Int × Int => zA K s.1) (G.take m) = S := ⟨_, rfl⟩
          have hs2 := HAR2.out
          have hs3 := HA0.out
          have hs4 := HSL.out
          have hc2 := HC2.out
          have hcle : (G.take m).countP (fun s : Int × Int => hitB K X Y s.1 s.2) ≤ G.countP (fun s : Int × Int => hitB K X Y s.1 s.2) := (List.take_sublist m G).countP_le
          rw [hN] at hcp hcl hcle ⊢
          rw [hS] at hsp hs0 ⊢
          rw [hsp] at hs1
          rw [hhit] at hcp hpm
          have e1 : wrap64 (pw * ph) = Z := by rw [hwh]; exact IntWalk.wrap64_in _ ⟨by omega, by omega⟩
          have e2 : wrap64 (SL + S + Z) = SL + S + Z := IntWalk.wrap64_in _ ⟨by omega, by omega⟩
          obtain ⟨NS, hNS⟩ : ∃ n, NL + N = n := ⟨_, rfl⟩
          have hN64 : (NS : Int) ≤ 1 := by omega
          obtain ⟨SS, hSS⟩ : ∃ n, SL + S = n := ⟨_, rfl⟩
          rw [hNS, hSS]
          rw [hSS] at e2
          have HDN := Lib.hid hdn
          have HAV := Lib.hid hAV
          have HCO := Lib.hid hco
          have HCP := Lib.hid (show NL + (G.take (m + 1)).countP (fun s : Int × Int => hitB K X Y s.1 s.2) = NS + (if (AV == sb) = true then 1 else 0) by rw [hcp]; omega)
          have HSP := Lib.hid (show SL + sumG (fun s : Int × Int => zA K s.1) (G.take (m + 1)) = SS + Z by rw [hsp]; omega)
          have HPM := Lib.hid hpm
          have HO1 := Lib.hid o1
          have HD3 := Lib.hid o3
          clear hcp hsp hs0 hs1 hs2 hs3 hs4 hc2 hcle hcl hll hpos hpm o1 o2 o3 hr hdn hAV hhit hco hwh hz0 hz1 hZ hN hS hNS hSS
          have hsr := Since.refl wr
          have hsd := hsr.drew
          go_upto_region 27 with fail
          go_cut [22, 23] from 156 to 166 (fun p e wx => (∃ NB, p = .pointer (some ⟨NB, 0, none⟩) ∧ Whole wx NB 27 #[.int .i64 sd, .int .i64 AV]) ∧ e = .int .i64 0 ∧ Since wr wx)
          case first =>
            obtain ⟨wq, hwq⟩ : ∃ wq, wq = wr.drew := ⟨_, rfl⟩
            refine wp_region_held_drew (S := fun W => Since wr W) (by kernel_rfl) hsd (fun hHeld => ?_)
            rw [← hwq] at hHeld ⊢
            have hq : Since wr wq := hHeld
            clear hwq hsd
            refine wpAnyH_take (i := 0) (v := ?_) rfl (by kernel_rfl) (by kernel_rfl) (by kernel_rfl) (fun _ _ _ h => h) (Or.inl ⟨by rfl, ?_⟩) (by assumption) ?_
            rotate_left 1
            · (intro W hW; skip; go_simp; try with_reducible rfl)
            simp only [Act.put, List.getElem_toArray, List.getElem_cons_zero, List.setIfInBounds_toArray, List.set_cons_zero, List.set_cons_succ]
            refine wpAnyH_take (i := 1) (v := ?_) rfl (by kernel_rfl) (by kernel_rfl) (by kernel_rfl) (fun _ _ _ h => h) (Or.inl ⟨by rfl, ?_⟩) (by assumption) ?_
            rotate_left 1
            · (intro W hW; skip; go_simp; try with_reducible rfl)
            simp only [Act.put, List.getElem_toArray, List.getElem_cons_succ, List.getElem_cons_zero, List.setIfInBounds_toArray, List.set_cons_zero, List.set_cons_succ]
            refine wpAnyH_take (i := 2) (v := ?_) rfl (by kernel_rfl) (by kernel_rfl) (by kernel_rfl) (fun _ _ _ h => h) (Or.inl ⟨by rfl, ?_⟩) (by assumption) ?_
            rotate_left 1
            · (intro W hW; clear hW; go_simp; try with_reducible rfl)
            simp only [Act.put, List.getElem_toArray, List.getElem_cons_succ, List.getElem_cons_zero, List.setIfInBounds_toArray, List.set_cons_zero, List.set_cons_succ]
            refine wpAnyH_take (i := 3) (v := ?_) rfl (by kernel_rfl) (by kernel_rfl) (by kernel_rfl) (fun _ _ _ h => h) (Or.inl ⟨by rfl, ?_⟩) (by assumption) ?_
            rotate_left 1
            · (intro W hW; clear hW; go_simp; try with_reducible rfl)
            simp only [Act.put, List.getElem_toArray, List.getElem_cons_succ, List.getElem_cons_zero, List.setIfInBounds_toArray, List.set_cons_zero, List.set_cons_succ]
            refine wpAnyH_take (i := 4) (v := ?_) rfl (by kernel_rfl) (by kernel_rfl) (by kernel_rfl) (fun _ _ _ h => h) (Or.inl ⟨by rfl, ?_⟩) (by assumption) ?_
            rotate_left 1
            · (intro W hW; clear hW; go_simp; try with_reducible rfl)
            simp only [Act.put, List.getElem_toArray, List.getElem_cons_succ, List.getElem_cons_zero, List.setIfInBounds_toArray, List.set_cons_zero, List.set_cons_succ]
            refine wpAnyH_take (i := 5) (v := ?_) rfl (by kernel_rfl) (by kernel_rfl) (by kernel_rfl) (fun _ _ _ h => h) (Or.inl ⟨by rfl, ?_⟩) (by assumption) ?_
            rotate_left 1
            · (intro W hW; clear hW; go_simp; try with_reducible rfl)
            simp only [Act.put, List.getElem_toArray, List.getElem_cons_succ, List.getElem_cons_zero, List.setIfInBounds_toArray, List.set_cons_zero, List.set_cons_succ]
            refine wpAnyH_take (i := 6) (v := ?_) rfl (by kernel_rfl) (by kernel_rfl) (by kernel_rfl) (fun _ _ _ h => h) (Or.inl ⟨by rfl, ?_⟩) (by assumption) ?_
            rotate_left 1
            · (intro W hW; skip; go_simp; try with_reducible rfl)
            simp only [Act.put, List.getElem_toArray, List.getElem_cons_succ, List.getElem_cons_zero, List.setIfInBounds_toArray, List.set_cons_zero, List.set_cons_succ]
            refine wpAnyH_ready (rs := [7, 11]) (by kernel_rfl) (by simp) ?_
            refine AllReadyH.cons rfl (fun K hK => ?_) (AllReadyH.cons rfl (fun K hK => ?_) AllReadyH.nil)
            · go_simp
              refine (Calls.since hq (at_at _ HXY.out HDN.out HD3.out HAV.out)).mono ?_
              rintro e w2 ⟨rfl, hb2⟩
              go_wp2_with fail
              refine hK.out _ _ (hb2) (fun hHeld => ?_)
              clear hK K
              try simp only [Act.put, List.getElem_toArray, List.getElem_cons_succ, List.getElem_cons_zero, List.setIfInBounds_toArray, List.set_cons_zero, List.set_cons_succ]
              refine wpAnyH_take (i := 8) (v := ?_) rfl (by kernel_rfl) (by kernel_rfl) (by kernel_rfl) (fun _ _ _ h => h) (Or.inl ⟨by rfl, ?_⟩) (by assumption) ?_
              rotate_left 1
              · (intro W hW; clear hW; go_simp; try with_reducible rfl)
              simp only [Act.put, List.getElem_toArray, List.getElem_cons_succ, List.getElem_cons_zero, List.setIfInBounds_toArray, List.set_cons_zero, List.set_cons_succ]
              refine wpAnyH_take (i := 9) (v := ?_) rfl (by kernel_rfl) (by kernel_rfl) (by kernel_rfl) (fun _ _ _ h => h) (Or.inl ⟨by rfl, ?_⟩) (by assumption) ?_
              rotate_left 1
              · (intro W hW; clear hW; go_simp; try with_reducible rfl)
              simp only [Act.put, List.getElem_toArray, List.getElem_cons_succ, List.getElem_cons_zero, List.setIfInBounds_toArray, List.set_cons_zero, List.set_cons_succ]
              refine wpAnyH_take (i := 10) (v := ?_) rfl (by kernel_rfl) (by kernel_rfl) (by kernel_rfl) (fun _ _ _ h => h) (Or.inl ⟨by rfl, ?_⟩) (by assumption) ?_
              rotate_left 1
              · (intro W hW; clear hW; go_simp; try with_reducible rfl)
              simp only [Act.put, List.getElem_toArray, List.getElem_cons_succ, List.getElem_cons_zero, List.setIfInBounds_toArray, List.set_cons_zero, List.set_cons_succ]
              refine wpAnyH_ready (rs := [11]) (by kernel_rfl) (by simp) ?_
              refine AllReadyH.cons rfl (fun K hK => ?_) AllReadyH.nil
              go_simp
              skip
              refine hK.out _ _ (hb2.alloc _) (fun hHeld => ?_)
              clear hK K
              try simp only [Act.put, List.getElem_toArray, List.getElem_cons_succ, List.getElem_cons_zero, List.setIfInBounds_toArray, List.set_cons_zero, List.set_cons_succ]
              refine wpAnyH_ready (rs := [12]) (by kernel_rfl) (by simp) ?_
              refine AllReadyH.cons rfl (fun K hK => ?_) AllReadyH.nil
              go_simp
              skip
              refine hK.out _ _ (hb2.alloc _) (fun hHeld => ?_)
              clear hK K
              try simp only [Act.put, List.getElem_toArray, List.getElem_cons_succ, List.getElem_cons_zero, List.setIfInBounds_toArray, List.set_cons_zero, List.set_cons_succ]
              refine wpAnyH_take (i := 13) (v := ?_) rfl (by kernel_rfl) (by kernel_rfl) (by kernel_rfl) (fun _ _ _ h => h) (Or.inl ⟨by rfl, ?_⟩) (by assumption) ?_
              rotate_left 1
              · (intro W hW; clear hW; go_simp; try with_reducible rfl)
              simp only [Act.put, List.getElem_toArray, List.getElem_cons_succ, List.getElem_cons_zero, List.setIfInBounds_toArray, List.set_cons_zero, List.set_cons_succ]
              refine wpAnyH_done (by kernel_rfl) ?_ _
              obtain ⟨w5, hw5⟩ : ∃ w5, w5 = w2.alloc (.cells #[.int .i64 sd, .int .i64 AV] 27) := ⟨_, rfl⟩
              have hS5 : Since wr w5 := Since.named (hb2.alloc _) hw5
              have hN5 : Whole w5 w2.heap.size 27 #[.int .i64 sd, .int .i64 AV] := (Whole.new w2 _ _).named hw5
              obtain ⟨NB, hNB⟩ : ∃ NB, NB = w2.heap.size := ⟨_, rfl⟩
              rw [← hw5, ← hNB]
              rw [← hNB] at hN5
              clear hHeld hb2 hw5 hNB hq
              go_wp2_with fail
              go_meet
              case rel => exact ⟨⟨_, rfl, hN5⟩, rfl, hS5⟩
            · go_simp
              skip
              refine hK.out _ _ (hq.alloc _) (fun hHeld => ?_)
              clear hK K
              try simp only [Act.put, List.getElem_toArray, List.getElem_cons_succ, List.getElem_cons_zero, List.setIfInBounds_toArray, List.set_cons_zero, List.set_cons_succ]
              refine wpAnyH_ready (rs := [7]) (by kernel_rfl) (by simp) ?_
              refine AllReadyH.cons rfl (fun K hK => ?_) AllReadyH.nil
              go_simp
              refine (at_at _ HXY.out HDN.out HD3.out HAV.out).mono ?_
              rintro e w2 ⟨rfl, hb2'⟩
              have hb2 : Since wr w2 := Since.trans (hq.alloc _) hb2'
              have hw := (Whole.new wq 27 #[.int .i64 0, .int .i64 0]).below hb2' (by simp)
              have y0 := hw.cell 0
              have x0 := hw.frozen 0
              have y1 := hw.cell 1
              have x1 := hw.frozen 1
              go_wp2_with fail
              refine hK.out _ _ (hb2) (fun hHeld => ?_)
              clear hK K
              try simp only [Act.put, List.getElem_toArray, List.getElem_cons_succ, List.getElem_cons_zero, List.setIfInBounds_toArray, List.set_cons_zero, List.set_cons_succ]
              refine wpAnyH_take (i := 8) (v := ?_) rfl (by kernel_rfl) (by kernel_rfl) (by kernel_rfl) (fun _ _ _ h => h) (Or.inl ⟨by rfl, ?_⟩) (by assumption) ?_
              rotate_left 1
              · (intro W hW; clear hW; go_simp; try with_reducible rfl)
              simp only [Act.put, List.getElem_toArray, List.getElem_cons_succ, List.getElem_cons_zero, List.setIfInBounds_toArray, List.set_cons_zero, List.set_cons_succ]
              refine wpAnyH_take (i := 9) (v := ?_) rfl (by kernel_rfl) (by kernel_rfl) (by kernel_rfl) (fun _ _ _ h => h) (Or.inl ⟨by rfl, ?_⟩) (by assumption) ?_
              rotate_left 1
              · (intro W hW; clear hW; go_simp; try with_reducible rfl)
              simp only [Act.put, List.getElem_toArray, List.getElem_cons_succ, List.getElem_cons_zero, List.setIfInBounds_toArray, List.set_cons_zero, List.set_cons_succ]
              refine wpAnyH_take (i := 10) (v := ?_) rfl (by kernel_rfl) (by kernel_rfl) (by kernel_rfl) (fun _ _ _ h => h) (Or.inl ⟨by rfl, ?_⟩) (by assumption) ?_
              rotate_left 1
              · (intro W hW; clear hW; go_simp; try with_reducible rfl)
              simp only [Act.put, List.getElem_toArray, List.getElem_cons_succ, List.getElem_cons_zero, List.setIfInBounds_toArray, List.set_cons_zero, List.set_cons_succ]
              refine wpAnyH_ready (rs := [12]) (by kernel_rfl) (by simp) ?_
              refine AllReadyH.cons rfl (fun K hK => ?_) AllReadyH.nil
              go_simp
              skip
              refine hK.out _ _ ((Since.setCell (Since.setCell hb2 (p := ⟨wq.heap.size, 0, none⟩) hq.size_ _) (p := ⟨wq.heap.size, 1, none⟩) hq.size_ _)) (fun hHeld => ?_)
              clear hK K
              try simp only [Act.put, List.getElem_toArray, List.getElem_cons_succ, List.getElem_cons_zero, List.setIfInBounds_toArray, List.set_cons_zero, List.set_cons_succ]
              refine wpAnyH_take (i := 13) (v := ?_) rfl (by kernel_rfl) (by kernel_rfl) (by kernel_rfl) (fun _ _ _ h => h) (Or.inl ⟨by rfl, ?_⟩) (by assumption) ?_
              rotate_left 1
              · (intro W hW; clear hW; go_simp; try with_reducible rfl)
              simp only [Act.put, List.getElem_toArray, List.getElem_cons_succ, List.getElem_cons_zero, List.setIfInBounds_toArray, List.set_cons_zero, List.set_cons_succ]
              refine wpAnyH_done (by kernel_rfl) ?_ _
              obtain ⟨w5, hw5⟩ : ∃ w5, w5 = ((w2.setCell ⟨wq.heap.size, 0, none⟩ (.int .i64 sd)).setCell ⟨wq.heap.size, 1, none⟩ (.int .i64 AV)) := ⟨_, rfl⟩
              have hS5 : Since wr w5 := Since.named ((Since.setCell (Since.setCell hb2 (p := ⟨wq.heap.size, 0, none⟩) hq.size_ _) (p := ⟨wq.heap.size, 1, none⟩) hq.size_ _)) hw5
              have hN5 : Whole w5 wq.heap.size 27 #[.int .i64 sd, .int .i64 AV] := (((hw.set_ 0 _).set_ 1 _)).named hw5
              clear hw hb2' x0 y0 x1 y1
              obtain ⟨NB, hNB⟩ : ∃ NB, NB = wq.heap.size := ⟨_, rfl⟩
              rw [← hw5, ← hNB]
              rw [← hNB] at hN5
              clear hHeld hb2 hw5 hNB hq
              go_wp2_with fail
              go_meet
              case rel => exact ⟨⟨_, rfl, hN5⟩, rfl, hS5⟩
          case rest =>
            obtain ⟨wa, hwa⟩ : ∃ w', w' = wc := ⟨_, rfl⟩
            rw [← hwa] at hcut ⊢
            clear hwa
            obtain ⟨⟨NA, rfl, wna⟩, rfl, hsa⟩ := hcut
            have ta0 : ∀ W, Since wa W → W.cell? ⟨ga, m * 2, none⟩ = some (.int .i64 sd) := fun W hW => t0 W (hsa.trans hW)
            have ta1 : ∀ W, Since wa W → W.cell? ⟨ga, m * 2 + 1, none⟩ = some (.int .i64 sb) := fun W hW => t1 W (hsa.trans hW)
            have tk0 : ∀ W, Since wa W → W.cell? ⟨w.heap.size + 1, 0, none⟩ = some (.int .i64 K) := fun W hW => tr0 W (hsa.trans hW)
            clear hsr hsd
            have hsr := Since.refl wa
            have hsd := hsr.drew
            go_upto_region 28 with fail
            go_cut [24, 25, 26] from 167 to 176 (fun p a b wx => (∃ NB, p = .pointer (some ⟨NB, 0, none⟩) ∧ Whole wx NB 25 #[.int .i64 px, .int .i64 py]) ∧ a = .int .i64 pw ∧ b = .int .i64 ph ∧ Since wa wx)
            case first =>
              obtain ⟨wq, hwq⟩ : ∃ wq, wq = wa.drew := ⟨_, rfl⟩
              refine wp_region_held_drew (S := fun W => Since wa W) (by kernel_rfl) hsd (fun hHeld => ?_)
              rw [← hwq] at hHeld ⊢
              have hq : Since wa wq := hHeld
              clear hwq hsd
              refine wpAnyH_take (i := 0) (v := ?_) rfl (by kernel_rfl) (by kernel_rfl) (by kernel_rfl) (fun _ _ _ h => h) (Or.inl ⟨by rfl, ?_⟩) (by assumption) ?_
              rotate_left 1
              · (intro W hW; skip; go_simp; try with_reducible rfl)
              simp only [Act.put, List.getElem_toArray, List.getElem_cons_zero, List.setIfInBounds_toArray, List.set_cons_zero, List.set_cons_succ]
              refine wpAnyH_take (i := 1) (v := ?_) rfl (by kernel_rfl) (by kernel_rfl) (by kernel_rfl) (fun _ _ _ h => h) (Or.inl ⟨by rfl, ?_⟩) (by assumption) ?_
              rotate_left 1
              · (intro W hW; clear hW; go_simp; try with_reducible rfl)
              simp only [Act.put, List.getElem_toArray, List.getElem_cons_succ, List.getElem_cons_zero, List.setIfInBounds_toArray, List.set_cons_zero, List.set_cons_succ]
              refine wpAnyH_take (i := 2) (v := ?_) rfl (by kernel_rfl) (by kernel_rfl) (by kernel_rfl) (fun _ _ _ h => h) (Or.inl ⟨by rfl, ?_⟩) (by assumption) ?_
              rotate_left 1
              · (intro W hW; clear hW; go_simp; try with_reducible rfl)
              simp only [Act.put, List.getElem_toArray, List.getElem_cons_succ, List.getElem_cons_zero, List.setIfInBounds_toArray, List.set_cons_zero, List.set_cons_succ]
              refine wpAnyH_take (i := 3) (v := ?_) rfl (by kernel_rfl) (by kernel_rfl) (by kernel_rfl) (fun _ _ _ h => h) (Or.inl ⟨by rfl, ?_⟩) (by assumption) ?_
              rotate_left 1
              · (intro W hW; clear hW; go_simp; try with_reducible rfl)
              simp only [Act.put, List.getElem_toArray, List.getElem_cons_succ, List.getElem_cons_zero, List.setIfInBounds_toArray, List.set_cons_zero, List.set_cons_succ]
              refine wpAnyH_take (i := 4) (v := ?_) rfl (by kernel_rfl) (by kernel_rfl) (by kernel_rfl) (fun _ _ _ h => h) (Or.inl ⟨by rfl, ?_⟩) (by assumption) ?_
              rotate_left 1
              · (intro W hW; skip; go_simp; try with_reducible rfl)
              simp only [Act.put, List.getElem_toArray, List.getElem_cons_succ, List.getElem_cons_zero, List.setIfInBounds_toArray, List.set_cons_zero, List.set_cons_succ]
              refine wpAnyH_ready (rs := [5, 10]) (by kernel_rfl) (by simp) ?_
              refine AllReadyH.cons rfl (fun K hK => ?_) (AllReadyH.cons rfl (fun K hK => ?_) AllReadyH.nil)
              · go_simp
                refine (Calls.since hq (corner5 _ HO1.out HCO.out)).mono ?_
                rintro e w2 ⟨rfl, hb2⟩
                go_wp2_with fail
                refine hK.out _ _ (hb2) (fun hHeld => ?_)
                clear hK K
                try simp only [Act.put, List.getElem_toArray, List.getElem_cons_succ, List.getElem_cons_zero, List.setIfInBounds_toArray, List.set_cons_zero, List.set_cons_succ]
                refine wpAnyH_take (i := 6) (v := ?_) rfl (by kernel_rfl) (by kernel_rfl) (by kernel_rfl) (fun _ _ _ h => h) (Or.inl ⟨by rfl, ?_⟩) (by assumption) ?_
                rotate_left 1
                · (intro W hW; clear hW; go_simp; try with_reducible rfl)
                simp only [Act.put, List.getElem_toArray, List.getElem_cons_succ, List.getElem_cons_zero, List.setIfInBounds_toArray, List.set_cons_zero, List.set_cons_succ]
                refine wpAnyH_take (i := 7) (v := ?_) rfl (by kernel_rfl) (by kernel_rfl) (by kernel_rfl) (fun _ _ _ h => h) (Or.inl ⟨by rfl, ?_⟩) (by assumption) ?_
                rotate_left 1
                · (intro W hW; clear hW; go_simp; try with_reducible rfl)
                simp only [Act.put, List.getElem_toArray, List.getElem_cons_succ, List.getElem_cons_zero, List.setIfInBounds_toArray, List.set_cons_zero, List.set_cons_succ]
                refine wpAnyH_take (i := 8) (v := ?_) rfl (by kernel_rfl) (by kernel_rfl) (by kernel_rfl) (fun _ _ _ h => h) (Or.inl ⟨by rfl, ?_⟩) (by assumption) ?_
                rotate_left 1
                · (intro W hW; clear hW; go_simp; try with_reducible rfl)
                simp only [Act.put, List.getElem_toArray, List.getElem_cons_succ, List.getElem_cons_zero, List.setIfInBounds_toArray, List.set_cons_zero, List.set_cons_succ]
                refine wpAnyH_take (i := 9) (v := ?_) rfl (by kernel_rfl) (by kernel_rfl) (by kernel_rfl) (fun _ _ _ h => h) (Or.inl ⟨by rfl, ?_⟩) (by assumption) ?_
                rotate_left 1
                · (intro W hW; clear hW; go_simp; try with_reducible rfl)
                simp only [Act.put, List.getElem_toArray, List.getElem_cons_succ, List.getElem_cons_zero, List.setIfInBounds_toArray, List.set_cons_zero, List.set_cons_succ]
                refine wpAnyH_ready (rs := [10]) (by kernel_rfl) (by simp) ?_
                refine AllReadyH.cons rfl (fun K hK => ?_) AllReadyH.nil
                go_simp
                skip
                refine hK.out _ _ (hb2.alloc _) (fun hHeld => ?_)
                clear hK K
                try simp only [Act.put, List.getElem_toArray, List.getElem_cons_succ, List.getElem_cons_zero, List.setIfInBounds_toArray, List.set_cons_zero, List.set_cons_succ]
                refine wpAnyH_ready (rs := [11]) (by kernel_rfl) (by simp) ?_
                refine AllReadyH.cons rfl (fun K hK => ?_) AllReadyH.nil
                go_simp
                skip
                refine hK.out _ _ (hb2.alloc _) (fun hHeld => ?_)
                clear hK K
                try simp only [Act.put, List.getElem_toArray, List.getElem_cons_succ, List.getElem_cons_zero, List.setIfInBounds_toArray, List.set_cons_zero, List.set_cons_succ]
                refine wpAnyH_take (i := 12) (v := ?_) rfl (by kernel_rfl) (by kernel_rfl) (by kernel_rfl) (fun _ _ _ h => h) (Or.inl ⟨by rfl, ?_⟩) (by assumption) ?_
                rotate_left 1
                · (intro W hW; clear hW; go_simp; try with_reducible rfl)
                simp only [Act.put, List.getElem_toArray, List.getElem_cons_succ, List.getElem_cons_zero, List.setIfInBounds_toArray, List.set_cons_zero, List.set_cons_succ]
                refine wpAnyH_take (i := 13) (v := ?_) rfl (by kernel_rfl) (by kernel_rfl) (by kernel_rfl) (fun _ _ _ h => h) (Or.inl ⟨by rfl, ?_⟩) (by assumption) ?_
                rotate_left 1
                · (intro W hW; clear hW; go_simp; try with_reducible rfl)
                simp only [Act.put, List.getElem_toArray, List.getElem_cons_succ, List.getElem_cons_zero, List.setIfInBounds_toArray, List.set_cons_zero, List.set_cons_succ]
                refine wpAnyH_done (by kernel_rfl) ?_ _
                obtain ⟨w5, hw5⟩ : ∃ w5, w5 = w2.alloc (.cells #[.int .i64 px, .int .i64 py] 25) := ⟨_, rfl⟩
                have hS5 : Since wa w5 := Since.named (hb2.alloc _) hw5
                have hN5 : Whole w5 w2.heap.size 25 #[.int .i64 px, .int .i64 py] := (Whole.new w2 _ _).named hw5
                obtain ⟨NB, hNB⟩ : ∃ NB, NB = w2.heap.size := ⟨_, rfl⟩
                rw [← hw5, ← hNB]
                rw [← hNB] at hN5
                clear hHeld hb2 hw5 hNB hq
                go_wp2_with fail
                go_meet
                case rel => exact ⟨⟨_, rfl, hN5⟩, rfl, rfl, hS5⟩
              · go_simp
                skip
                refine hK.out _ _ (hq.alloc _) (fun hHeld => ?_)
                clear hK K
                try simp only [Act.put, List.getElem_toArray, List.getElem_cons_succ, List.getElem_cons_zero, List.setIfInBounds_toArray, List.set_cons_zero, List.set_cons_succ]
                refine wpAnyH_ready (rs := [5]) (by kernel_rfl) (by simp) ?_
                refine AllReadyH.cons rfl (fun K hK => ?_) AllReadyH.nil
                go_simp
                refine (corner5 _ HO1.out HCO.out).mono ?_
                rintro e w2 ⟨rfl, hb2'⟩
                have hb2 : Since wa w2 := Since.trans (hq.alloc _) hb2'
                have hw := (Whole.new wq 25 #[.int .i64 0, .int .i64 0]).below hb2' (by simp)
                have y0 := hw.cell 0
                have x0 := hw.frozen 0
                have y1 := hw.cell 1
                have x1 := hw.frozen 1
                go_wp2_with fail
                refine hK.out _ _ (hb2) (fun hHeld => ?_)
                clear hK K
                try simp only [Act.put, List.getElem_toArray, List.getElem_cons_succ, List.getElem_cons_zero, List.setIfInBounds_toArray, List.set_cons_zero, List.set_cons_succ]
                refine wpAnyH_take (i := 6) (v := ?_) rfl (by kernel_rfl) (by kernel_rfl) (by kernel_rfl) (fun _ _ _ h => h) (Or.inl ⟨by rfl, ?_⟩) (by assumption) ?_
                rotate_left 1
                · (intro W hW; clear hW; go_simp; try with_reducible rfl)
                simp only [Act.put, List.getElem_toArray, List.getElem_cons_succ, List.getElem_cons_zero, List.setIfInBounds_toArray, List.set_cons_zero, List.set_cons_succ]
                refine wpAnyH_take (i := 7) (v := ?_) rfl (by kernel_rfl) (by kernel_rfl) (by kernel_rfl) (fun _ _ _ h => h) (Or.inl ⟨by rfl, ?_⟩) (by assumption) ?_
                rotate_left 1
                · (intro W hW; clear hW; go_simp; try with_reducible rfl)
                simp only [Act.put, List.getElem_toArray, List.getElem_cons_succ, List.getElem_cons_zero, List.setIfInBounds_toArray, List.set_cons_zero, List.set_cons_succ]
                refine wpAnyH_take (i := 8) (v := ?_) rfl (by kernel_rfl) (by kernel_rfl) (by kernel_rfl) (fun _ _ _ h => h) (Or.inl ⟨by rfl, ?_⟩) (by assumption) ?_
                rotate_left 1
                · (intro W hW; clear hW; go_simp; try with_reducible rfl)
                simp only [Act.put, List.getElem_toArray, List.getElem_cons_succ, List.getElem_cons_zero, List.setIfInBounds_toArray, List.set_cons_zero, List.set_cons_succ]
                refine wpAnyH_take (i := 9) (v := ?_) rfl (by kernel_rfl) (by kernel_rfl) (by kernel_rfl) (fun _ _ _ h => h) (Or.inl ⟨by rfl, ?_⟩) (by assumption) ?_
                rotate_left 1
                · (intro W hW; clear hW; go_simp; try with_reducible rfl)
                simp only [Act.put, List.getElem_toArray, List.getElem_cons_succ, List.getElem_cons_zero, List.setIfInBounds_toArray, List.set_cons_zero, List.set_cons_succ]
                refine wpAnyH_ready (rs := [11]) (by kernel_rfl) (by simp) ?_
                refine AllReadyH.cons rfl (fun K hK => ?_) AllReadyH.nil
                go_simp
                skip
                refine hK.out _ _ ((Since.setCell (Since.setCell hb2 (p := ⟨wq.heap.size, 0, none⟩) hq.size_ _) (p := ⟨wq.heap.size, 1, none⟩) hq.size_ _)) (fun hHeld => ?_)
                clear hK K
                try simp only [Act.put, List.getElem_toArray, List.getElem_cons_succ, List.getElem_cons_zero, List.setIfInBounds_toArray, List.set_cons_zero, List.set_cons_succ]
                refine wpAnyH_take (i := 12) (v := ?_) rfl (by kernel_rfl) (by kernel_rfl) (by kernel_rfl) (fun _ _ _ h => h) (Or.inl ⟨by rfl, ?_⟩) (by assumption) ?_
                rotate_left 1
                · (intro W hW; clear hW; go_simp; try with_reducible rfl)
                simp only [Act.put, List.getElem_toArray, List.getElem_cons_succ, List.getElem_cons_zero, List.setIfInBounds_toArray, List.set_cons_zero, List.set_cons_succ]
                refine wpAnyH_take (i := 13) (v := ?_) rfl (by kernel_rfl) (by kernel_rfl) (by kernel_rfl) (fun _ _ _ h => h) (Or.inl ⟨by rfl, ?_⟩) (by assumption) ?_
                rotate_left 1
                · (intro W hW; clear hW; go_simp; try with_reducible rfl)
                simp only [Act.put, List.getElem_toArray, List.getElem_cons_succ, List.getElem_cons_zero, List.setIfInBounds_toArray, List.set_cons_zero, List.set_cons_succ]
                refine wpAnyH_done (by kernel_rfl) ?_ _
                obtain ⟨w5, hw5⟩ : ∃ w5, w5 = ((w2.setCell ⟨wq.heap.size, 0, none⟩ (.int .i64 px)).setCell ⟨wq.heap.size, 1, none⟩ (.int .i64 py)) := ⟨_, rfl⟩
                have hS5 : Since wa w5 := Since.named ((Since.setCell (Since.setCell hb2 (p := ⟨wq.heap.size, 0, none⟩) hq.size_ _) (p := ⟨wq.heap.size, 1, none⟩) hq.size_ _)) hw5
                have hN5 : Whole w5 wq.heap.size 25 #[.int .i64 px, .int .i64 py] := (((hw.set_ 0 _).set_ 1 _)).named hw5
                clear hw hb2' x0 y0 x1 y1
                obtain ⟨NB, hNB⟩ : ∃ NB, NB = wq.heap.size := ⟨_, rfl⟩
                rw [← hw5, ← hNB]
                rw [← hNB] at hN5
                clear hHeld hb2 hw5 hNB hq
                go_wp2_with fail
                go_meet
                case rel => exact ⟨⟨_, rfl, hN5⟩, rfl, rfl, hS5⟩
            case rest =>
              obtain ⟨wb, hwb⟩ : ∃ w', w' = wc := ⟨_, rfl⟩
              rw [← hwb] at hcut ⊢
              clear hwb
              obtain ⟨⟨NC, rfl, wnc⟩, rfl, rfl, hsb⟩ := hcut
              have hsw := hsa.trans hsb
              have wnb := Since.whole hsb wna
              have n0 := wnb.cell 0
              have n1 := wnb.cell 1
              have v0 := t0 wb hsw
              have v1 := t1 wb hsw
              clear hsr hsd ta0 ta1 tk0 wna wnc wnb t0 t1 tr0
              by_cases hh : AV = sb
              · subst hh
                have hf := HFN.out (HPM.out (by simp))
                have hcn := HCP.out
                rw [if_pos (by simp)] at hcn
                have HCN := Lib.hid hcn
                have HF := Lib.hid hf
                clear hcn hf
                go_wp2_with fail
                go_quiet (fail)
                obtain ⟨wv, hwv⟩ : ∃ wv, wv = wb.drewN nq := ⟨_, rfl⟩
                have hsv : Since wr wv := by rw [hwv]; exact hsw.drewN _
                rw [← hwv]
                clear hwv n0 n1 v0 v1
                have hfi2 := P.find X Y (P.since hOz (hsm.trans hsv))
                rw [HF.out] at hfi2
                go_wp2_with fail
                refine hfi2.mono ?_
                rintro e we ⟨rfl, hbe⟩
                have hse : Since wr (we.alloc (.cells #[.int .i64 0, .int .i64 0, .int .i64 0] 50)) := (Since.trans hsv hbe).alloc _
                unfold tlV
                clear hfi2 hbe hsv
                go_wp2_with fail
                go_roundw
                case rel => exact ⟨m + 1, by go_num, by omega, by rw [HCN.out]; go_num, by first | (rw [HSP.out]; done) | rw [HSP.out, e2], hsm.trans hse⟩
                case measure => simp [intOf]; omega
              · have hab : (AV == sb) = false := beq_eq_false_iff_ne.2 hh
                have hcn := HCP.out
                rw [if_neg (by rw [hab]; exact Bool.false_ne_true), Nat.add_zero] at hcn
                have HCN := Lib.hid hcn
                clear hcn hh
                go_wp2_with fail
                go_quiet (fail)
                obtain ⟨wf, hwf⟩ : ∃ wv, wv = wb.drewN nq := ⟨_, rfl⟩
                have hsf : Since wr wf := by rw [hwf]; exact hsw.drewN _
                rw [← hwf]
                clear hwf n0 n1 v0 v1
                go_wp2_with fail
                go_roundw
                case rel => exact ⟨m + 1, by go_num, by omega, by rw [HCN.out]; go_num, by first | (rw [HSP.out]; done) | rw [HSP.out, e2], hsm.trans hsf⟩
                case measure => simp [intOf]; omega
        · obtain rfl : m = G.length := by omega
          have d1 : decide ((G.length : Int) < G.length) = false := decide_eq_false (by omega)
          rw [List.take_of_length_le (Nat.le_refl _), HC2.out, HAR2.out, zA_side HR.out]
          obtain ⟨Q, hQ⟩ : ∃ Q, side K * side K = Q := ⟨_, rfl⟩
          have har := area_any K
          rw [hQ] at har ⊢
          obtain ⟨E, hE⟩ : ∃ E, ((G.length : Int) == 0) = E := ⟨_, rfl⟩
          have hE2 : G.isEmpty = E := by
            rw [← hE]
            cases G with
            | nil => rfl
            | cons a l =>
              have h1 : (((a :: l).length : Int) == 0) = false := beq_eq_false_iff_ne.2 (by rw [List.length_cons]; omega)
              rw [h1]
              rfl
          have hwo : ∀ W, Since wz W → Calls Try.prog 28 #[.pointer (some ⟨g, 0, none⟩)] W fun e W' => e = .returned (.bool E) ∧ Below W.heap.size W W' := fun W hW => by
            have h := P.whole (P.since hOz hW)
            rw [HG.out, hE2] at h
            exact h
          have tt : wr.cell? ⟨w.heap.size + 1, 0, none⟩ = some (.int .i64 K) := tz0 wr hsm
          clear hQ hE2
          go_wp2_with (first | (go_at_call 38; (with_reducible refine (har _).mono ?_); rintro e w6 ⟨rfl, hb6⟩; have hs6 : Since wz w6 := Since.trans hsm hb6) | (go_at_call 28; (with_reducible refine (hwo _ hs6).mono ?_); rintro e w7 ⟨rfl, hb7⟩))
          go_ret
          exact ⟨by simp, hbz.trans (Below.mono (Since.trans hs6 hb7) hbz.size)⟩
end Go.Proofs.Ytdbacinaffdkaaa
