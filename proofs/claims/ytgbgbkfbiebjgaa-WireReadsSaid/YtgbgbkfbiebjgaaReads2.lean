/- The walk of the law WireReads. -/
import Derived.Test.YtgbgbkfbiebjgaaReads1
import Derived.Test.YtgbgbkfbiebjgaaStays
import Derived.Deep.RegionHeld3
namespace Go.Proofs.Ytgbgbkfbiebjgaa
open Go.RowKit
/-- A slice of calls: the kind and the number of each. -/
def CRd (w : World) (B : Nat) (A : Option Addr) (z : List (Int × Int)) : Prop :=
  z = [] ∨ ∃ b off, A = some ⟨b, off, none⟩ ∧ b < B ∧ ∀ i, (h : i < z.length) → w.cell? ⟨b, off + i * 2, none⟩ = some (.int .i64 z[i].1) ∧ w.cell? ⟨b, off + i * 2 + 1, none⟩ = some (.int .i64 z[i].2)
theorem CRd.at_ {w : World} {B : Nat} {A : Option Addr} {z : List (Int × Int)} (h : CRd w B A z) {k : Nat} (hk : k < z.length) :
    ∃ b off, A = some ⟨b, off, none⟩ ∧ b < B ∧ w.cell? ⟨b, off + k * 2, none⟩ = some (.int .i64 z[k].1) ∧ w.cell? ⟨b, off + k * 2 + 1, none⟩ = some (.int .i64 z[k].2) := by
  rcases h with rfl | ⟨b, off, h1, h2, h3⟩
  · simp at hk
  · exact ⟨b, off, h1, h2, h3 k hk⟩
theorem CRd.below {w w' : World} {B C : Nat} {A : Option Addr} {z : List (Int × Int)} (h : CRd w B A z) (hb : Below C w w') (hC : B ≤ C) : CRd w' B A z := by
  rcases h with rfl | ⟨b, off, h1, h2, h3⟩
  · exact .inl rfl
  · refine .inr ⟨b, off, h1, h2, fun i hi => ⟨?_, ?_⟩⟩
    · exact (hb.cell (p := ⟨b, off + i * 2, none⟩) (Nat.lt_of_lt_of_le h2 hC)).trans (h3 i hi).1
    · exact (hb.cell (p := ⟨b, off + i * 2 + 1, none⟩) (Nat.lt_of_lt_of_le h2 hC)).trans (h3 i hi).2
theorem CRd.more {w : World} {B B' : Nat} {A : Option Addr} {z : List (Int × Int)} (h : CRd w B A z) (hB : B ≤ B') : CRd w B' A z := by
  rcases h with rfl | ⟨b, off, h1, h2, h3⟩
  · exact .inl rfl
  · exact .inr ⟨b, off, h1, by omega, h3⟩
theorem below_drewN {B : Nat} {a w : World} (h : Below B a w) (m : Nat) : Below B a (w.drewN m) := ⟨h.os, h.tape, h.output, h.size, h.block⟩
theorem werr {w : World} {base g : Nat} {A : Option Addr} {n c : Nat} {l : List UInt8} {e : Int} (h : Rdr w base g A n c l e) : Calls Try.prog 37 #[.pointer (some ⟨g, 0, none⟩)] w fun x w' => x = .returned (.int .i64 e) ∧ w' = w :=
  (made_err h).mono fun _ _ ⟨a, b⟩ => ⟨a, b.symm⟩
theorem law_num_same (k : Int) (w : World) : Calls Try.prog 19 #[.int .i64 k] w fun e w' => e = .returned (.int .i64 k) ∧ w' = w :=
  (law_num_any k w).mono fun _ _ ⟨a, b⟩ => ⟨a, b.symm⟩
set_option maxRecDepth 100000 in
set_option maxHeartbeats 400000 in
theorem reads_long (A0 : Option Addr) (n0 c0 : Nat) (A1 : Option Addr) (n1 c1 : Nat) (w : World) (h : 5000 < n0 ∨ 100 < n1) :
    Calls Try.prog 7 #[.slice A0 n0 c0, .slice A1 n1 c1] w fun e w' => e = .returned (.bool true) ∧ Below w.heap.size w w' := by
  by_cases h1 : 5000 < n0
  · clear h
    go_enter Try.func7, Try.ntmps7
    go_wp2_with (go_at_call 11; (with_reducible refine (knows_any _).mono ?_); rintro e w1 ⟨rfl, hb1⟩)
    go_ret
    exact ⟨rfl, hb1⟩
  · have h2 : 100 < n1 := by omega
    clear h
    go_enter Try.func7, Try.ntmps7
    go_wp2_with (go_at_call 11; (with_reducible refine (knows_any _).mono ?_); rintro e w1 ⟨rfl, hb1⟩)
    go_ret
    exact ⟨rfl, hb1⟩
set_option maxRecDepth 100000 in
set_option maxHeartbeats 6400000 in
theorem reads_short (A0 : Option Addr) (n0 c0 : Nat) (b : List UInt8) (A1 : Option Addr) (n1 c1 : Nat) (z : List (Int × Int)) (w : World) (hr : Rd w w.heap.size A0 b) (hn : b.length = n0) (hc : n0 ≤ c0)
    (hA : Seen A0 n0 c0) (hz : CRd w w.heap.size A1 z) (hzn : z.length = n1) (h0 : n0 ≤ 5000) (h1 : n1 ≤ 100) :
    Calls Try.prog 7 #[.slice A0 n0 c0, .slice A1 n1 c1] w fun e w' => e = .returned (.bool true) ∧ Below w.heap.size w w' := by
  have HN := Lib.hid hn
  have HZN := Lib.hid hzn
  have HA := Lib.hid hA
  clear hn hzn hA
  go_enter Try.func7, Try.ntmps7
  go_wp2_with fail
  refine (lent_any A0 n0 c0 b w hr HN.out (by omega)).mono ?_
  rintro e V ⟨gl, cl, rfl, hL, hg1, hg2, hbV⟩
  have hV := hbV.size
  have hr0 : Rd V V.heap.size A0 b := (hr.below hbV (Nat.le_refl _)).more hV
  have hz0 : CRd V V.heap.size A1 z := (hz.below hbV (Nat.le_refl _)).more hV
  have HL : Hid (Rd V V.heap.size (some ⟨gl, 0, none⟩) (b ++ [71, 72])) := hL.rd
  have hcl : n0 + 2 ≤ cl := hL.cap
  have HZ := Lib.hid hz0
  have HR0 := Lib.hid hr0
  clear hr hz hL hr0 hz0
  go_wp2_with fail
  refine (open_any (some ⟨gl, 0, none⟩) n0 cl b V HL.out.pre HN.out (by omega)).mono ?_
  rintro e w2 ⟨g, A2, n2, c2, rfl, hR2, hb2⟩
  have hs2 := hb2.size
  have hgq' := hR2.whole.lt
  go_wp2_with fail
  refine (ropen_any A0 n0 c0 V.heap.size b w2 (HR0.out.below hb2 (Nat.le_refl _)) hs2 HN.out hc).mono ?_
  rintro e w3 ⟨rfl, hQ3, hb3⟩
  have hR3 := hR2.below hb3
  have hbw3 : Below V.heap.size V w3 := hb2.trans (hb3.mono hs2)
  have hQ3' : RAt w3 V.heap.size w2.heap.size A0 n0 c0 b 0 b 0 := ⟨hQ3, fun _ => rfl, h0, HA.out⟩
  obtain ⟨q, hq⟩ : ∃ q, q = w2.heap.size := ⟨_, rfl⟩
  rw [← hq] at hQ3' hgq' ⊢
  have HGQ := Lib.hid hgq'
  clear hq hb2 hb3 hQ3 hR2 hs2 hgq'
  go_wp2
  go_loopw [8] (fun i wr => ∃ (j : Nat) (A' : Option Addr) (n' c' k : Nat) (l : List UInt8) (e : Int), i = .int .i64 (j : Int) ∧ j ≤ n1 ∧ Rdr wr V.heap.size g A' n' c' l e ∧ RAt wr V.heap.size q A0 n0 c0 b k l e ∧ Below V.heap.size V wr) (fun i _ => n1 - (intOf i).toNat)
  case atStart => exact ⟨0, A2, n2, c2, 0, b, 0, rfl, by omega, hR3, hQ3', hbw3⟩
  case round =>
    obtain ⟨j, A', n', c', k, l, e, rfl, hj, hR, hQ, hbr⟩ := hrel
    have hgq := HGQ.out
    have hne : q ≠ g := by omega
    clear hR3 hQ3' hbw3 HGQ
    by_cases hlt : j < n1
    · obtain ⟨bz, oz, rfl, hbz, hk0, hk1⟩ := HZ.out.at_ (k := j) (by rw [HZN.out]; exact hlt)
      obtain ⟨K0, hK0⟩ : ∃ x, x = (z[j]'(by rw [HZN.out]; exact hlt)).1 := ⟨_, rfl⟩
      obtain ⟨N, hN⟩ : ∃ x, x = (z[j]'(by rw [HZN.out]; exact hlt)).2 := ⟨_, rfl⟩
      rw [← hK0] at hk0
      rw [← hN] at hk1
      have hkind := (hbr.cell (p := ⟨bz, oz + j * 2, none⟩) hbz).trans hk0
      have hn1 : ∀ W : World, Below V.heap.size V W → W.cell? ⟨bz, oz + j * 2 + 1, none⟩ = some (.int .i64 N) := fun W hW => (hW.cell (p := ⟨bz, oz + j * 2 + 1, none⟩) hbz).trans hk1
      have HN := Lib.hid hn1
      have ilt : (j : Int) < (n1 : Int) := by omega
      clear hk0 hk1 hK0 hN hn1
      by_cases k0 : K0 = 0
      · subst k0
        go_wp2_with fail
        refine (wnum hR).mono ?_
        rintro y w4 ⟨rfl, A4, n4, c4, hR4, ho4⟩
        have hb4 := hbr.trans (ho4.below hR.lie)
        have hQ4 := hQ.other ho4 hR.lie hne
        clear hbr hR hQ ho4
        go_wp2_with fail
        refine (rnum hQ4).mono ?_
        rintro y w5 ⟨rfl, k5, hQ5, ho5⟩
        have hb5 := hb4.trans (ho5.below hQ4.rd.lie)
        have hR5 := hR4.other ho5 hgq
        clear hb4 hQ4 hR4 ho5
        generalize l.drop (numR l e).2.1 = l5 at hR5 hQ5
        generalize (numR l e).2.2 = e5 at hR5 hQ5
        generalize (numR l e).1 = x5
        have cE := hQ5.rd.c2
        go_wp2
        go_quiet (first
          | exact Calls.quiet_of_same (wleft (hR5.drewN _))
          | exact Calls.quiet_of (rleft (hQ5.drewN _))
          | exact Calls.quiet_of_same (werr (hR5.drewN _))
          | exact Calls.quiet_of_same (law_num_same _ _)
          | exact Calls.quiet_of_same (wdone (hR5.drewN _))
          | exact Calls.quiet_of (rdone (hQ5.drewN _)))
        go_wp2
        go_roundw
        case rel => exact ⟨j + 1, A4, n4, c4, k5, l5, e5, by go_num, by omega, hR5.drewN _, hQ5.drewN _, below_drewN hb5 _⟩
        case measure => simp [intOf]; omega
      · have e0 : (K0 == 0) = false := by rw [beq_eq_false_iff_ne]; exact k0
        clear k0
        by_cases k1 : K0 = 1
        · subst k1
          clear e0
          go_wp2
          have hbq : Below V.heap.size V wr.drew := hbr.drew
          have hrq : Rdr wr.drew V.heap.size g A' n' c' l e := hR.drewN 1
          have hqq : RAt wr.drew V.heap.size q A0 n0 c0 b k l e := hQ.drewN 1
          obtain ⟨wq, hwq⟩ : ∃ wq, wq = wr.drew := ⟨_, rfl⟩
          clear hbr hR hQ
          refine wp_region_held_drew (S := fun W => Below V.heap.size V W) (by kernel_rfl) hbq (fun hHeld => ?_)
          rw [← hwq] at hbq hHeld hrq hqq ⊢
          clear hwq
          have UN := Lib.hid (wupto hrq N)
          refine wpAnyH_take (i := 0) (v := ?_) rfl (by kernel_rfl) (by kernel_rfl) (by kernel_rfl) (fun _ _ _ h => h) (Or.inl ⟨by rfl, ?_⟩) (by assumption) ?_
          rotate_left 1
          · (intro W hW; clear hW; go_simp; try with_reducible rfl)
          simp only [Act.put, List.getElem_toArray, List.getElem_cons_zero, List.setIfInBounds_toArray, List.set_cons_zero, List.set_cons_succ]
          refine wpAnyH_take (i := 1) (v := ?_) rfl (by kernel_rfl) (by kernel_rfl) (by kernel_rfl) (fun _ _ _ h => h) (Or.inl ⟨by rfl, ?_⟩) (by assumption) ?_
          rotate_left 1
          · (intro W hW; clear hW; go_simp; try with_reducible rfl)
          simp only [Act.put, List.getElem_toArray, List.getElem_cons_succ, List.getElem_cons_zero, List.setIfInBounds_toArray, List.set_cons_zero, List.set_cons_succ]
          refine wpAnyH_take (i := 2) (v := ?_) rfl (by kernel_rfl) (by kernel_rfl) (by kernel_rfl) (fun _ _ _ h => h) (Or.inl ⟨by rfl, ?_⟩) (by assumption) ?_
          rotate_left 1
          · (intro W hW; clear hW; go_simp; try with_reducible rfl)
          simp only [Act.put, List.getElem_toArray, List.getElem_cons_succ, List.getElem_cons_zero, List.setIfInBounds_toArray, List.set_cons_zero, List.set_cons_succ]
          refine wpAnyH_take (i := 3) (v := ?_) rfl (by kernel_rfl) (by kernel_rfl) (by kernel_rfl) (fun _ _ _ h => h) (Or.inl ⟨by rfl, ?_⟩) (by assumption) ?_
          rotate_left 1
          · (intro W hW; clear hW; go_simp; try with_reducible rfl)
          simp only [Act.put, List.getElem_toArray, List.getElem_cons_succ, List.getElem_cons_zero, List.setIfInBounds_toArray, List.set_cons_zero, List.set_cons_succ]
          refine wpAnyH_take (i := 4) (v := ?_) rfl (by kernel_rfl) (by kernel_rfl) (by kernel_rfl) (fun _ _ _ h => h) (Or.inl ⟨by rfl, ?_⟩) (by assumption) ?_
          rotate_left 1
          · (intro W hW; clear hW; go_simp; try with_reducible rfl)
          simp only [Act.put, List.getElem_toArray, List.getElem_cons_succ, List.getElem_cons_zero, List.setIfInBounds_toArray, List.set_cons_zero, List.set_cons_succ]
          refine wpAnyH_take (i := 5) (v := ?_) rfl (by kernel_rfl) (by kernel_rfl) (by kernel_rfl) (fun _ _ _ h => h) (Or.inl ⟨by rfl, ?_⟩) (by assumption) ?_
          rotate_left 1
          · (intro W hW; have t := HN.out W hW; go_simp; try with_reducible rfl)
          simp only [Act.put, List.getElem_toArray, List.getElem_cons_succ, List.getElem_cons_zero, List.setIfInBounds_toArray, List.set_cons_zero, List.set_cons_succ]
          refine wpAnyH_take (i := 7) (v := ?_) rfl (by kernel_rfl) (by kernel_rfl) (by kernel_rfl) (fun _ _ _ h => h) (Or.inl ⟨by rfl, ?_⟩) (by assumption) ?_
          rotate_left 1
          · (intro W hW; clear hW; go_simp; try with_reducible rfl)
          simp only [Act.put, List.getElem_toArray, List.getElem_cons_succ, List.getElem_cons_zero, List.setIfInBounds_toArray, List.set_cons_zero, List.set_cons_succ]
          refine wpAnyH_take (i := 8) (v := ?_) rfl (by kernel_rfl) (by kernel_rfl) (by kernel_rfl) (fun _ _ _ h => h) (Or.inl ⟨by rfl, ?_⟩) (by assumption) ?_
          rotate_left 1
          · (intro W hW; clear hW; go_simp; try with_reducible rfl)
          simp only [Act.put, List.getElem_toArray, List.getElem_cons_succ, List.getElem_cons_zero, List.setIfInBounds_toArray, List.set_cons_zero, List.set_cons_succ]
          refine wpAnyH_take (i := 9) (v := ?_) rfl (by kernel_rfl) (by kernel_rfl) (by kernel_rfl) (fun _ _ _ h => h) (Or.inl ⟨by rfl, ?_⟩) (by assumption) ?_
          rotate_left 1
          · (intro W hW; clear hW; go_simp; try with_reducible rfl)
          simp only [Act.put, List.getElem_toArray, List.getElem_cons_succ, List.getElem_cons_zero, List.setIfInBounds_toArray, List.set_cons_zero, List.set_cons_succ]
          refine wpAnyH_take (i := 10) (v := ?_) rfl (by kernel_rfl) (by kernel_rfl) (by kernel_rfl) (fun _ _ _ h => h) (Or.inl ⟨by rfl, ?_⟩) (by assumption) ?_
          rotate_left 1
          · (intro W hW; clear hW; go_simp; try with_reducible rfl)
          simp only [Act.put, List.getElem_toArray, List.getElem_cons_succ, List.getElem_cons_zero, List.setIfInBounds_toArray, List.set_cons_zero, List.set_cons_succ]
          refine wpAnyH_take (i := 11) (v := ?_) rfl (by kernel_rfl) (by kernel_rfl) (by kernel_rfl) (fun _ _ _ h => h) (Or.inl ⟨by rfl, ?_⟩) (by assumption) ?_
          rotate_left 1
          · (intro W hW; clear hW; go_simp; try with_reducible rfl)
          simp only [Act.put, List.getElem_toArray, List.getElem_cons_succ, List.getElem_cons_zero, List.setIfInBounds_toArray, List.set_cons_zero, List.set_cons_succ]
          refine wpAnyH_take (i := 12) (v := ?_) rfl (by kernel_rfl) (by kernel_rfl) (by kernel_rfl) (fun _ _ _ h => h) (Or.inl ⟨by rfl, ?_⟩) (by assumption) ?_
          rotate_left 1
          · (intro W hW; have t := HN.out W hW; go_simp; try with_reducible rfl)
          simp only [Act.put, List.getElem_toArray, List.getElem_cons_succ, List.getElem_cons_zero, List.setIfInBounds_toArray, List.set_cons_zero, List.set_cons_succ]
          refine wpAnyH_ready (rs := [6]) (by kernel_rfl) (by simp) ?_
          refine AllReadyH.cons rfl (fun K hK => ?_) AllReadyH.nil
          go_simp
          refine UN.out.mono ?_
          rintro y w4 ⟨rfl, A4, n4, c4, hR4, ho4⟩
          have hb4 := hbq.trans (ho4.below hrq.lie)
          have hQ4 := hqq.other ho4 hrq.lie hne
          have UR := Lib.hid (rupto hQ4 N)
          clear hqq hbq ho4 hrq
          go_wp2_with fail
          refine hK.out _ _ (hb4) (fun hHeld => ?_)
          clear hK K
          try simp only [Act.put, List.getElem_toArray, List.getElem_cons_succ, List.getElem_cons_zero, List.setIfInBounds_toArray, List.set_cons_zero, List.set_cons_succ]
          refine wpAnyH_ready (rs := [13]) (by kernel_rfl) (by simp) ?_
          refine AllReadyH.cons rfl (fun K hK => ?_) AllReadyH.nil
          go_simp
          refine UR.out.mono ?_
          rintro y w5 ⟨rfl, k5, hQ5, ho5⟩
          have hb5 := hb4.trans (ho5.below hQ4.rd.lie)
          have hR5 := hR4.other ho5 hgq
          clear hb4 hQ4 hR4 ho5
          go_wp2_with fail
          refine hK.out _ _ (hb5) (fun hHeld => ?_)
          clear hK K
          try simp only [Act.put, List.getElem_toArray, List.getElem_cons_succ, List.getElem_cons_zero, List.setIfInBounds_toArray, List.set_cons_zero, List.set_cons_succ]
          refine wpAnyH_take (i := 14) (v := ?_) rfl (by kernel_rfl) (by kernel_rfl) (by kernel_rfl) (fun _ _ _ h => h) (Or.inl ⟨by rfl, ?_⟩) (by assumption) ?_
          rotate_left 1
          · (intro W hW; clear hW; go_simp; try with_reducible rfl)
          simp only [Act.put, List.getElem_toArray, List.getElem_cons_succ, List.getElem_cons_zero, List.setIfInBounds_toArray, List.set_cons_zero, List.set_cons_succ]
          refine wpAnyH_done (by kernel_rfl) ?_ _
          generalize l.drop (upR N l e).2.1 = l5 at hR5 hQ5
          generalize (upR N l e).2.2 = e5 at hR5 hQ5
          generalize (upR N l e).1 = x5
          have cE := hQ5.rd.c2
          go_wp2
          go_quiet (first
            | exact Calls.quiet_of_same (wleft (hR5.drewN _))
            | exact Calls.quiet_of (rleft (hQ5.drewN _))
            | exact Calls.quiet_of_same (werr (hR5.drewN _))
            | exact Calls.quiet_of_same (law_num_same _ _)
            | exact Calls.quiet_of_same (wdone (hR5.drewN _))
            | exact Calls.quiet_of (rdone (hQ5.drewN _)))
          go_wp2
          go_roundw
          case rel => exact ⟨j + 1, A4, n4, c4, k5, l5, e5, by go_num, by omega, hR5.drewN _, hQ5.drewN _, below_drewN hb5 _⟩
          case measure => simp [intOf]; omega
        · have e1 : (K0 == 1) = false := by rw [beq_eq_false_iff_ne]; exact k1
          clear k1
          by_cases k2 : K0 = 2
          · subst k2
            clear e0 e1
            go_wp2
            have hbq : Below V.heap.size V wr.drew := hbr.drew
            have hrq : Rdr wr.drew V.heap.size g A' n' c' l e := hR.drewN 1
            have hqq : RAt wr.drew V.heap.size q A0 n0 c0 b k l e := hQ.drewN 1
            obtain ⟨wq, hwq⟩ : ∃ wq, wq = wr.drew := ⟨_, rfl⟩
            clear hbr hR hQ
            refine wp_region_held_drew (S := fun W => Below V.heap.size V W) (by kernel_rfl) hbq (fun hHeld => ?_)
            rw [← hwq] at hbq hHeld hrq hqq ⊢
            clear hwq
            have UN := Lib.hid (wtext hrq N)
            refine wpAnyH_take (i := 0) (v := ?_) rfl (by kernel_rfl) (by kernel_rfl) (by kernel_rfl) (fun _ _ _ h => h) (Or.inl ⟨by rfl, ?_⟩) (by assumption) ?_
            rotate_left 1
            · (intro W hW; clear hW; go_simp; try with_reducible rfl)
            simp only [Act.put, List.getElem_toArray, List.getElem_cons_zero, List.setIfInBounds_toArray, List.set_cons_zero, List.set_cons_succ]
            refine wpAnyH_take (i := 1) (v := ?_) rfl (by kernel_rfl) (by kernel_rfl) (by kernel_rfl) (fun _ _ _ h => h) (Or.inl ⟨by rfl, ?_⟩) (by assumption) ?_
            rotate_left 1
            · (intro W hW; clear hW; go_simp; try with_reducible rfl)
            simp only [Act.put, List.getElem_toArray, List.getElem_cons_succ, List.getElem_cons_zero, List.setIfInBounds_toArray, List.set_cons_zero, List.set_cons_succ]
            refine wpAnyH_take (i := 2) (v := ?_) rfl (by kernel_rfl) (by kernel_rfl) (by kernel_rfl) (fun _ _ _ h => h) (Or.inl ⟨by rfl, ?_⟩) (by assumption) ?_
            rotate_left 1
            · (intro W hW; clear hW; go_simp; try with_reducible rfl)
            simp only [Act.put, List.getElem_toArray, List.getElem_cons_succ, List.getElem_cons_zero, List.setIfInBounds_toArray, List.set_cons_zero, List.set_cons_succ]
            refine wpAnyH_take (i := 3) (v := ?_) rfl (by kernel_rfl) (by kernel_rfl) (by kernel_rfl) (fun _ _ _ h => h) (Or.inl ⟨by rfl, ?_⟩) (by assumption) ?_
            rotate_left 1
            · (intro W hW; clear hW; go_simp; try with_reducible rfl)
            simp only [Act.put, List.getElem_toArray, List.getElem_cons_succ, List.getElem_cons_zero, List.setIfInBounds_toArray, List.set_cons_zero, List.set_cons_succ]
            refine wpAnyH_take (i := 4) (v := ?_) rfl (by kernel_rfl) (by kernel_rfl) (by kernel_rfl) (fun _ _ _ h => h) (Or.inl ⟨by rfl, ?_⟩) (by assumption) ?_
            rotate_left 1
            · (intro W hW; clear hW; go_simp; try with_reducible rfl)
            simp only [Act.put, List.getElem_toArray, List.getElem_cons_succ, List.getElem_cons_zero, List.setIfInBounds_toArray, List.set_cons_zero, List.set_cons_succ]
            refine wpAnyH_take (i := 5) (v := ?_) rfl (by kernel_rfl) (by kernel_rfl) (by kernel_rfl) (fun _ _ _ h => h) (Or.inl ⟨by rfl, ?_⟩) (by assumption) ?_
            rotate_left 1
            · (intro W hW; have t := HN.out W hW; go_simp; try with_reducible rfl)
            simp only [Act.put, List.getElem_toArray, List.getElem_cons_succ, List.getElem_cons_zero, List.setIfInBounds_toArray, List.set_cons_zero, List.set_cons_succ]
            refine wpAnyH_take (i := 7) (v := ?_) rfl (by kernel_rfl) (by kernel_rfl) (by kernel_rfl) (fun _ _ _ h => h) (Or.inl ⟨by rfl, ?_⟩) (by assumption) ?_
            rotate_left 1
            · (intro W hW; clear hW; go_simp; try with_reducible rfl)
            simp only [Act.put, List.getElem_toArray, List.getElem_cons_succ, List.getElem_cons_zero, List.setIfInBounds_toArray, List.set_cons_zero, List.set_cons_succ]
            refine wpAnyH_take (i := 8) (v := ?_) rfl (by kernel_rfl) (by kernel_rfl) (by kernel_rfl) (fun _ _ _ h => h) (Or.inl ⟨by rfl, ?_⟩) (by assumption) ?_
            rotate_left 1
            · (intro W hW; clear hW; go_simp; try with_reducible rfl)
            simp only [Act.put, List.getElem_toArray, List.getElem_cons_succ, List.getElem_cons_zero, List.setIfInBounds_toArray, List.set_cons_zero, List.set_cons_succ]
            refine wpAnyH_take (i := 9) (v := ?_) rfl (by kernel_rfl) (by kernel_rfl) (by kernel_rfl) (fun _ _ _ h => h) (Or.inl ⟨by rfl, ?_⟩) (by assumption) ?_
            rotate_left 1
            · (intro W hW; clear hW; go_simp; try with_reducible rfl)
            simp only [Act.put, List.getElem_toArray, List.getElem_cons_succ, List.getElem_cons_zero, List.setIfInBounds_toArray, List.set_cons_zero, List.set_cons_succ]
            refine wpAnyH_take (i := 10) (v := ?_) rfl (by kernel_rfl) (by kernel_rfl) (by kernel_rfl) (fun _ _ _ h => h) (Or.inl ⟨by rfl, ?_⟩) (by assumption) ?_
            rotate_left 1
            · (intro W hW; clear hW; go_simp; try with_reducible rfl)
            simp only [Act.put, List.getElem_toArray, List.getElem_cons_succ, List.getElem_cons_zero, List.setIfInBounds_toArray, List.set_cons_zero, List.set_cons_succ]
            refine wpAnyH_take (i := 11) (v := ?_) rfl (by kernel_rfl) (by kernel_rfl) (by kernel_rfl) (fun _ _ _ h => h) (Or.inl ⟨by rfl, ?_⟩) (by assumption) ?_
            rotate_left 1
            · (intro W hW; clear hW; go_simp; try with_reducible rfl)
            simp only [Act.put, List.getElem_toArray, List.getElem_cons_succ, List.getElem_cons_zero, List.setIfInBounds_toArray, List.set_cons_zero, List.set_cons_succ]
            refine wpAnyH_take (i := 12) (v := ?_) rfl (by kernel_rfl) (by kernel_rfl) (by kernel_rfl) (fun _ _ _ h => h) (Or.inl ⟨by rfl, ?_⟩) (by assumption) ?_
            rotate_left 1
            · (intro W hW; have t := HN.out W hW; go_simp; try with_reducible rfl)
            simp only [Act.put, List.getElem_toArray, List.getElem_cons_succ, List.getElem_cons_zero, List.setIfInBounds_toArray, List.set_cons_zero, List.set_cons_succ]
            refine wpAnyH_ready (rs := [6]) (by kernel_rfl) (by simp) ?_
            refine AllReadyH.cons rfl (fun K hK => ?_) AllReadyH.nil
            go_simp
            refine UN.out.mono ?_
            rintro y w4 ⟨rfl, A4, n4, c4, hR4, ho4⟩
            have hb4 := hbq.trans (ho4.below hrq.lie)
            have hQ4 := hqq.other ho4 hrq.lie hne
            have UR := Lib.hid (rtext hQ4 N)
            clear hqq hbq ho4 hrq
            go_wp2_with fail
            refine hK.out _ _ (hb4) (fun hHeld => ?_)
            clear hK K
            try simp only [Act.put, List.getElem_toArray, List.getElem_cons_succ, List.getElem_cons_zero, List.setIfInBounds_toArray, List.set_cons_zero, List.set_cons_succ]
            refine wpAnyH_ready (rs := [13]) (by kernel_rfl) (by simp) ?_
            refine AllReadyH.cons rfl (fun K hK => ?_) AllReadyH.nil
            go_simp
            refine UR.out.mono ?_
            rintro y w5 ⟨rfl, k5, hQ5, ho5⟩
            have hb5 := hb4.trans (ho5.below hQ4.rd.lie)
            have hR5 := hR4.other ho5 hgq
            clear hb4 hQ4 hR4 ho5
            go_wp2_with fail
            refine hK.out _ _ (hb5) (fun hHeld => ?_)
            clear hK K
            try simp only [Act.put, List.getElem_toArray, List.getElem_cons_succ, List.getElem_cons_zero, List.setIfInBounds_toArray, List.set_cons_zero, List.set_cons_succ]
            refine wpAnyH_take (i := 14) (v := ?_) rfl (by kernel_rfl) (by kernel_rfl) (by kernel_rfl) (fun _ _ _ h => h) (Or.inl ⟨by rfl, ?_⟩) (by assumption) ?_
            rotate_left 1
            · (intro W hW; clear hW; go_simp; try with_reducible rfl)
            simp only [Act.put, List.getElem_toArray, List.getElem_cons_succ, List.getElem_cons_zero, List.setIfInBounds_toArray, List.set_cons_zero, List.set_cons_succ]
            refine wpAnyH_done (by kernel_rfl) ?_ _
            generalize l.drop (txR N l e).2.1 = l5 at hR5 hQ5
            generalize (txR N l e).2.2 = e5 at hR5 hQ5
            generalize (txR N l e).1 = x5
            have cE := hQ5.rd.c2
            go_wp2
            go_quiet (first
              | exact Calls.quiet_of_same (wleft (hR5.drewN _))
              | exact Calls.quiet_of (rleft (hQ5.drewN _))
              | exact Calls.quiet_of_same (werr (hR5.drewN _))
              | exact Calls.quiet_of_same (law_num_same _ _)
              | exact Calls.quiet_of_same (wdone (hR5.drewN _))
              | exact Calls.quiet_of (rdone (hQ5.drewN _)))
            go_wp2
            go_roundw
            case rel => exact ⟨j + 1, A4, n4, c4, k5, l5, e5, by go_num, by omega, hR5.drewN _, hQ5.drewN _, below_drewN hb5 _⟩
            case measure => simp [intOf]; omega
          · have e2 : (K0 == 2) = false := by rw [beq_eq_false_iff_ne]; exact k2
            clear k2
            by_cases k3 : K0 = 3
            · subst k3
              clear e0 e1 e2
              have hNr := HN.out _ hbr
              go_wp2_with fail
              refine (wfail hR N).mono ?_
              rintro y w4 ⟨rfl, A4, n4, c4, hR4, ho4⟩
              have hb4 := hbr.trans (ho4.below hR.lie)
              have hQ4 := hQ.other ho4 hR.lie hne
              clear hbr hR hQ ho4
              have hN4 := HN.out _ hb4
              go_wp2_with fail
              refine (rfail hQ4 N).mono ?_
              rintro y w5 ⟨rfl, k5, hQ5, ho5⟩
              have hb5 := hb4.trans (ho5.below hQ4.rd.lie)
              have hR5 := hR4.other ho5 hgq
              clear hb4 hQ4 hR4 ho5
              generalize failR e N = e5 at hR5 hQ5
              have cE := hQ5.rd.c2
              go_wp2
              go_quiet (first
                | exact Calls.quiet_of_same (wleft (hR5.drewN _))
                | exact Calls.quiet_of (rleft (hQ5.drewN _))
                | exact Calls.quiet_of_same (werr (hR5.drewN _))
                | exact Calls.quiet_of_same (law_num_same _ _)
                | exact Calls.quiet_of_same (wdone (hR5.drewN _))
                | exact Calls.quiet_of (rdone (hQ5.drewN _)))
              go_wp2
              go_roundw
              case rel => exact ⟨j + 1, A4, n4, c4, k5, l, e5, by go_num, by omega, hR5.drewN _, hQ5.drewN _, below_drewN hb5 _⟩
              case measure => simp [intOf]; omega
            · have e3 : (K0 == 3) = false := by rw [beq_eq_false_iff_ne]; exact k3
              clear k3
              have cE := hQ.rd.c2
              go_wp2
              go_quiet (first
                | exact Calls.quiet_of_same (wleft (hR.drewN _))
                | exact Calls.quiet_of (rleft (hQ.drewN _))
                | exact Calls.quiet_of_same (werr (hR.drewN _))
                | exact Calls.quiet_of_same (law_num_same _ _)
                | exact Calls.quiet_of_same (wdone (hR.drewN _))
                | exact Calls.quiet_of (rdone (hQ.drewN _)))
              go_wp2
              go_roundw
              case rel => exact ⟨j + 1, A', n', c', k, l, e, by go_num, by omega, hR.drewN _, hQ.drewN _, below_drewN hbr _⟩
              case measure => simp [intOf]; omega
    · have hHL := HL.out.keep (w' := wr) (fun p hp => hbr.cell hp)
      have hH0 := HR0.out.keep (w' := wr) (fun p hp => hbr.cell hp)
      have hsr := hbr.size
      go_wp2_with fail
      refine (stays_any gl n0 cl A0 c0 b wr (hHL.more hsr) (hH0.more hsr) HN.out hcl (by omega)).mono ?_
      rintro y w6 ⟨rfl, kd, rfl⟩
      have hb6 := below_drewN hbr kd
      obtain ⟨w6, hw6⟩ : ∃ w6, w6 = wr.drewN kd := ⟨_, rfl⟩
      rw [← hw6] at hb6 ⊢
      clear hw6 hHL hH0 hR hQ
      go_wp2_with (go_at_call 11; (with_reducible refine (knows_any _).mono ?_); rintro y w7 ⟨rfl, hb7⟩)
      go_ret
      exact ⟨rfl, hbV.trans ((hb6.trans (hb7.mono hb6.size)).mono hV)⟩
end Go.Proofs.Ytgbgbkfbiebjgaa
