/- The law BorderWhole. -/
import Derived.Test.YtbbnojfecmocgaaK21
import Derived.Test.YtbbnojfecmocgaaK33
import Derived.Test.YtbbnojfecmocgaaK35
import Derived.Test.YtbbnojfecmocgaaK44
import Derived.Deep.Slices
import Derived.ChangeSame
import Derived.Deep.Fields
namespace Go.Proofs.Ytbbnojfecmocgaa
open Go.RowKit
set_option linter.unusedVariables false
set_option linter.unusedSimpArgs false
theorem wrap_in {k : Int} (h : 1 ≤ k ∧ k ≤ 16) (x y : Int) : hasB k (x % sd k) (y % sd k) = true := by
  have h1 := sd_pos k
  have h2 := sd_yes ((rgt_iff k).2 h)
  rw [hasB_iff, ← h2]
  exact ⟨Int.emod_nonneg _ (by omega), Int.emod_lt_of_pos _ h1, Int.emod_nonneg _ (by omega), Int.emod_lt_of_pos _ h1⟩
theorem tiles_nodup {t : Tr} (hh : t.high ≤ 32) : (t.tiles 0 0).Nodup := by
  refine (Tr.tiles_pair t 0 0 fine_root (by omega)).imp ?_
  rintro s u ⟨h, _⟩ rfl
  have z : ∀ a : Int, cmpI a a = 0 := fun a => by unfold cmpI; simp
  have : cmpP s.d s.b s.d s.b = 0 := by unfold cmpP; simp [z]
  omega
set_option maxRecDepth 100000 in
set_option maxHeartbeats 12800000 in
theorem bwhole_walk {Obj : (Nat → Prop) → World → Value → Int → Tr → Prop} (P : TilQ Obj) (k x y : Int) {B : Nat} {v : Value} {A : List Ac} (w : World) (hL : LentE encA 4 B w v A) (hB : B ≤ w.heap.size) :
    Calls Try.prog 3 #[.int .i64 k, v, .agg #[.int .i64 x, .int .i64 y]] w fun e w' => e = .returned (.bool true) ∧ Below w.heap.size w w' := by
  have k1 := tmod_bd k 16 (by decide)
  have k2 := tmod_pos k 16 (by decide)
  obtain ⟨R, hR⟩ : ∃ R, k % 16 = R := ⟨_, rfl⟩
  have k3 : 0 ≤ R ∧ R < 16 := by omega
  rw [hR] at k2
  clear hR
  obtain ⟨K, hK⟩ : ∃ K, 1 + R = K := ⟨_, rfl⟩
  have hKM : 1 ≤ K ∧ K ≤ 16 := by omega
  have HKM := Lib.hid hKM
  have HRG := Lib.hid ((rgt_iff K).2 hKM)
  have hin := wrap_in hKM x y
  obtain ⟨X, hX⟩ : ∃ X, x % sd K = X := ⟨_, rfl⟩
  obtain ⟨Y, hY⟩ : ∃ Y, y % sd K = Y := ⟨_, rfl⟩
  rw [hX, hY] at hin
  have HIN := Lib.hid hin
  have HX := Lib.hid hX
  have HY := Lib.hid hY
  clear hX hY hin
  obtain ⟨w0, hw0⟩ : ∃ w0, w0 = (w.alloc (.cells #[.int .i64 x, .int .i64 y] 24)).alloc (.cells #[.int .i64 K] 26) := ⟨_, rfl⟩
  have hs : Since w w0 := by rw [hw0]; exact ((Since.refl w).alloc _).alloc _
  have bc : Whole w0 (w.heap.size) 24 #[.int .i64 x, .int .i64 y] := by rw [hw0]; exact (Whole.new w _ _).alloc _
  have bt : Whole w0 (w.heap.size + 1) 26 #[.int .i64 K] := by rw [hw0]; exact (Whole.new (w.alloc _) _ _).at_ (by simp)
  have HW := Lib.hid hw0
  have HL0 := Lib.hid (hL.since hs hB)
  have hB0 : B ≤ w0.heap.size := Nat.le_trans hB hs.size_
  clear hw0 hL hKM
  go_enter Try.func3, Try.ntmps3
  go_wp2_with fail
  rw [← HW.out]
  go_wp2_with (first | (go_at_call 5; (with_reducible refine (lawWhole_any P HRG.out _ HL0.out hB0).mono ?_); rintro e w1 ⟨g, F, t, rfl, hO, hgp, hF, hb1⟩; (have hs1 : Since w0 w1 := hb1)) | (go_at_call 6; (with_reducible refine (knows6 _).mono ?_); rintro e w2 ⟨rfl, hb2⟩; (have hs2 : Since w0 w2 := Since.trans hs1 hb2); (have hO2 := P.since hO (show Since w1 w2 from hb2))) | (go_at_call 7; (with_reducible refine (P.list hO2).mono ?_); rintro e w3 ⟨va3, rfl, hrow, hb3⟩; (have hs3 : Since w0 w3 := Since.trans hs2 hb3); (have e0 := (Since.whole hs3 bc).cell 0); (have e1 := (Since.whole hs3 bc).cell 1); (have e2 := (Since.whole hs3 bt).cell 0)) | (go_at_call 8; (with_reducible refine (wrap_at HX.out HY.out _).mono ?_); rintro e w4 ⟨rfl, hb4⟩; (have hs4 : Since w0 w4 := Since.trans hs3 hb4); (have f0 := (Since.whole hs4 bc).cell 0); (have f1 := (Since.whole hs4 bc).cell 1); (have f2 := (Since.whole hs4 bc).frozen 0); (have f3 := (Since.whole hs4 bc).frozen 1)))
  obtain ⟨wB, hwB⟩ : ∃ wB, wB = (w4.setCell ⟨w.heap.size, 0, none⟩ (.int .i64 X)).setCell ⟨w.heap.size, 1, none⟩ (.int .i64 Y) := ⟨_, rfl⟩
  have hw0s : w0.heap.size = w.heap.size + 2 := by rw [HW.out]; simp
  have bc5 : Whole wB w.heap.size 24 #[.int .i64 X, .int .i64 Y] := by rw [hwB]; exact ((Since.whole hs4 bc).set_ 0 _).set_ 1 _
  have bt5 : Whole wB (w.heap.size + 1) 26 #[.int .i64 K] := by rw [hwB]; exact ((Since.whole hs4 bt).far (p := ⟨w.heap.size, 0, none⟩) (show w.heap.size + 1 ≠ w.heap.size by omega) _).far (p := ⟨w.heap.size, 1, none⟩) (show w.heap.size + 1 ≠ w.heap.size by omega) _
  have hO5 : Obj F wB (.pointer (some ⟨g, 0, none⟩)) K t := by rw [hwB]; exact P.keep (P.since hO2 (Since.trans (show Since w2 w3 from hb3) hb4)) (fun b hb => heap_set2 _ _ _ _ _ (by have := hF b hb; omega))
  have hbase : w.heap.size < w2.heap.size := by have := hs2.size_; omega
  have hrow5 : RowE encT 3 wB w2.heap.size 37 va3 (t.tiles 0 0) := by rw [hwB]; exact ((RowE.since hrow hb4).far (p := ⟨w.heap.size, 0, none⟩) hbase _).far (p := ⟨w.heap.size, 1, none⟩) hbase _
  have hbwB : Below w.heap.size w wB := by rw [hwB]; exact Below.setCell (Below.setCell (hs.trans hs4) (p := ⟨w.heap.size, 0, none⟩) (Nat.le_refl _) _) (p := ⟨w.heap.size, 1, none⟩) (Nat.le_refl _) _
  have hli := hrow5.list encT_len
  obtain ⟨T, hT⟩ : ∃ T, t.tiles 0 0 = T := ⟨_, rfl⟩
  have hok := (P.ok hO5).2
  have hclo := fun s (hs : s ∈ T) => Tr.closer HKM.out hok.1 hgp HIN.out (hT ▸ hs)
  have hnea := Tr.nearest HKM.out hok.1 hgp HIN.out
  have hcon := fun s u (hs : s ∈ T) (hu : u ∈ T) => Tr.all_conn HKM.out hok.1 hgp (hT ▸ hs) (hT ▸ hu)
  have htok := fun s (hs : s ∈ T) => Tr.tile_ok HKM.out hok.1 (t := t) (hT ▸ hs)
  have hnd := tiles_nodup (t := t) (by have := HKM.out; omega)
  have hln := hok.2
  have hfin := P.find X Y hO5
  rw [hT] at hli hclo hnea hcon hnd hln hfin
  have hne : T ≠ [] := by
    obtain ⟨s, hs, _⟩ := Tr.has_ex (t := t) (k := K) (x := X) (y := Y) hgp
    rw [hT] at hs
    exact List.ne_nil_of_mem hs
  have hne0 : 0 < T.length := List.length_pos_iff.2 hne
  have HCO := Lib.hid hclo
  have HNE := Lib.hid hnea
  have HFI := Lib.hid hO5
  have HTT := Lib.hid hT
  have HCN := Lib.hid (fun W (hW : Since wB W) => connected_any (k := K) W (hli.since hW (Nat.le_refl _)) hW.size_ hln hne0 hnd (fun u hu => hcon _ u (List.getElem_mem hne0) hu) htok)
  have HL5 := Lib.hid hli
  obtain ⟨a3, cap3, rfl, hform⟩ := hli.form
  have c0 := box_cell bc5 0 (.int .i64 X) rfl
  have c1 := box_cell bc5 1 (.int .i64 Y) rfl
  have c2 := box_cell bt5 0 (.int .i64 K) rfl
  rw [← hwB]
  clear hwB bc bt bc5 bt5 hO hO2 hgp hb1 hs1 hs2 hs3 hs4 hb2 hb3 hb4 hrow hrow5 hclo hnea hcon htok hnd hfin hne hO5 hok hF hbase e0 e1 e2 f0 f1 f2 f3 hT hli hB0 hs k1 k2 k3
  go_loopw [10] (fun i wr => ∃ m : Nat, i = .int .i64 m ∧ m ≤ T.length ∧ Since wB wr) (fun i _ => T.length - (intOf i).toNat)
  case atStart => exact ⟨0, rfl, Nat.zero_le _, Since.refl _⟩
  case round =>
    obtain ⟨m, rfl, hm, hs⟩ := hrel
    have hm100 : (m : Int) ≤ 100 := by omega
    by_cases hlt : m < T.length
    · obtain ⟨b, rfl, hb⟩ := hform m hlt
      have hc := HCO.out T[m] (List.getElem_mem hlt)
      obtain ⟨⟨td, tb, tw⟩, hr⟩ : ∃ ρ, T[m] = ρ := ⟨_, rfl⟩
      rw [hr] at hc
      have t1 : ∀ W, Since wB W → W.cell? ⟨b, m * 3, none⟩ = some (.int .i64 td) := fun W hW => by
        have := (HL5.out.since hW (Nat.le_refl _)).at_ hlt 0 (u := .int .i64 td) (by rw [hr]; rfl)
        rwa [Nat.add_zero] at this
      have t2 : ∀ W, Since wB W → W.cell? ⟨b, m * 3 + 1, none⟩ = some (.int .i64 tb) := fun W hW => (HL5.out.since hW (Nat.le_refl _)).at_ hlt 1 (by rw [hr]; rfl)
      have d1 : decide ((m : Int) < T.length) = true := decide_eq_true (by omega)
      dsimp only at hc
      obtain ⟨D, hD⟩ : ∃ D, aptZ K td tb X Y = D := ⟨_, rfl⟩
      rw [hD] at hc
      have HD := Lib.hid hD
      have HCL := Lib.hid (fun W (hW : Since wB W) => closer_any (k := K) (d := td) (b := tb) (x := X) (y := Y) W (HL5.out.since hW (Nat.le_refl _)) hW.size_ hln)
      have hsd := hs.drew
      obtain ⟨hD0, hc⟩ := hc
      have e1 : decide (D < 0) = false := decide_eq_false (by omega)
      clear hD hform
      rcases hc with ⟨hz, hcl⟩ | ⟨hp, u, hcl, hlt2, hbs⟩
      · subst hz
        rw [hcl] at HCL
        simp only [tlV] at HCL
        clear hcl
        go_upto_region 11 with fail
        go_region_held3 (fun W => Since wB W) (first | assumption | exact Since.drew (by assumption)) ((first | (go_at_call 9; (with_reducible refine (Calls.since (by assumption) (bApart_at HD.out _)).mono ?_); rintro e w6 ⟨rfl, hb6⟩)))
        have v1 := fun W (h : Since w6 W) => t1 W (Since.trans hb6 h); have v2 := fun W (h : Since w6 W) => t2 W (Since.trans hb6 h); have v3 := fun W (h : Since w6 W) => c0 W (Since.trans hb6 h); have v4 := fun W (h : Since w6 W) => c1 W (Since.trans hb6 h); have v5 := fun W (h : Since w6 W) => c2 W (Since.trans hb6 h); have hsr := Since.refl w6; have hsd := hsr.drew; clear t1 t2 c0 c1 c2
        go_upto_region 12 with fail
        obtain ⟨wq, hwq⟩ : ∃ wq, wq = w6.drew := ⟨_, rfl⟩
        refine wp_region_held_drew (S := fun W => Since w6 W) (by kernel_rfl) hsd (fun hHeld => ?_)
        rw [← hwq] at hHeld ⊢
        have hq : Since w6 wq := hHeld
        clear hwq hsd
        refine wpAnyH_take (i := 0) (v := ?_) rfl (by kernel_rfl) (by kernel_rfl) (by kernel_rfl) (fun _ _ _ h => h) (Or.inl ⟨by rfl, ?_⟩) (by assumption) ?_
        rotate_left 1
        · (intro W hW; skip; go_simp; try with_reducible rfl)
        simp only [Act.put, List.getElem_toArray, List.getElem_cons_zero, List.setIfInBounds_toArray, List.set_cons_zero, List.set_cons_succ]
        refine wpAnyH_take (i := 1) (v := ?_) rfl (by kernel_rfl) (by kernel_rfl) (by kernel_rfl) (fun _ _ _ h => h) (Or.inl ⟨by rfl, ?_⟩) (by assumption) ?_
        rotate_left 1
        · (intro W hW; clear hW; go_simp; try with_reducible rfl)
        simp only [Act.put, List.getElem_toArray, List.getElem_cons_succ, List.getElem_cons_zero, List.setIfInBounds_toArray, List.set_cons_zero, List.set_cons_succ]
        refine wpAnyH_take (i := 2) (v := ?_) rfl (by kernel_rfl) (by kernel_rfl) (by kernel_rfl) (fun _ _ _ h => h) (Or.inl ⟨by rfl, ?_⟩) (by assumption) ?_
        rotate_left 1
        · (intro W hW; clear hW; go_simp; try with_reducible rfl)
        simp only [Act.put, List.getElem_toArray, List.getElem_cons_succ, List.getElem_cons_zero, List.setIfInBounds_toArray, List.set_cons_zero, List.set_cons_succ]
        refine wpAnyH_take (i := 3) (v := ?_) rfl (by kernel_rfl) (by kernel_rfl) (by kernel_rfl) (fun _ _ _ h => h) (Or.inl ⟨by rfl, ?_⟩) (by assumption) ?_
        rotate_left 1
        · (intro W hW; clear hW; go_simp; try with_reducible rfl)
        simp only [Act.put, List.getElem_toArray, List.getElem_cons_succ, List.getElem_cons_zero, List.setIfInBounds_toArray, List.set_cons_zero, List.set_cons_succ]
        refine wpAnyH_take (i := 4) (v := ?_) rfl (by kernel_rfl) (by kernel_rfl) (by kernel_rfl) (fun _ _ _ h => h) (Or.inl ⟨by rfl, ?_⟩) (by assumption) ?_
        rotate_left 1
        · (intro W hW; clear hW; go_simp; try with_reducible rfl)
        simp only [Act.put, List.getElem_toArray, List.getElem_cons_succ, List.getElem_cons_zero, List.setIfInBounds_toArray, List.set_cons_zero, List.set_cons_succ]
        refine wpAnyH_take (i := 5) (v := ?_) rfl (by kernel_rfl) (by kernel_rfl) (by kernel_rfl) (fun _ _ _ h => h) (Or.inl ⟨by rfl, ?_⟩) (by assumption) ?_
        rotate_left 1
        · (intro W hW; clear hW; go_simp; try with_reducible rfl)
        simp only [Act.put, List.getElem_toArray, List.getElem_cons_succ, List.getElem_cons_zero, List.setIfInBounds_toArray, List.set_cons_zero, List.set_cons_succ]
        refine wpAnyH_take (i := 6) (v := ?_) rfl (by kernel_rfl) (by kernel_rfl) (by kernel_rfl) (fun _ _ _ h => h) (Or.inl ⟨by rfl, ?_⟩) (by assumption) ?_
        rotate_left 1
        · (intro W hW; skip; go_simp; try with_reducible rfl)
        simp only [Act.put, List.getElem_toArray, List.getElem_cons_succ, List.getElem_cons_zero, List.setIfInBounds_toArray, List.set_cons_zero, List.set_cons_succ]
        refine wpAnyH_take (i := 7) (v := ?_) rfl (by kernel_rfl) (by kernel_rfl) (by kernel_rfl) (fun _ _ _ h => h) (Or.inl ⟨by rfl, ?_⟩) (by assumption) ?_
        rotate_left 1
        · (intro W hW; skip; go_simp; try with_reducible rfl)
        simp only [Act.put, List.getElem_toArray, List.getElem_cons_succ, List.getElem_cons_zero, List.setIfInBounds_toArray, List.set_cons_zero, List.set_cons_succ]
        refine wpAnyH_ready (rs := [8, 12]) (by kernel_rfl) (by simp) ?_
        refine AllReadyH.cons rfl (fun K hK => ?_) (AllReadyH.cons rfl (fun K hK => ?_) AllReadyH.nil)
        · go_simp
          refine (HCL.out wq (Since.trans hb6 hq)).mono ?_
          rintro e wc0 ⟨rfl, hd0⟩
          have hc0 : Since w6 wc0 := Since.trans hq hd0
          go_wp2_with fail
          refine hK.out _ _ (hc0) (fun hHeld => ?_)
          clear hK K
          try simp only [Act.put, List.getElem_toArray, List.getElem_cons_succ, List.getElem_cons_zero, List.setIfInBounds_toArray, List.set_cons_zero, List.set_cons_succ]
          refine wpAnyH_take (i := 9) (v := ?_) rfl (by kernel_rfl) (by kernel_rfl) (by kernel_rfl) (fun _ _ _ h => h) (Or.inl ⟨by rfl, ?_⟩) (by assumption) ?_
          rotate_left 1
          · (intro W hW; clear hW; go_simp; try with_reducible rfl)
          simp only [Act.put, List.getElem_toArray, List.getElem_cons_succ, List.getElem_cons_zero, List.setIfInBounds_toArray, List.set_cons_zero, List.set_cons_succ]
          refine wpAnyH_take (i := 10) (v := ?_) rfl (by kernel_rfl) (by kernel_rfl) (by kernel_rfl) (fun _ _ _ h => h) (Or.inl ⟨by rfl, ?_⟩) (by assumption) ?_
          rotate_left 1
          · (intro W hW; clear hW; go_simp; try with_reducible rfl)
          simp only [Act.put, List.getElem_toArray, List.getElem_cons_succ, List.getElem_cons_zero, List.setIfInBounds_toArray, List.set_cons_zero, List.set_cons_succ]
          refine wpAnyH_take (i := 11) (v := ?_) rfl (by kernel_rfl) (by kernel_rfl) (by kernel_rfl) (fun _ _ _ h => h) (Or.inl ⟨by rfl, ?_⟩) (by assumption) ?_
          rotate_left 1
          · (intro W hW; clear hW; go_simp; try with_reducible rfl)
          simp only [Act.put, List.getElem_toArray, List.getElem_cons_succ, List.getElem_cons_zero, List.setIfInBounds_toArray, List.set_cons_zero, List.set_cons_succ]
          refine wpAnyH_ready (rs := [12]) (by kernel_rfl) (by simp) ?_
          refine AllReadyH.cons rfl (fun K hK => ?_) AllReadyH.nil
          go_simp
          have hgb : w6.heap.size ≤ wc0.heap.size := Since.size_ hc0
          refine hK.out _ _ ((Since.alloc hc0 _)) (fun hHeld => ?_)
          clear hK K
          try simp only [Act.put, List.getElem_toArray, List.getElem_cons_succ, List.getElem_cons_zero, List.setIfInBounds_toArray, List.set_cons_zero, List.set_cons_succ]
          refine wpAnyH_ready (rs := [13]) (by kernel_rfl) (by simp) ?_
          refine AllReadyH.cons rfl (fun K hK => ?_) AllReadyH.nil
          go_simp
          skip
          refine hK.out _ _ ((Since.alloc hc0 _)) (fun hHeld => ?_)
          clear hK K
          try simp only [Act.put, List.getElem_toArray, List.getElem_cons_succ, List.getElem_cons_zero, List.setIfInBounds_toArray, List.set_cons_zero, List.set_cons_succ]
          refine wpAnyH_take (i := 14) (v := ?_) rfl (by kernel_rfl) (by kernel_rfl) (by kernel_rfl) (fun _ _ _ h => h) (Or.inl ⟨by rfl, ?_⟩) (by assumption) ?_
          rotate_left 1
          · (intro W hW; clear hW; go_simp; try with_reducible rfl)
          simp only [Act.put, List.getElem_toArray, List.getElem_cons_succ, List.getElem_cons_zero, List.setIfInBounds_toArray, List.set_cons_zero, List.set_cons_succ]
          refine wpAnyH_done (by kernel_rfl) ?_ _
          obtain ⟨w5, hw5⟩ : ∃ w5, w5 = wc0.alloc (.cells #[.int .i64 0, .int .i64 0, .int .i64 0] 37) := ⟨_, rfl⟩
          have hS5 : Since w6 w5 := Since.named (Since.alloc hc0 _) hw5
          have hSl : Since wc0 w5 := Since.named (Since.alloc (Since.refl _) _) hw5
          have hN5 : Whole w5 wc0.heap.size 37 #[.int .i64 0, .int .i64 0, .int .i64 0] := (Whole.new wc0 _ _).named hw5
          obtain ⟨NB, hNB⟩ : ∃ NB, NB = wc0.heap.size := ⟨_, rfl⟩
          rw [← hw5, ← hNB]
          rw [← hNB] at hN5
          clear hHeld hw5 hNB
          have x1 := fun W (h : Since w5 W) => v1 W (Since.trans hS5 h)
          have x2 := fun W (h : Since w5 W) => v2 W (Since.trans hS5 h)
          have x3 := fun W (h : Since w5 W) => v3 W (Since.trans hS5 h)
          have x4 := fun W (h : Since w5 W) => v4 W (Since.trans hS5 h)
          have x5 := fun W (h : Since w5 W) => v5 W (Since.trans hS5 h)
          have hsr := Since.refl w5
          have hsd := hsr.drew
          have n0 := box_cell hN5 0 _ rfl
          have n1 := box_cell hN5 1 _ rfl
          have n2 := box_cell hN5 2 _ rfl
          clear v1 v2 v3 v4 v5
          go_upto_region 13 with fail
          refine wp_region_held_drew (S := fun W => Since w5 W) (by kernel_rfl) hsd (fun hHeld => ?_)
          refine wpAnyH_take (i := 0) (v := ?_) rfl (by kernel_rfl) (by kernel_rfl) (by kernel_rfl) (fun _ _ _ h => h) (Or.inl ⟨by rfl, ?_⟩) (by assumption) ?_
          rotate_left 1
          · (intro W hW; clear hW; go_simp; try with_reducible rfl)
          simp only [Act.put, List.getElem_toArray, List.getElem_cons_zero, List.setIfInBounds_toArray, List.set_cons_zero, List.set_cons_succ]
          refine wpAnyH_take (i := 1) (v := ?_) rfl (by kernel_rfl) (by kernel_rfl) (by kernel_rfl) (fun _ _ _ h => h) (Or.inl ⟨by rfl, ?_⟩) (by assumption) ?_
          rotate_left 1
          · (intro W hW; clear hW; go_simp; try with_reducible rfl)
          simp only [Act.put, List.getElem_toArray, List.getElem_cons_succ, List.getElem_cons_zero, List.setIfInBounds_toArray, List.set_cons_zero, List.set_cons_succ]
          refine wpAnyH_take (i := 2) (v := ?_) rfl (by kernel_rfl) (by kernel_rfl) (by kernel_rfl) (fun _ _ _ h => h) (Or.inl ⟨by rfl, ?_⟩) (by assumption) ?_
          rotate_left 1
          · (intro W hW; clear hW; go_simp; try with_reducible rfl)
          simp only [Act.put, List.getElem_toArray, List.getElem_cons_succ, List.getElem_cons_zero, List.setIfInBounds_toArray, List.set_cons_zero, List.set_cons_succ]
          refine wpAnyH_take (i := 3) (v := ?_) rfl (by kernel_rfl) (by kernel_rfl) (by kernel_rfl) (fun _ _ _ h => h) (Or.inl ⟨by rfl, ?_⟩) (by assumption) ?_
          rotate_left 1
          · (intro W hW; clear hW; go_simp; try with_reducible rfl)
          simp only [Act.put, List.getElem_toArray, List.getElem_cons_succ, List.getElem_cons_zero, List.setIfInBounds_toArray, List.set_cons_zero, List.set_cons_succ]
          refine wpAnyH_take (i := 4) (v := ?_) rfl (by kernel_rfl) (by kernel_rfl) (by kernel_rfl) (fun _ _ _ h => h) (Or.inl ⟨by rfl, ?_⟩) (by assumption) ?_
          rotate_left 1
          · (intro W hW; clear hW; go_simp; try with_reducible rfl)
          simp only [Act.put, List.getElem_toArray, List.getElem_cons_succ, List.getElem_cons_zero, List.setIfInBounds_toArray, List.set_cons_zero, List.set_cons_succ]
          refine wpAnyH_take (i := 5) (v := ?_) rfl (by kernel_rfl) (by kernel_rfl) (by kernel_rfl) (fun _ _ _ h => h) (Or.inl ⟨by rfl, ?_⟩) (by assumption) ?_
          rotate_left 1
          · (intro W hW; clear hW; go_simp; try with_reducible rfl)
          simp only [Act.put, List.getElem_toArray, List.getElem_cons_succ, List.getElem_cons_zero, List.setIfInBounds_toArray, List.set_cons_zero, List.set_cons_succ]
          refine wpAnyH_take (i := 6) (v := ?_) rfl (by kernel_rfl) (by kernel_rfl) (by kernel_rfl) (fun _ _ _ h => h) (Or.inl ⟨by rfl, ?_⟩) (by assumption) ?_
          rotate_left 1
          · (intro W hW; clear hW; go_simp; try with_reducible rfl)
          simp only [Act.put, List.getElem_toArray, List.getElem_cons_succ, List.getElem_cons_zero, List.setIfInBounds_toArray, List.set_cons_zero, List.set_cons_succ]
          refine wpAnyH_take (i := 7) (v := ?_) rfl (by kernel_rfl) (by kernel_rfl) (by kernel_rfl) (fun _ _ _ h => h) (Or.inl ⟨by rfl, ?_⟩) (by assumption) ?_
          rotate_left 1
          · (intro W hW; clear hW; go_simp; try with_reducible rfl)
          simp only [Act.put, List.getElem_toArray, List.getElem_cons_succ, List.getElem_cons_zero, List.setIfInBounds_toArray, List.set_cons_zero, List.set_cons_succ]
          refine wpAnyH_take (i := 8) (v := ?_) rfl (by kernel_rfl) (by kernel_rfl) (by kernel_rfl) (fun _ _ _ h => h) (Or.inl ⟨by rfl, ?_⟩) (by assumption) ?_
          rotate_left 1
          · (intro W hW; clear hW; go_simp; try with_reducible rfl)
          simp only [Act.put, List.getElem_toArray, List.getElem_cons_succ, List.getElem_cons_zero, List.setIfInBounds_toArray, List.set_cons_zero, List.set_cons_succ]
          refine wpAnyH_take (i := 9) (v := ?_) rfl (by kernel_rfl) (by kernel_rfl) (by kernel_rfl) (fun _ _ _ h => h) (Or.inl ⟨by rfl, ?_⟩) (by assumption) ?_
          rotate_left 1
          · (intro W hW; clear hW; go_simp; try with_reducible rfl)
          simp only [Act.put, List.getElem_toArray, List.getElem_cons_succ, List.getElem_cons_zero, List.setIfInBounds_toArray, List.set_cons_zero, List.set_cons_succ]
          refine wpAnyH_take (i := 10) (v := ?_) rfl (by kernel_rfl) (by kernel_rfl) (by kernel_rfl) (fun _ _ _ h => h) (Or.inl ⟨by rfl, ?_⟩) (by assumption) ?_
          rotate_left 1
          · (intro W hW; clear hW; go_simp; try with_reducible rfl)
          simp only [Act.put, List.getElem_toArray, List.getElem_cons_succ, List.getElem_cons_zero, List.setIfInBounds_toArray, List.set_cons_zero, List.set_cons_succ]
          refine wpAnyH_take (i := 11) (v := undef) rfl (by kernel_rfl) (by kernel_rfl) (by kernel_rfl) (fun _ _ _ h => h) (Or.inr ⟨by rfl, rfl⟩) (by assumption) ?_
          simp only [Act.put, List.getElem_toArray, List.getElem_cons_succ, List.getElem_cons_zero, List.setIfInBounds_toArray, List.set_cons_zero, List.set_cons_succ]
          refine wpAnyH_take (i := 12) (v := undef) rfl (by kernel_rfl) (by kernel_rfl) (by kernel_rfl) (fun _ _ _ h => h) (Or.inr ⟨by rfl, rfl⟩) (by assumption) ?_
          simp only [Act.put, List.getElem_toArray, List.getElem_cons_succ, List.getElem_cons_zero, List.setIfInBounds_toArray, List.set_cons_zero, List.set_cons_succ]
          refine wpAnyH_take (i := 13) (v := undef) rfl (by kernel_rfl) (by kernel_rfl) (by kernel_rfl) (fun _ _ _ h => h) (Or.inr ⟨by rfl, rfl⟩) (by assumption) ?_
          simp only [Act.put, List.getElem_toArray, List.getElem_cons_succ, List.getElem_cons_zero, List.setIfInBounds_toArray, List.set_cons_zero, List.set_cons_succ]
          refine wpAnyH_take (i := 14) (v := undef) rfl (by kernel_rfl) (by kernel_rfl) (by kernel_rfl) (fun _ _ _ h => h) (Or.inr ⟨by rfl, rfl⟩) (by assumption) ?_
          simp only [Act.put, List.getElem_toArray, List.getElem_cons_succ, List.getElem_cons_zero, List.setIfInBounds_toArray, List.set_cons_zero, List.set_cons_succ]
          refine wpAnyH_take (i := 15) (v := undef) rfl (by kernel_rfl) (by kernel_rfl) (by kernel_rfl) (fun _ _ _ h => h) (Or.inr ⟨by rfl, rfl⟩) (by assumption) ?_
          simp only [Act.put, List.getElem_toArray, List.getElem_cons_succ, List.getElem_cons_zero, List.setIfInBounds_toArray, List.set_cons_zero, List.set_cons_succ]
          refine wpAnyH_take (i := 16) (v := undef) rfl (by kernel_rfl) (by kernel_rfl) (by kernel_rfl) (fun _ _ _ h => h) (Or.inr ⟨by rfl, rfl⟩) (by assumption) ?_
          simp only [Act.put, List.getElem_toArray, List.getElem_cons_succ, List.getElem_cons_zero, List.setIfInBounds_toArray, List.set_cons_zero, List.set_cons_succ]
          refine wpAnyH_take (i := 17) (v := undef) rfl (by kernel_rfl) (by kernel_rfl) (by kernel_rfl) (fun _ _ _ h => h) (Or.inr ⟨by rfl, rfl⟩) (by assumption) ?_
          simp only [Act.put, List.getElem_toArray, List.getElem_cons_succ, List.getElem_cons_zero, List.setIfInBounds_toArray, List.set_cons_zero, List.set_cons_succ]
          refine wpAnyH_take (i := 18) (v := undef) rfl (by kernel_rfl) (by kernel_rfl) (by kernel_rfl) (fun _ _ _ h => h) (Or.inr ⟨by rfl, rfl⟩) (by assumption) ?_
          simp only [Act.put, List.getElem_toArray, List.getElem_cons_succ, List.getElem_cons_zero, List.setIfInBounds_toArray, List.set_cons_zero, List.set_cons_succ]
          refine wpAnyH_take (i := 19) (v := undef) rfl (by kernel_rfl) (by kernel_rfl) (by kernel_rfl) (fun _ _ _ h => h) (Or.inr ⟨by rfl, rfl⟩) (by assumption) ?_
          simp only [Act.put, List.getElem_toArray, List.getElem_cons_succ, List.getElem_cons_zero, List.setIfInBounds_toArray, List.set_cons_zero, List.set_cons_succ]
          refine wpAnyH_take (i := 20) (v := undef) rfl (by kernel_rfl) (by kernel_rfl) (by kernel_rfl) (fun _ _ _ h => h) (Or.inr ⟨by rfl, rfl⟩) (by assumption) ?_
          simp only [Act.put, List.getElem_toArray, List.getElem_cons_succ, List.getElem_cons_zero, List.setIfInBounds_toArray, List.set_cons_zero, List.set_cons_succ]
          refine wpAnyH_take (i := 21) (v := undef) rfl (by kernel_rfl) (by kernel_rfl) (by kernel_rfl) (fun _ _ _ h => h) (Or.inr ⟨by rfl, rfl⟩) (by assumption) ?_
          simp only [Act.put, List.getElem_toArray, List.getElem_cons_succ, List.getElem_cons_zero, List.setIfInBounds_toArray, List.set_cons_zero, List.set_cons_succ]
          refine wpAnyH_take (i := 22) (v := undef) rfl (by kernel_rfl) (by kernel_rfl) (by kernel_rfl) (fun _ _ _ h => h) (Or.inr ⟨by rfl, rfl⟩) (by assumption) ?_
          simp only [Act.put, List.getElem_toArray, List.getElem_cons_succ, List.getElem_cons_zero, List.setIfInBounds_toArray, List.set_cons_zero, List.set_cons_succ]
          refine wpAnyH_take (i := 23) (v := undef) rfl (by kernel_rfl) (by kernel_rfl) (by kernel_rfl) (fun _ _ _ h => h) (Or.inr ⟨by rfl, rfl⟩) (by assumption) ?_
          simp only [Act.put, List.getElem_toArray, List.getElem_cons_succ, List.getElem_cons_zero, List.setIfInBounds_toArray, List.set_cons_zero, List.set_cons_succ]
          refine wpAnyH_take (i := 24) (v := undef) rfl (by kernel_rfl) (by kernel_rfl) (by kernel_rfl) (fun _ _ _ h => h) (Or.inr ⟨by rfl, rfl⟩) (by assumption) ?_
          simp only [Act.put, List.getElem_toArray, List.getElem_cons_succ, List.getElem_cons_zero, List.setIfInBounds_toArray, List.set_cons_zero, List.set_cons_succ]
          refine wpAnyH_take (i := 25) (v := undef) rfl (by kernel_rfl) (by kernel_rfl) (by kernel_rfl) (fun _ _ _ h => h) (Or.inr ⟨by rfl, rfl⟩) (by assumption) ?_
          simp only [Act.put, List.getElem_toArray, List.getElem_cons_succ, List.getElem_cons_zero, List.setIfInBounds_toArray, List.set_cons_zero, List.set_cons_succ]
          refine wpAnyH_take (i := 26) (v := undef) rfl (by kernel_rfl) (by kernel_rfl) (by kernel_rfl) (fun _ _ _ h => h) (Or.inr ⟨by rfl, rfl⟩) (by assumption) ?_
          simp only [Act.put, List.getElem_toArray, List.getElem_cons_succ, List.getElem_cons_zero, List.setIfInBounds_toArray, List.set_cons_zero, List.set_cons_succ]
          refine wpAnyH_take (i := 27) (v := undef) rfl (by kernel_rfl) (by kernel_rfl) (by kernel_rfl) (fun _ _ _ h => h) (Or.inr ⟨by rfl, rfl⟩) (by assumption) ?_
          simp only [Act.put, List.getElem_toArray, List.getElem_cons_succ, List.getElem_cons_zero, List.setIfInBounds_toArray, List.set_cons_zero, List.set_cons_succ]
          refine wpAnyH_take (i := 28) (v := undef) rfl (by kernel_rfl) (by kernel_rfl) (by kernel_rfl) (fun _ _ _ h => h) (Or.inr ⟨by rfl, rfl⟩) (by assumption) ?_
          simp only [Act.put, List.getElem_toArray, List.getElem_cons_succ, List.getElem_cons_zero, List.setIfInBounds_toArray, List.set_cons_zero, List.set_cons_succ]
          refine wpAnyH_take (i := 29) (v := undef) rfl (by kernel_rfl) (by kernel_rfl) (by kernel_rfl) (fun _ _ _ h => h) (Or.inr ⟨by rfl, rfl⟩) (by assumption) ?_
          simp only [Act.put, List.getElem_toArray, List.getElem_cons_succ, List.getElem_cons_zero, List.setIfInBounds_toArray, List.set_cons_zero, List.set_cons_succ]
          refine wpAnyH_take (i := 30) (v := ?_) rfl (by kernel_rfl) (by kernel_rfl) (by kernel_rfl) (fun _ _ _ h => h) (Or.inl ⟨by rfl, ?_⟩) (by assumption) ?_
          rotate_left 1
          · (intro W hW; clear hW; go_simp; try with_reducible rfl)
          simp only [Act.put, List.getElem_toArray, List.getElem_cons_succ, List.getElem_cons_zero, List.setIfInBounds_toArray, List.set_cons_zero, List.set_cons_succ]
          refine wpAnyH_take (i := 31) (v := ?_) rfl (by kernel_rfl) (by kernel_rfl) (by kernel_rfl) (fun _ _ _ h => h) (Or.inl ⟨by rfl, ?_⟩) (by assumption) ?_
          rotate_left 1
          · (intro W hW; clear hW; go_simp; try with_reducible rfl)
          simp only [Act.put, List.getElem_toArray, List.getElem_cons_succ, List.getElem_cons_zero, List.setIfInBounds_toArray, List.set_cons_zero, List.set_cons_succ]
          refine wpAnyH_done (by kernel_rfl) ?_ _
          go_wp2_with fail
          go_roundw
          case rel => exact ⟨m + 1, by go_num, by omega, Since.trans hb6 (Since.trans hS5 hsd)⟩
          case measure => simp [intOf]; omega
        · go_simp
          have hgb : w6.heap.size ≤ wq.heap.size := Since.size_ hq
          refine hK.out _ _ ((Since.alloc hq _)) (fun hHeld => ?_)
          clear hK K
          try simp only [Act.put, List.getElem_toArray, List.getElem_cons_succ, List.getElem_cons_zero, List.setIfInBounds_toArray, List.set_cons_zero, List.set_cons_succ]
          refine wpAnyH_ready (rs := [8]) (by kernel_rfl) (by simp) ?_
          refine AllReadyH.cons rfl (fun K hK => ?_) AllReadyH.nil
          go_simp
          refine (HCL.out (wq.alloc (.cells #[.int .i64 0, .int .i64 0, .int .i64 0] 37)) (Since.trans hb6 (Since.alloc hq (.cells #[.int .i64 0, .int .i64 0, .int .i64 0] 37)))).mono ?_
          rintro e wc0 ⟨rfl, hd0⟩
          have hc0 : Since w6 wc0 := Since.trans (Since.alloc hq (.cells #[.int .i64 0, .int .i64 0, .int .i64 0] 37)) hd0
          have b0 : Whole wc0 (wq.heap.size) 37 #[.int .i64 0, .int .i64 0, .int .i64 0] := Since.whole hd0 (Whole.new wq 37 #[.int .i64 0, .int .i64 0, .int .i64 0])
          go_wp2_with fail
          refine hK.out _ _ (hc0) (fun hHeld => ?_)
          clear hK K
          try simp only [Act.put, List.getElem_toArray, List.getElem_cons_succ, List.getElem_cons_zero, List.setIfInBounds_toArray, List.set_cons_zero, List.set_cons_succ]
          refine wpAnyH_take (i := 9) (v := ?_) rfl (by kernel_rfl) (by kernel_rfl) (by kernel_rfl) (fun _ _ _ h => h) (Or.inl ⟨by rfl, ?_⟩) (by assumption) ?_
          rotate_left 1
          · (intro W hW; clear hW; go_simp; try with_reducible rfl)
          simp only [Act.put, List.getElem_toArray, List.getElem_cons_succ, List.getElem_cons_zero, List.setIfInBounds_toArray, List.set_cons_zero, List.set_cons_succ]
          refine wpAnyH_take (i := 10) (v := ?_) rfl (by kernel_rfl) (by kernel_rfl) (by kernel_rfl) (fun _ _ _ h => h) (Or.inl ⟨by rfl, ?_⟩) (by assumption) ?_
          rotate_left 1
          · (intro W hW; clear hW; go_simp; try with_reducible rfl)
          simp only [Act.put, List.getElem_toArray, List.getElem_cons_succ, List.getElem_cons_zero, List.setIfInBounds_toArray, List.set_cons_zero, List.set_cons_succ]
          refine wpAnyH_take (i := 11) (v := ?_) rfl (by kernel_rfl) (by kernel_rfl) (by kernel_rfl) (fun _ _ _ h => h) (Or.inl ⟨by rfl, ?_⟩) (by assumption) ?_
          rotate_left 1
          · (intro W hW; clear hW; go_simp; try with_reducible rfl)
          simp only [Act.put, List.getElem_toArray, List.getElem_cons_succ, List.getElem_cons_zero, List.setIfInBounds_toArray, List.set_cons_zero, List.set_cons_succ]
          refine wpAnyH_ready (rs := [13]) (by kernel_rfl) (by simp) ?_
          refine AllReadyH.cons rfl (fun K hK => ?_) AllReadyH.nil
          have x0 := Whole.cell b0 0
          have y0 := Whole.frozen b0 0
          have x1 := Whole.cell b0 1
          have y1 := Whole.frozen b0 1
          have x2 := Whole.cell b0 2
          have y2 := Whole.frozen b0 2
          go_simp
          clear x0 y0 x1 y1 x2 y2
          refine hK.out _ _ ((Since.setCell (Since.setCell (Since.setCell hc0 (p := ⟨wq.heap.size, 0, none⟩) hgb (.int .i64 0)) (p := ⟨wq.heap.size, 1, none⟩) hgb (.int .i64 0)) (p := ⟨wq.heap.size, 2, none⟩) hgb (.int .i64 0))) (fun hHeld => ?_)
          clear hK K
          try simp only [Act.put, List.getElem_toArray, List.getElem_cons_succ, List.getElem_cons_zero, List.setIfInBounds_toArray, List.set_cons_zero, List.set_cons_succ]
          refine wpAnyH_take (i := 14) (v := ?_) rfl (by kernel_rfl) (by kernel_rfl) (by kernel_rfl) (fun _ _ _ h => h) (Or.inl ⟨by rfl, ?_⟩) (by assumption) ?_
          rotate_left 1
          · (intro W hW; clear hW; go_simp; try with_reducible rfl)
          simp only [Act.put, List.getElem_toArray, List.getElem_cons_succ, List.getElem_cons_zero, List.setIfInBounds_toArray, List.set_cons_zero, List.set_cons_succ]
          refine wpAnyH_done (by kernel_rfl) ?_ _
          obtain ⟨w5, hw5⟩ : ∃ w5, w5 = (World.setCell (World.setCell (World.setCell wc0 ⟨wq.heap.size, 0, none⟩ (.int .i64 0)) ⟨wq.heap.size, 1, none⟩ (.int .i64 0)) ⟨wq.heap.size, 2, none⟩ (.int .i64 0)) := ⟨_, rfl⟩
          have hS5 : Since w6 w5 := Since.named (Since.setCell (Since.setCell (Since.setCell hc0 (p := ⟨wq.heap.size, 0, none⟩) hgb (.int .i64 0)) (p := ⟨wq.heap.size, 1, none⟩) hgb (.int .i64 0)) (p := ⟨wq.heap.size, 2, none⟩) hgb (.int .i64 0)) hw5
          have hN5 : Whole w5 (wq.heap.size) 37 #[.int .i64 0, .int .i64 0, .int .i64 0] := Whole.named (Whole.set_ (Whole.set_ (Whole.set_ b0 0 (.int .i64 0)) 1 (.int .i64 0)) 2 (.int .i64 0)) hw5
          obtain ⟨NB, hNB⟩ : ∃ NB, NB = wq.heap.size := ⟨_, rfl⟩
          rw [← hw5, ← hNB]
          rw [← hNB] at hN5
          clear hHeld hw5 hNB
          have x1 := fun W (h : Since w5 W) => v1 W (Since.trans hS5 h)
          have x2 := fun W (h : Since w5 W) => v2 W (Since.trans hS5 h)
          have x3 := fun W (h : Since w5 W) => v3 W (Since.trans hS5 h)
          have x4 := fun W (h : Since w5 W) => v4 W (Since.trans hS5 h)
          have x5 := fun W (h : Since w5 W) => v5 W (Since.trans hS5 h)
          have hsr := Since.refl w5
          have hsd := hsr.drew
          have n0 := box_cell hN5 0 _ rfl
          have n1 := box_cell hN5 1 _ rfl
          have n2 := box_cell hN5 2 _ rfl
          clear v1 v2 v3 v4 v5
          go_upto_region 13 with fail
          refine wp_region_held_drew (S := fun W => Since w5 W) (by kernel_rfl) hsd (fun hHeld => ?_)
          refine wpAnyH_take (i := 0) (v := ?_) rfl (by kernel_rfl) (by kernel_rfl) (by kernel_rfl) (fun _ _ _ h => h) (Or.inl ⟨by rfl, ?_⟩) (by assumption) ?_
          rotate_left 1
          · (intro W hW; clear hW; go_simp; try with_reducible rfl)
          simp only [Act.put, List.getElem_toArray, List.getElem_cons_zero, List.setIfInBounds_toArray, List.set_cons_zero, List.set_cons_succ]
          refine wpAnyH_take (i := 1) (v := ?_) rfl (by kernel_rfl) (by kernel_rfl) (by kernel_rfl) (fun _ _ _ h => h) (Or.inl ⟨by rfl, ?_⟩) (by assumption) ?_
          rotate_left 1
          · (intro W hW; clear hW; go_simp; try with_reducible rfl)
          simp only [Act.put, List.getElem_toArray, List.getElem_cons_succ, List.getElem_cons_zero, List.setIfInBounds_toArray, List.set_cons_zero, List.set_cons_succ]
          refine wpAnyH_take (i := 2) (v := ?_) rfl (by kernel_rfl) (by kernel_rfl) (by kernel_rfl) (fun _ _ _ h => h) (Or.inl ⟨by rfl, ?_⟩) (by assumption) ?_
          rotate_left 1
          · (intro W hW; clear hW; go_simp; try with_reducible rfl)
          simp only [Act.put, List.getElem_toArray, List.getElem_cons_succ, List.getElem_cons_zero, List.setIfInBounds_toArray, List.set_cons_zero, List.set_cons_succ]
          refine wpAnyH_take (i := 3) (v := ?_) rfl (by kernel_rfl) (by kernel_rfl) (by kernel_rfl) (fun _ _ _ h => h) (Or.inl ⟨by rfl, ?_⟩) (by assumption) ?_
          rotate_left 1
          · (intro W hW; clear hW; go_simp; try with_reducible rfl)
          simp only [Act.put, List.getElem_toArray, List.getElem_cons_succ, List.getElem_cons_zero, List.setIfInBounds_toArray, List.set_cons_zero, List.set_cons_succ]
          refine wpAnyH_take (i := 4) (v := ?_) rfl (by kernel_rfl) (by kernel_rfl) (by kernel_rfl) (fun _ _ _ h => h) (Or.inl ⟨by rfl, ?_⟩) (by assumption) ?_
          rotate_left 1
          · (intro W hW; clear hW; go_simp; try with_reducible rfl)
          simp only [Act.put, List.getElem_toArray, List.getElem_cons_succ, List.getElem_cons_zero, List.setIfInBounds_toArray, List.set_cons_zero, List.set_cons_succ]
          refine wpAnyH_take (i := 5) (v := ?_) rfl (by kernel_rfl) (by kernel_rfl) (by kernel_rfl) (fun _ _ _ h => h) (Or.inl ⟨by rfl, ?_⟩) (by assumption) ?_
          rotate_left 1
          · (intro W hW; clear hW; go_simp; try with_reducible rfl)
          simp only [Act.put, List.getElem_toArray, List.getElem_cons_succ, List.getElem_cons_zero, List.setIfInBounds_toArray, List.set_cons_zero, List.set_cons_succ]
          refine wpAnyH_take (i := 6) (v := ?_) rfl (by kernel_rfl) (by kernel_rfl) (by kernel_rfl) (fun _ _ _ h => h) (Or.inl ⟨by rfl, ?_⟩) (by assumption) ?_
          rotate_left 1
          · (intro W hW; clear hW; go_simp; try with_reducible rfl)
          simp only [Act.put, List.getElem_toArray, List.getElem_cons_succ, List.getElem_cons_zero, List.setIfInBounds_toArray, List.set_cons_zero, List.set_cons_succ]
          refine wpAnyH_take (i := 7) (v := ?_) rfl (by kernel_rfl) (by kernel_rfl) (by kernel_rfl) (fun _ _ _ h => h) (Or.inl ⟨by rfl, ?_⟩) (by assumption) ?_
          rotate_left 1
          · (intro W hW; clear hW; go_simp; try with_reducible rfl)
          simp only [Act.put, List.getElem_toArray, List.getElem_cons_succ, List.getElem_cons_zero, List.setIfInBounds_toArray, List.set_cons_zero, List.set_cons_succ]
          refine wpAnyH_take (i := 8) (v := ?_) rfl (by kernel_rfl) (by kernel_rfl) (by kernel_rfl) (fun _ _ _ h => h) (Or.inl ⟨by rfl, ?_⟩) (by assumption) ?_
          rotate_left 1
          · (intro W hW; clear hW; go_simp; try with_reducible rfl)
          simp only [Act.put, List.getElem_toArray, List.getElem_cons_succ, List.getElem_cons_zero, List.setIfInBounds_toArray, List.set_cons_zero, List.set_cons_succ]
          refine wpAnyH_take (i := 9) (v := ?_) rfl (by kernel_rfl) (by kernel_rfl) (by kernel_rfl) (fun _ _ _ h => h) (Or.inl ⟨by rfl, ?_⟩) (by assumption) ?_
          rotate_left 1
          · (intro W hW; clear hW; go_simp; try with_reducible rfl)
          simp only [Act.put, List.getElem_toArray, List.getElem_cons_succ, List.getElem_cons_zero, List.setIfInBounds_toArray, List.set_cons_zero, List.set_cons_succ]
          refine wpAnyH_take (i := 10) (v := ?_) rfl (by kernel_rfl) (by kernel_rfl) (by kernel_rfl) (fun _ _ _ h => h) (Or.inl ⟨by rfl, ?_⟩) (by assumption) ?_
          rotate_left 1
          · (intro W hW; clear hW; go_simp; try with_reducible rfl)
          simp only [Act.put, List.getElem_toArray, List.getElem_cons_succ, List.getElem_cons_zero, List.setIfInBounds_toArray, List.set_cons_zero, List.set_cons_succ]
          refine wpAnyH_take (i := 11) (v := undef) rfl (by kernel_rfl) (by kernel_rfl) (by kernel_rfl) (fun _ _ _ h => h) (Or.inr ⟨by rfl, rfl⟩) (by assumption) ?_
          simp only [Act.put, List.getElem_toArray, List.getElem_cons_succ, List.getElem_cons_zero, List.setIfInBounds_toArray, List.set_cons_zero, List.set_cons_succ]
          refine wpAnyH_take (i := 12) (v := undef) rfl (by kernel_rfl) (by kernel_rfl) (by kernel_rfl) (fun _ _ _ h => h) (Or.inr ⟨by rfl, rfl⟩) (by assumption) ?_
          simp only [Act.put, List.getElem_toArray, List.getElem_cons_succ, List.getElem_cons_zero, List.setIfInBounds_toArray, List.set_cons_zero, List.set_cons_succ]
          refine wpAnyH_take (i := 13) (v := undef) rfl (by kernel_rfl) (by kernel_rfl) (by kernel_rfl) (fun _ _ _ h => h) (Or.inr ⟨by rfl, rfl⟩) (by assumption) ?_
          simp only [Act.put, List.getElem_toArray, List.getElem_cons_succ, List.getElem_cons_zero, List.setIfInBounds_toArray, List.set_cons_zero, List.set_cons_succ]
          refine wpAnyH_take (i := 14) (v := undef) rfl (by kernel_rfl) (by kernel_rfl) (by kernel_rfl) (fun _ _ _ h => h) (Or.inr ⟨by rfl, rfl⟩) (by assumption) ?_
          simp only [Act.put, List.getElem_toArray, List.getElem_cons_succ, List.getElem_cons_zero, List.setIfInBounds_toArray, List.set_cons_zero, List.set_cons_succ]
          refine wpAnyH_take (i := 15) (v := undef) rfl (by kernel_rfl) (by kernel_rfl) (by kernel_rfl) (fun _ _ _ h => h) (Or.inr ⟨by rfl, rfl⟩) (by assumption) ?_
          simp only [Act.put, List.getElem_toArray, List.getElem_cons_succ, List.getElem_cons_zero, List.setIfInBounds_toArray, List.set_cons_zero, List.set_cons_succ]
          refine wpAnyH_take (i := 16) (v := undef) rfl (by kernel_rfl) (by kernel_rfl) (by kernel_rfl) (fun _ _ _ h => h) (Or.inr ⟨by rfl, rfl⟩) (by assumption) ?_
          simp only [Act.put, List.getElem_toArray, List.getElem_cons_succ, List.getElem_cons_zero, List.setIfInBounds_toArray, List.set_cons_zero, List.set_cons_succ]
          refine wpAnyH_take (i := 17) (v := undef) rfl (by kernel_rfl) (by kernel_rfl) (by kernel_rfl) (fun _ _ _ h => h) (Or.inr ⟨by rfl, rfl⟩) (by assumption) ?_
          simp only [Act.put, List.getElem_toArray, List.getElem_cons_succ, List.getElem_cons_zero, List.setIfInBounds_toArray, List.set_cons_zero, List.set_cons_succ]
          refine wpAnyH_take (i := 18) (v := undef) rfl (by kernel_rfl) (by kernel_rfl) (by kernel_rfl) (fun _ _ _ h => h) (Or.inr ⟨by rfl, rfl⟩) (by assumption) ?_
          simp only [Act.put, List.getElem_toArray, List.getElem_cons_succ, List.getElem_cons_zero, List.setIfInBounds_toArray, List.set_cons_zero, List.set_cons_succ]
          refine wpAnyH_take (i := 19) (v := undef) rfl (by kernel_rfl) (by kernel_rfl) (by kernel_rfl) (fun _ _ _ h => h) (Or.inr ⟨by rfl, rfl⟩) (by assumption) ?_
          simp only [Act.put, List.getElem_toArray, List.getElem_cons_succ, List.getElem_cons_zero, List.setIfInBounds_toArray, List.set_cons_zero, List.set_cons_succ]
          refine wpAnyH_take (i := 20) (v := undef) rfl (by kernel_rfl) (by kernel_rfl) (by kernel_rfl) (fun _ _ _ h => h) (Or.inr ⟨by rfl, rfl⟩) (by assumption) ?_
          simp only [Act.put, List.getElem_toArray, List.getElem_cons_succ, List.getElem_cons_zero, List.setIfInBounds_toArray, List.set_cons_zero, List.set_cons_succ]
          refine wpAnyH_take (i := 21) (v := undef) rfl (by kernel_rfl) (by kernel_rfl) (by kernel_rfl) (fun _ _ _ h => h) (Or.inr ⟨by rfl, rfl⟩) (by assumption) ?_
          simp only [Act.put, List.getElem_toArray, List.getElem_cons_succ, List.getElem_cons_zero, List.setIfInBounds_toArray, List.set_cons_zero, List.set_cons_succ]
          refine wpAnyH_take (i := 22) (v := undef) rfl (by kernel_rfl) (by kernel_rfl) (by kernel_rfl) (fun _ _ _ h => h) (Or.inr ⟨by rfl, rfl⟩) (by assumption) ?_
          simp only [Act.put, List.getElem_toArray, List.getElem_cons_succ, List.getElem_cons_zero, List.setIfInBounds_toArray, List.set_cons_zero, List.set_cons_succ]
          refine wpAnyH_take (i := 23) (v := undef) rfl (by kernel_rfl) (by kernel_rfl) (by kernel_rfl) (fun _ _ _ h => h) (Or.inr ⟨by rfl, rfl⟩) (by assumption) ?_
          simp only [Act.put, List.getElem_toArray, List.getElem_cons_succ, List.getElem_cons_zero, List.setIfInBounds_toArray, List.set_cons_zero, List.set_cons_succ]
          refine wpAnyH_take (i := 24) (v := undef) rfl (by kernel_rfl) (by kernel_rfl) (by kernel_rfl) (fun _ _ _ h => h) (Or.inr ⟨by rfl, rfl⟩) (by assumption) ?_
          simp only [Act.put, List.getElem_toArray, List.getElem_cons_succ, List.getElem_cons_zero, List.setIfInBounds_toArray, List.set_cons_zero, List.set_cons_succ]
          refine wpAnyH_take (i := 25) (v := undef) rfl (by kernel_rfl) (by kernel_rfl) (by kernel_rfl) (fun _ _ _ h => h) (Or.inr ⟨by rfl, rfl⟩) (by assumption) ?_
          simp only [Act.put, List.getElem_toArray, List.getElem_cons_succ, List.getElem_cons_zero, List.setIfInBounds_toArray, List.set_cons_zero, List.set_cons_succ]
          refine wpAnyH_take (i := 26) (v := undef) rfl (by kernel_rfl) (by kernel_rfl) (by kernel_rfl) (fun _ _ _ h => h) (Or.inr ⟨by rfl, rfl⟩) (by assumption) ?_
          simp only [Act.put, List.getElem_toArray, List.getElem_cons_succ, List.getElem_cons_zero, List.setIfInBounds_toArray, List.set_cons_zero, List.set_cons_succ]
          refine wpAnyH_take (i := 27) (v := undef) rfl (by kernel_rfl) (by kernel_rfl) (by kernel_rfl) (fun _ _ _ h => h) (Or.inr ⟨by rfl, rfl⟩) (by assumption) ?_
          simp only [Act.put, List.getElem_toArray, List.getElem_cons_succ, List.getElem_cons_zero, List.setIfInBounds_toArray, List.set_cons_zero, List.set_cons_succ]
          refine wpAnyH_take (i := 28) (v := undef) rfl (by kernel_rfl) (by kernel_rfl) (by kernel_rfl) (fun _ _ _ h => h) (Or.inr ⟨by rfl, rfl⟩) (by assumption) ?_
          simp only [Act.put, List.getElem_toArray, List.getElem_cons_succ, List.getElem_cons_zero, List.setIfInBounds_toArray, List.set_cons_zero, List.set_cons_succ]
          refine wpAnyH_take (i := 29) (v := undef) rfl (by kernel_rfl) (by kernel_rfl) (by kernel_rfl) (fun _ _ _ h => h) (Or.inr ⟨by rfl, rfl⟩) (by assumption) ?_
          simp only [Act.put, List.getElem_toArray, List.getElem_cons_succ, List.getElem_cons_zero, List.setIfInBounds_toArray, List.set_cons_zero, List.set_cons_succ]
          refine wpAnyH_take (i := 30) (v := ?_) rfl (by kernel_rfl) (by kernel_rfl) (by kernel_rfl) (fun _ _ _ h => h) (Or.inl ⟨by rfl, ?_⟩) (by assumption) ?_
          rotate_left 1
          · (intro W hW; clear hW; go_simp; try with_reducible rfl)
          simp only [Act.put, List.getElem_toArray, List.getElem_cons_succ, List.getElem_cons_zero, List.setIfInBounds_toArray, List.set_cons_zero, List.set_cons_succ]
          refine wpAnyH_take (i := 31) (v := ?_) rfl (by kernel_rfl) (by kernel_rfl) (by kernel_rfl) (fun _ _ _ h => h) (Or.inl ⟨by rfl, ?_⟩) (by assumption) ?_
          rotate_left 1
          · (intro W hW; clear hW; go_simp; try with_reducible rfl)
          simp only [Act.put, List.getElem_toArray, List.getElem_cons_succ, List.getElem_cons_zero, List.setIfInBounds_toArray, List.set_cons_zero, List.set_cons_succ]
          refine wpAnyH_done (by kernel_rfl) ?_ _
          go_wp2_with fail
          go_roundw
          case rel => exact ⟨m + 1, by go_num, by omega, Since.trans hb6 (Since.trans hS5 hsd)⟩
          case measure => simp [intOf]; omega
      · obtain ⟨ud, ub, uw⟩ := u
        rw [hcl] at HCL
        simp only [tlV] at HCL
        dsimp only at hlt2 hbs
        obtain ⟨D2, hD2⟩ : ∃ D, aptZ K ud ub X Y = D := ⟨_, rfl⟩
        rw [hD2] at hlt2
        have HD2 := Lib.hid hD2
        have HBS := Lib.hid hbs
        have e2 : decide (D2 ≥ D) = false := decide_eq_false (by omega)
        have e3 : decide (D ≤ D2) = false := decide_eq_false (by omega)
        have e4 : decide (0 < D) = true := decide_eq_true hp
        clear hcl hD2 hbs
        go_upto_region 11 with fail
        go_region_held3 (fun W => Since wB W) (first | assumption | exact Since.drew (by assumption)) ((first | (go_at_call 9; (with_reducible refine (Calls.since (by assumption) (bApart_at HD.out _)).mono ?_); rintro e w6 ⟨rfl, hb6⟩)))
        have v1 := fun W (h : Since w6 W) => t1 W (Since.trans hb6 h); have v2 := fun W (h : Since w6 W) => t2 W (Since.trans hb6 h); have v3 := fun W (h : Since w6 W) => c0 W (Since.trans hb6 h); have v4 := fun W (h : Since w6 W) => c1 W (Since.trans hb6 h); have v5 := fun W (h : Since w6 W) => c2 W (Since.trans hb6 h); have hsr := Since.refl w6; have hsd := hsr.drew; clear t1 t2 c0 c1 c2
        go_upto_region 12 with fail
        obtain ⟨wq, hwq⟩ : ∃ wq, wq = w6.drew := ⟨_, rfl⟩
        refine wp_region_held_drew (S := fun W => Since w6 W) (by kernel_rfl) hsd (fun hHeld => ?_)
        rw [← hwq] at hHeld ⊢
        have hq : Since w6 wq := hHeld
        clear hwq hsd
        refine wpAnyH_take (i := 0) (v := ?_) rfl (by kernel_rfl) (by kernel_rfl) (by kernel_rfl) (fun _ _ _ h => h) (Or.inl ⟨by rfl, ?_⟩) (by assumption) ?_
        rotate_left 1
        · (intro W hW; skip; go_simp; try with_reducible rfl)
        simp only [Act.put, List.getElem_toArray, List.getElem_cons_zero, List.setIfInBounds_toArray, List.set_cons_zero, List.set_cons_succ]
        refine wpAnyH_take (i := 1) (v := ?_) rfl (by kernel_rfl) (by kernel_rfl) (by kernel_rfl) (fun _ _ _ h => h) (Or.inl ⟨by rfl, ?_⟩) (by assumption) ?_
        rotate_left 1
        · (intro W hW; clear hW; go_simp; try with_reducible rfl)
        simp only [Act.put, List.getElem_toArray, List.getElem_cons_succ, List.getElem_cons_zero, List.setIfInBounds_toArray, List.set_cons_zero, List.set_cons_succ]
        refine wpAnyH_take (i := 2) (v := ?_) rfl (by kernel_rfl) (by kernel_rfl) (by kernel_rfl) (fun _ _ _ h => h) (Or.inl ⟨by rfl, ?_⟩) (by assumption) ?_
        rotate_left 1
        · (intro W hW; clear hW; go_simp; try with_reducible rfl)
        simp only [Act.put, List.getElem_toArray, List.getElem_cons_succ, List.getElem_cons_zero, List.setIfInBounds_toArray, List.set_cons_zero, List.set_cons_succ]
        refine wpAnyH_take (i := 3) (v := ?_) rfl (by kernel_rfl) (by kernel_rfl) (by kernel_rfl) (fun _ _ _ h => h) (Or.inl ⟨by rfl, ?_⟩) (by assumption) ?_
        rotate_left 1
        · (intro W hW; clear hW; go_simp; try with_reducible rfl)
        simp only [Act.put, List.getElem_toArray, List.getElem_cons_succ, List.getElem_cons_zero, List.setIfInBounds_toArray, List.set_cons_zero, List.set_cons_succ]
        refine wpAnyH_take (i := 4) (v := ?_) rfl (by kernel_rfl) (by kernel_rfl) (by kernel_rfl) (fun _ _ _ h => h) (Or.inl ⟨by rfl, ?_⟩) (by assumption) ?_
        rotate_left 1
        · (intro W hW; clear hW; go_simp; try with_reducible rfl)
        simp only [Act.put, List.getElem_toArray, List.getElem_cons_succ, List.getElem_cons_zero, List.setIfInBounds_toArray, List.set_cons_zero, List.set_cons_succ]
        refine wpAnyH_take (i := 5) (v := ?_) rfl (by kernel_rfl) (by kernel_rfl) (by kernel_rfl) (fun _ _ _ h => h) (Or.inl ⟨by rfl, ?_⟩) (by assumption) ?_
        rotate_left 1
        · (intro W hW; clear hW; go_simp; try with_reducible rfl)
        simp only [Act.put, List.getElem_toArray, List.getElem_cons_succ, List.getElem_cons_zero, List.setIfInBounds_toArray, List.set_cons_zero, List.set_cons_succ]
        refine wpAnyH_take (i := 6) (v := ?_) rfl (by kernel_rfl) (by kernel_rfl) (by kernel_rfl) (fun _ _ _ h => h) (Or.inl ⟨by rfl, ?_⟩) (by assumption) ?_
        rotate_left 1
        · (intro W hW; skip; go_simp; try with_reducible rfl)
        simp only [Act.put, List.getElem_toArray, List.getElem_cons_succ, List.getElem_cons_zero, List.setIfInBounds_toArray, List.set_cons_zero, List.set_cons_succ]
        refine wpAnyH_take (i := 7) (v := ?_) rfl (by kernel_rfl) (by kernel_rfl) (by kernel_rfl) (fun _ _ _ h => h) (Or.inl ⟨by rfl, ?_⟩) (by assumption) ?_
        rotate_left 1
        · (intro W hW; skip; go_simp; try with_reducible rfl)
        simp only [Act.put, List.getElem_toArray, List.getElem_cons_succ, List.getElem_cons_zero, List.setIfInBounds_toArray, List.set_cons_zero, List.set_cons_succ]
        refine wpAnyH_ready (rs := [8, 12]) (by kernel_rfl) (by simp) ?_
        refine AllReadyH.cons rfl (fun K hK => ?_) (AllReadyH.cons rfl (fun K hK => ?_) AllReadyH.nil)
        · go_simp
          refine (HCL.out wq (Since.trans hb6 hq)).mono ?_
          rintro e wc0 ⟨rfl, hd0⟩
          have hc0 : Since w6 wc0 := Since.trans hq hd0
          go_wp2_with fail
          refine hK.out _ _ (hc0) (fun hHeld => ?_)
          clear hK K
          try simp only [Act.put, List.getElem_toArray, List.getElem_cons_succ, List.getElem_cons_zero, List.setIfInBounds_toArray, List.set_cons_zero, List.set_cons_succ]
          refine wpAnyH_take (i := 9) (v := ?_) rfl (by kernel_rfl) (by kernel_rfl) (by kernel_rfl) (fun _ _ _ h => h) (Or.inl ⟨by rfl, ?_⟩) (by assumption) ?_
          rotate_left 1
          · (intro W hW; clear hW; go_simp; try with_reducible rfl)
          simp only [Act.put, List.getElem_toArray, List.getElem_cons_succ, List.getElem_cons_zero, List.setIfInBounds_toArray, List.set_cons_zero, List.set_cons_succ]
          refine wpAnyH_take (i := 10) (v := ?_) rfl (by kernel_rfl) (by kernel_rfl) (by kernel_rfl) (fun _ _ _ h => h) (Or.inl ⟨by rfl, ?_⟩) (by assumption) ?_
          rotate_left 1
          · (intro W hW; clear hW; go_simp; try with_reducible rfl)
          simp only [Act.put, List.getElem_toArray, List.getElem_cons_succ, List.getElem_cons_zero, List.setIfInBounds_toArray, List.set_cons_zero, List.set_cons_succ]
          refine wpAnyH_take (i := 11) (v := ?_) rfl (by kernel_rfl) (by kernel_rfl) (by kernel_rfl) (fun _ _ _ h => h) (Or.inl ⟨by rfl, ?_⟩) (by assumption) ?_
          rotate_left 1
          · (intro W hW; clear hW; go_simp; try with_reducible rfl)
          simp only [Act.put, List.getElem_toArray, List.getElem_cons_succ, List.getElem_cons_zero, List.setIfInBounds_toArray, List.set_cons_zero, List.set_cons_succ]
          refine wpAnyH_ready (rs := [12]) (by kernel_rfl) (by simp) ?_
          refine AllReadyH.cons rfl (fun K hK => ?_) AllReadyH.nil
          go_simp
          have hgb : w6.heap.size ≤ wc0.heap.size := Since.size_ hc0
          refine hK.out _ _ ((Since.alloc hc0 _)) (fun hHeld => ?_)
          clear hK K
          try simp only [Act.put, List.getElem_toArray, List.getElem_cons_succ, List.getElem_cons_zero, List.setIfInBounds_toArray, List.set_cons_zero, List.set_cons_succ]
          refine wpAnyH_ready (rs := [13]) (by kernel_rfl) (by simp) ?_
          refine AllReadyH.cons rfl (fun K hK => ?_) AllReadyH.nil
          go_simp
          skip
          refine hK.out _ _ ((Since.alloc hc0 _)) (fun hHeld => ?_)
          clear hK K
          try simp only [Act.put, List.getElem_toArray, List.getElem_cons_succ, List.getElem_cons_zero, List.setIfInBounds_toArray, List.set_cons_zero, List.set_cons_succ]
          refine wpAnyH_take (i := 14) (v := ?_) rfl (by kernel_rfl) (by kernel_rfl) (by kernel_rfl) (fun _ _ _ h => h) (Or.inl ⟨by rfl, ?_⟩) (by assumption) ?_
          rotate_left 1
          · (intro W hW; clear hW; go_simp; try with_reducible rfl)
          simp only [Act.put, List.getElem_toArray, List.getElem_cons_succ, List.getElem_cons_zero, List.setIfInBounds_toArray, List.set_cons_zero, List.set_cons_succ]
          refine wpAnyH_done (by kernel_rfl) ?_ _
          obtain ⟨w5, hw5⟩ : ∃ w5, w5 = wc0.alloc (.cells #[.int .i64 ud, .int .i64 ub, .int .i64 uw] 37) := ⟨_, rfl⟩
          have hS5 : Since w6 w5 := Since.named (Since.alloc hc0 _) hw5
          have hSl : Since wc0 w5 := Since.named (Since.alloc (Since.refl _) _) hw5
          have hN5 : Whole w5 wc0.heap.size 37 #[.int .i64 ud, .int .i64 ub, .int .i64 uw] := (Whole.new wc0 _ _).named hw5
          obtain ⟨NB, hNB⟩ : ∃ NB, NB = wc0.heap.size := ⟨_, rfl⟩
          rw [← hw5, ← hNB]
          rw [← hNB] at hN5
          clear hHeld hw5 hNB
          have x1 := fun W (h : Since w5 W) => v1 W (Since.trans hS5 h)
          have x2 := fun W (h : Since w5 W) => v2 W (Since.trans hS5 h)
          have x3 := fun W (h : Since w5 W) => v3 W (Since.trans hS5 h)
          have x4 := fun W (h : Since w5 W) => v4 W (Since.trans hS5 h)
          have x5 := fun W (h : Since w5 W) => v5 W (Since.trans hS5 h)
          have hsr := Since.refl w5
          have hsd := hsr.drew
          have n0 := box_cell hN5 0 _ rfl
          have n1 := box_cell hN5 1 _ rfl
          have n2 := box_cell hN5 2 _ rfl
          clear v1 v2 v3 v4 v5
          go_upto_region 13 with fail
          go_region_held3 (fun W => Since w5 W) (first | assumption | exact Since.drew (by assumption)) ((first | (go_at_call 9; (with_reducible refine (Calls.since (by assumption) (bApart_at HD2.out _)).mono ?_); rintro e w8 ⟨rfl, hb8⟩) | (go_at_call 11; (with_reducible refine (Calls.since (by assumption) (bBeside_at HBS.out _)).mono ?_); rintro e w9 ⟨rfl, hb9⟩)))
          go_wp2_with fail
          go_roundw
          case rel => exact ⟨m + 1, by go_num, by omega, Since.trans hb6 (Since.trans hS5 hb9)⟩
          case measure => simp [intOf]; omega
        · go_simp
          have hgb : w6.heap.size ≤ wq.heap.size := Since.size_ hq
          refine hK.out _ _ ((Since.alloc hq _)) (fun hHeld => ?_)
          clear hK K
          try simp only [Act.put, List.getElem_toArray, List.getElem_cons_succ, List.getElem_cons_zero, List.setIfInBounds_toArray, List.set_cons_zero, List.set_cons_succ]
          refine wpAnyH_ready (rs := [8]) (by kernel_rfl) (by simp) ?_
          refine AllReadyH.cons rfl (fun K hK => ?_) AllReadyH.nil
          go_simp
          refine (HCL.out (wq.alloc (.cells #[.int .i64 0, .int .i64 0, .int .i64 0] 37)) (Since.trans hb6 (Since.alloc hq (.cells #[.int .i64 0, .int .i64 0, .int .i64 0] 37)))).mono ?_
          rintro e wc0 ⟨rfl, hd0⟩
          have hc0 : Since w6 wc0 := Since.trans (Since.alloc hq (.cells #[.int .i64 0, .int .i64 0, .int .i64 0] 37)) hd0
          have b0 : Whole wc0 (wq.heap.size) 37 #[.int .i64 0, .int .i64 0, .int .i64 0] := Since.whole hd0 (Whole.new wq 37 #[.int .i64 0, .int .i64 0, .int .i64 0])
          go_wp2_with fail
          refine hK.out _ _ (hc0) (fun hHeld => ?_)
          clear hK K
          try simp only [Act.put, List.getElem_toArray, List.getElem_cons_succ, List.getElem_cons_zero, List.setIfInBounds_toArray, List.set_cons_zero, List.set_cons_succ]
          refine wpAnyH_take (i := 9) (v := ?_) rfl (by kernel_rfl) (by kernel_rfl) (by kernel_rfl) (fun _ _ _ h => h) (Or.inl ⟨by rfl, ?_⟩) (by assumption) ?_
          rotate_left 1
          · (intro W hW; clear hW; go_simp; try with_reducible rfl)
          simp only [Act.put, List.getElem_toArray, List.getElem_cons_succ, List.getElem_cons_zero, List.setIfInBounds_toArray, List.set_cons_zero, List.set_cons_succ]
          refine wpAnyH_take (i := 10) (v := ?_) rfl (by kernel_rfl) (by kernel_rfl) (by kernel_rfl) (fun _ _ _ h => h) (Or.inl ⟨by rfl, ?_⟩) (by assumption) ?_
          rotate_left 1
          · (intro W hW; clear hW; go_simp; try with_reducible rfl)
          simp only [Act.put, List.getElem_toArray, List.getElem_cons_succ, List.getElem_cons_zero, List.setIfInBounds_toArray, List.set_cons_zero, List.set_cons_succ]
          refine wpAnyH_take (i := 11) (v := ?_) rfl (by kernel_rfl) (by kernel_rfl) (by kernel_rfl) (fun _ _ _ h => h) (Or.inl ⟨by rfl, ?_⟩) (by assumption) ?_
          rotate_left 1
          · (intro W hW; clear hW; go_simp; try with_reducible rfl)
          simp only [Act.put, List.getElem_toArray, List.getElem_cons_succ, List.getElem_cons_zero, List.setIfInBounds_toArray, List.set_cons_zero, List.set_cons_succ]
          refine wpAnyH_ready (rs := [13]) (by kernel_rfl) (by simp) ?_
          refine AllReadyH.cons rfl (fun K hK => ?_) AllReadyH.nil
          have x0 := Whole.cell b0 0
          have y0 := Whole.frozen b0 0
          have x1 := Whole.cell b0 1
          have y1 := Whole.frozen b0 1
          have x2 := Whole.cell b0 2
          have y2 := Whole.frozen b0 2
          go_simp
          clear x0 y0 x1 y1 x2 y2
          refine hK.out _ _ ((Since.setCell (Since.setCell (Since.setCell hc0 (p := ⟨wq.heap.size, 0, none⟩) hgb (.int .i64 ud)) (p := ⟨wq.heap.size, 1, none⟩) hgb (.int .i64 ub)) (p := ⟨wq.heap.size, 2, none⟩) hgb (.int .i64 uw))) (fun hHeld => ?_)
          clear hK K
          try simp only [Act.put, List.getElem_toArray, List.getElem_cons_succ, List.getElem_cons_zero, List.setIfInBounds_toArray, List.set_cons_zero, List.set_cons_succ]
          refine wpAnyH_take (i := 14) (v := ?_) rfl (by kernel_rfl) (by kernel_rfl) (by kernel_rfl) (fun _ _ _ h => h) (Or.inl ⟨by rfl, ?_⟩) (by assumption) ?_
          rotate_left 1
          · (intro W hW; clear hW; go_simp; try with_reducible rfl)
          simp only [Act.put, List.getElem_toArray, List.getElem_cons_succ, List.getElem_cons_zero, List.setIfInBounds_toArray, List.set_cons_zero, List.set_cons_succ]
          refine wpAnyH_done (by kernel_rfl) ?_ _
          obtain ⟨w5, hw5⟩ : ∃ w5, w5 = (World.setCell (World.setCell (World.setCell wc0 ⟨wq.heap.size, 0, none⟩ (.int .i64 ud)) ⟨wq.heap.size, 1, none⟩ (.int .i64 ub)) ⟨wq.heap.size, 2, none⟩ (.int .i64 uw)) := ⟨_, rfl⟩
          have hS5 : Since w6 w5 := Since.named (Since.setCell (Since.setCell (Since.setCell hc0 (p := ⟨wq.heap.size, 0, none⟩) hgb (.int .i64 ud)) (p := ⟨wq.heap.size, 1, none⟩) hgb (.int .i64 ub)) (p := ⟨wq.heap.size, 2, none⟩) hgb (.int .i64 uw)) hw5
          have hN5 : Whole w5 (wq.heap.size) 37 #[.int .i64 ud, .int .i64 ub, .int .i64 uw] := Whole.named (Whole.set_ (Whole.set_ (Whole.set_ b0 0 (.int .i64 ud)) 1 (.int .i64 ub)) 2 (.int .i64 uw)) hw5
          obtain ⟨NB, hNB⟩ : ∃ NB, NB = wq.heap.size := ⟨_, rfl⟩
          rw [← hw5, ← hNB]
          rw [← hNB] at hN5
          clear hHeld hw5 hNB
          have x1 := fun W (h : Since w5 W) => v1 W (Since.trans hS5 h)
          have x2 := fun W (h : Since w5 W) => v2 W (Since.trans hS5 h)
          have x3 := fun W (h : Since w5 W) => v3 W (Since.trans hS5 h)
          have x4 := fun W (h : Since w5 W) => v4 W (Since.trans hS5 h)
          have x5 := fun W (h : Since w5 W) => v5 W (Since.trans hS5 h)
          have hsr := Since.refl w5
          have hsd := hsr.drew
          have n0 := box_cell hN5 0 _ rfl
          have n1 := box_cell hN5 1 _ rfl
          have n2 := box_cell hN5 2 _ rfl
          clear v1 v2 v3 v4 v5
          go_upto_region 13 with fail
          go_region_held3 (fun W => Since w5 W) (first | assumption | exact Since.drew (by assumption)) ((first | (go_at_call 9; (with_reducible refine (Calls.since (by assumption) (bApart_at HD2.out _)).mono ?_); rintro e w8 ⟨rfl, hb8⟩) | (go_at_call 11; (with_reducible refine (Calls.since (by assumption) (bBeside_at HBS.out _)).mono ?_); rintro e w9 ⟨rfl, hb9⟩)))
          go_wp2_with fail
          go_roundw
          case rel => exact ⟨m + 1, by go_num, by omega, Since.trans hb6 (Since.trans hS5 hb9)⟩
          case measure => simp [intOf]; omega
    · obtain rfl : m = T.length := by omega
      have d1 : decide ((T.length : Int) < T.length) = false := decide_eq_false (by omega)
      obtain ⟨⟨zd, zb, zw⟩, hn1, hn2⟩ := HNE.out
      have HNR := Lib.hid (fun W (hW : Since wB W) => nearest_any (k := K) (x := X) (y := Y) W (HL5.out.since hW (Nat.le_refl _)) hW.size_ hln)
      rw [hn1] at HNR
      simp only [nrV] at HNR
      have HFR := Lib.hid (fun W (hW : Since wB W) => P.find X Y (P.since HFI.out hW))
      rw [HTT.out, hn2] at HFR
      simp only [tlV] at HFR
      have e1 : (zd == zd) = true := beq_self_eq_true _
      have e2 : (zb == zb) = true := beq_self_eq_true _
      have e3 : (zw == zw) = true := beq_self_eq_true _
      clear hn1 hn2 hform
      go_wp2_with (first | (go_at_call 12; (with_reducible refine (HNR.out _ hs).mono ?_); rintro e w6 ⟨rfl, hb6⟩; (have hsa : Since wB (w6.alloc (.cells #[.int .i64 zd, .int .i64 zb, .int .i64 zw] 37)) := Since.alloc (Since.trans hs hb6) _); (have n6 := Whole.new w6 37 #[.int .i64 zd, .int .i64 zb, .int .i64 zw])) | (go_at_call 13; (with_reducible refine (HFR.out _ hsa).mono ?_); rintro e w7 ⟨rfl, hb7⟩; (have hs8 : Since wB (w7.alloc (.cells #[.int .i64 zd, .int .i64 zb, .int .i64 zw] 37)) := Since.alloc (Since.trans hsa hb7) _); (have n7 := Whole.new w7 37 #[.int .i64 zd, .int .i64 zb, .int .i64 zw]); (have m7 := Whole.alloc (Since.whole (show Since _ w7 from hb7) n6) (.cells #[.int .i64 zd, .int .i64 zb, .int .i64 zw] 37)); (have p0 := n7.cell 0); (have p1 := n7.cell 1); (have p2 := n7.cell 2); (have q0 := m7.cell 0); (have q1 := m7.cell 1); (have q2 := m7.cell 2)) | (go_at_call 14; (with_reducible refine (HCN.out _ hs8).mono ?_); rintro e w9 ⟨rfl, hb9⟩))
      go_ret
      exact ⟨by rfl, hbwB.trans (Below.mono (Since.trans hs8 hb9) hbwB.size)⟩
theorem bwhole_go (k : Int) (a : Option Addr) (len cap : Nat) (A : List Ac) (x y : Int) (w : World) (_ : (Lit.int .i64 k).wf = true) (hA : LentE encA 4 w.heap.size w (.slice a len cap) A) (_ : (Lit.int .i64 x).wf = true) (_ : (Lit.int .i64 y).wf = true) :
    Calls Try.prog 3 #[.int .i64 k, .slice a len cap, .agg #[.int .i64 x, .int .i64 y]] w fun e w' => e = .returned (.bool true) ∧ Below w.heap.size w w' :=
  bwhole_walk tilQ k x y w hA (Nat.le_refl _)
end Go.Proofs.Ytbbnojfecmocgaa
