/- gleberef08: New. gleberef08: In. -/
import Derived.Test.YthfhpejpjiaikaaGreatK08
import Derived.Test.YthfhpejpjiaikaaGreatK28
import Derived.Test.YthfhpejpjiaikaaGreatK33
import Derived.Test.YthfhpejpjiaikaaGreatK34
import Derived.Test.YthfhpejpjiaikaaGreatK35
namespace Go.Proofs.YthfhpejpjiaikaaGreat
open Go.RowKit
attribute [local go_sem] Oper.semAt_some
set_option linter.unusedVariables false
set_option linter.unusedSimpArgs false
/-- What New answers. -/
def DNewP (k d b : Int) (l : List Rq) (w : World) (e : Ending) (W' : World) : Prop :=
  (okP k d b = true ∧ l.all (okR (zoneR k d b)) = true ∧ ∃ gr v, e = .returned (.tuple #[.pointer (some ⟨gr, 0, none⟩), .int .i64 0]) ∧ DocO gr k d b (putsQ [] l) v W' ∧ w.heap.size ≤ gr ∧ Below w.heap.size w W') ∨
  ((okP k d b && l.all (okR (zoneR k d b))) = false ∧ e = .returned (.tuple #[.pointer none, .int .i64 1]) ∧ Below w.heap.size w W')
set_option maxRecDepth 100000 in
set_option maxHeartbeats 3200000 in
theorem dnew_any {B : Nat} {k d b : Int} {v : Value} {l : List Rq} {w : World} (hA : LentE encQ 5 B w v l) (hB : B ≤ w.heap.size) (hl : l.length ≤ 900) :
    Calls Tryz.prog 11 #[.int .i64 k, .agg #[.int .i64 d, .int .i64 b], v] w (DNewP k d b l w) := by
  obtain ⟨a, cap, rfl, hc⟩ := hA
  obtain ⟨n, hn⟩ : ∃ n, l.length = n := ⟨_, rfl⟩
  have HN := Lib.hid hn
  have hc' : Hid (∀ i (hi : i < n), ∃ g off, a = some ⟨g, off, none⟩ ∧ ∀ W, Since w W → ∀ j u, (encQ (l[i]'(by rw [HN.out]; exact hi)))[j]? = some u → W.cell? ⟨g, off + i * 5 + j, none⟩ = some u) := by
    intro i hi
    rcases hc with hc | ⟨g, off, ha, hgB, hc⟩
    · omega
    · refine ⟨g, off, ha, fun W hW j u hu => ?_⟩
      have e : ∀ j, W.cell? ⟨g, j, none⟩ = w.cell? ⟨g, j, none⟩ := fun j => World.cell?_of_block (hW.block g (Nat.lt_of_lt_of_le hgB hB))
      exact (e _).trans (hc i (by rw [HN.out]; exact hi) j u hu)
  rw [hn] at hl ⊢
  clear hc hn
  obtain ⟨w0, hw0⟩ : ∃ w0, w0 = w.alloc (.cells #[.int .i64 d, .int .i64 b] 23) := ⟨_, rfl⟩
  have hs0 : Since w w0 := by rw [hw0]; exact (Since.refl w).alloc _
  have wh0 : Whole w0 (w.heap.size) 23 #[.int .i64 d, .int .i64 b] := by rw [hw0]; exact Whole.new w _ _
  have HW := Lib.hid hw0
  have c0_0 := box_cell wh0 0 (.int .i64 d) rfl
  have c0_1 := box_cell wh0 1 (.int .i64 b) rfl
  have hsr := Since.refl w0
  have hsd := hsr.drew
  clear hw0 wh0
  have HS0 := Lib.hid hs0
  cases ho : okP k d b with
  | false =>
    have HO := Lib.hid (fun W => refRightP_at ho W)
    have HX := Lib.hid ho
    clear ho hs0 hc'
    go_enter Tryz.func11, Tryz.ntmps11
    go_wp2_with fail
    rw [← HW.out]
    go_wp2_with (go_at_call 32; (with_reducible refine (HO.out _).mono ?_); rintro e w1 ⟨rfl, hb1⟩; (have hs1 : Since w0 w1 := hb1))
    go_ret2
    exact .inr ⟨by rw [HX.out]; rfl, rfl, HS0.out.trans hs1⟩
  | true =>
    have HO := Lib.hid (fun W => refRightP_at ho W)
    have HX := Lib.hid ho
    clear ho hs0
    go_enter Tryz.func11, Tryz.ntmps11
    go_wp2_with fail
    rw [← HW.out]
    go_wp2_with (go_at_call 32; (with_reducible refine (HO.out _).mono ?_); rintro e w1 ⟨rfl, hb1⟩; (have hs1 : Since w0 w1 := hb1))
    obtain ⟨gr, hgr⟩ : ∃ gr, gr = w1.heap.size := ⟨_, rfl⟩
    obtain ⟨wl, hwl⟩ : ∃ wl, wl = w1.alloc (.cells #[.int .i64 k, .int .i64 d, .int .i64 b, .slice none 0 0] 81) := ⟨_, rfl⟩
    rw [← hwl, ← hgr]
    have hw0 := HS0.out.size_
    have hw1 := hs1.size_
    have hgw : w.heap.size ≤ gr := by omega
    have hT0 : DocO gr k d b [] (.slice none 0 0) wl := by rw [hwl, hgr]; exact ⟨Whole.new w1 _ _, RowE.nil _ _ _, fun z => (by cases z), HX.out, sortQ_nil, fun s hs => (by cases hs)⟩
    have hsl : Since w wl := by rw [hwl]; exact (HS0.out.trans hs1).alloc _
    have HGW := Lib.hid hgw
    clear hwl hgr hw0 hw1 hs1 hb1 hsr hsd c0_0 c0_1 hgw
    go_loopw [9] (fun i wr => ∃ m : Nat, i = .int .i64 (m : Int) ∧ m ≤ n ∧ (∃ v, DocO gr k d b (putsQ [] (l.take m)) v wr) ∧ Since w wr ∧ (l.take m).all (okR (zoneR k d b)) = true) (fun i _ => n - (intOf i).toNat)
    case atStart => exact ⟨0, rfl, Nat.zero_le _, ⟨_, hT0⟩, hsl, rfl⟩
    case round =>
      obtain ⟨m, rfl, hm, ⟨v, hT⟩, hwr, hall⟩ := hrel
      clear hT0 hsl
      by_cases hlt : m < n
      · obtain ⟨g, off, rfl, hcell⟩ := hc'.out m hlt
        have hll : m < l.length := by rw [HN.out]; exact hlt
        obtain ⟨r, hz⟩ : ∃ z, l[m] = z := ⟨_, rfl⟩
        have htk : l.take (m + 1) = l.take m ++ [r] := by rw [List.take_add_one, List.getElem?_eq_getElem hll, hz]; rfl
        rw [hz] at hcell
        have b0 := hcell wr hwr 0 (.int .i64 r.x) rfl
        have b1 := hcell wr hwr 1 (.int .i64 r.y) rfl
        have b2 := hcell wr hwr 2 (.string r.key) rfl
        have b3 := hcell wr hwr 3 (.string r.val) rfl
        have b4 := hcell wr hwr 4 (.int .i64 r.ver) rfl
        rw [Nat.add_zero] at b0
        have h1' : (m : Int) < n := by omega
        have hln : (putsQ [] (l.take m)).length ≤ 900 := by have := putsQ_most [] (l.take m); rw [List.length_take] at this; simp only [List.length_nil] at this; omega
        have hput := dput_any hT hln r
        unfold DPutP putT at hput
        have HTK := Lib.hid (And.intro htk (And.intro hwr hall))
        have HRL := Lib.hid (show r ∈ l by rw [← hz]; exact List.getElem_mem hll)
        cases hok : okR (zoneR k d b) r with
        | false =>
          simp only [hok, Bool.false_and, Bool.false_eq_true, if_false] at hput
          have HP := Lib.hid hput
          have HOK := Lib.hid hok
          clear hput hok hT htk hwr hall hcell hz hll hln
          go_wp2_with (go_at_call 33; (with_reducible refine HP.out.mono ?_); rintro e w5 ⟨rfl, -, p3⟩)
          go_ret2
          obtain ⟨htk, hwr, hall⟩ := HTK.out
          have hgw := HGW.out
          refine .inr ⟨?_, rfl, Below.trans (show Below w.heap.size w _ from hwr) (p3.below (B := w.heap.size) hwr.size (fun c z => by have z' : c = gr := z; omega))⟩
          rw [Bool.and_eq_false_iff]
          refine .inr (List.all_eq_false.2 ⟨r, HRL.out, ?_⟩)
          rw [HOK.out]
          exact Bool.false_ne_true
        | true =>
          obtain ⟨H, hH⟩ : ∃ H, hasQ (putsQ [] (l.take m)) r.x r.y r.key = H := ⟨_, rfl⟩
          simp only [hok, Bool.true_and, if_true] at hput
          rw [hH, ← putsQ_snoc, ← htk] at hput
          have HP := Lib.hid hput
          have HOK := Lib.hid hok
          clear hput hok hT htk hwr hall hcell hz hll hln hH
          go_wp2_with (go_at_call 33; (with_reducible refine HP.out.mono ?_); rintro e w5 ⟨rfl, p1, p3⟩)
          go_roundw
          case rel =>
            obtain ⟨htk, hwr, hall⟩ := HTK.out
            have hgw := HGW.out
            refine ⟨m + 1, by go_num, by omega, p1, Below.trans (show Below w.heap.size w _ from hwr) (p3.below (B := w.heap.size) hwr.size (fun c z => by have z' : c = gr := z; omega)), ?_⟩
            rw [htk, List.all_append, hall, List.all_cons, HOK.out]
            rfl
          case measure => simp [intOf]; omega
      · obtain rfl : m = n := by omega
        rw [List.take_of_length_le (Nat.le_of_eq HN.out)] at hT hall
        have HE := Lib.hid (And.intro hT (And.intro hwr hall))
        clear hT hwr hall
        have h1' : ¬ ((m : Int) < m) := by omega
        go_wp2
        go_ret2
        exact .inl ⟨HX.out, HE.out.2.2, gr, v, rfl, HE.out.1, HGW.out, HE.out.2.1⟩
theorem dnew_yes {k d b : Int} {l : List Rq} {w W' : World} {e : Ending} (h : DNewP k d b l w e W') (ho : okP k d b = true) (ha : l.all (okR (zoneR k d b)) = true) :
    ∃ gr v, e = .returned (.tuple #[.pointer (some ⟨gr, 0, none⟩), .int .i64 0]) ∧ DocO gr k d b (putsQ [] l) v W' ∧ w.heap.size ≤ gr ∧ Below w.heap.size w W' := by
  rcases h with ⟨_, _, h⟩ | ⟨h, _⟩
  · exact h
  · rw [ho, ha] at h; cases h
end Go.Proofs.YthfhpejpjiaikaaGreat
namespace Go.Proofs.YthfhpejpjiaikaaGreat
open Go.RowKit
attribute [local go_sem] Oper.semAt_some
set_option linter.unusedVariables false
set_option linter.unusedSimpArgs false
set_option maxRecDepth 100000 in
set_option maxHeartbeats 3200000 in
theorem din_any {gr : Nat} {k d b : Int} {L : List Rq} {v : Value} {w : World} (h : DocO gr k d b L v w) (hl : L.length ≤ 900) (rx ry rw' rh : Int) :
    Calls Tryz.prog 95 #[.pointer (some ⟨gr, 0, none⟩), .agg #[.int .i64 rx, .int .i64 ry, .int .i64 rw', .int .i64 rh]] w fun e W' => ∃ u, e = .returned u ∧ RowE encQ 5 W' w.heap.size 52 u (L.filter (inQ ⟨rx, ry, rw', rh⟩)) ∧ Below w.heap.size w W' := by
  obtain ⟨va, vc, rfl⟩ := h.size
  obtain ⟨n, hn⟩ : ∃ n, L.length = n := ⟨_, rfl⟩
  have HN := Lib.hid hn
  obtain ⟨w0, hw0⟩ : ∃ w0, w0 = w.alloc (.cells #[.int .i64 rx, .int .i64 ry, .int .i64 (rw'), .int .i64 rh] 112) := ⟨_, rfl⟩
  have hs0 : Since w w0 := by rw [hw0]; exact (Since.refl w).alloc _
  have wh0 : Whole w0 (w.heap.size) 112 #[.int .i64 rx, .int .i64 ry, .int .i64 (rw'), .int .i64 rh] := by rw [hw0]; exact Whole.new w _ _
  have HW := Lib.hid hw0
  have c0_0 := box_cell wh0 0 (.int .i64 rx) rfl
  have c0_1 := box_cell wh0 1 (.int .i64 ry) rfl
  have c0_2 := box_cell wh0 2 (.int .i64 (rw')) rfl
  have c0_3 := box_cell wh0 3 (.int .i64 rh) rfl
  have hsr := Since.refl w0
  have hsd := hsr.drew
  clear hw0 wh0
  have a3 := fun W (hW : Since w0 W) => (Since.whole (hs0.trans hW) h.box).cell 3
  rw [hn] at a3
  have H0 := Lib.hid (h.since hs0)
  have HS0 := Lib.hid hs0
  have hw0 := hs0.size_
  clear h hs0
  rw [hn] at hl
  go_enter Tryz.func95, Tryz.ntmps95
  go_wp2_with fail
  rw [← HW.out]
  go_loopw [5, 6] (fun out i wr => ∃ m : Nat, i = .int .i64 (m : Int) ∧ m ≤ n ∧ RowE encQ 5 wr w0.heap.size 52 out ((L.take m).filter (inQ ⟨rx, ry, rw', rh⟩)) ∧ Since w0 wr) (fun _ i _ => n - (intOf i).toNat)
  case atStart => exact ⟨0, rfl, Nat.zero_le _, RowE.nil _ _ _, hsr⟩
  case round =>
    obtain ⟨m, rfl, hm, hrow, hwr⟩ := hrel
    by_cases hlt : m < n
    · have hll : m < L.length := by rw [hn]; exact hlt
      obtain ⟨s, hsL⟩ : ∃ s, L[m] = s := ⟨_, rfl⟩
      obtain ⟨g, rfl, hc5⟩ := (hn ▸ H0.out : DocO gr k d b L (.slice va n vc) w0).rec_ hll hsL
      have t0 := fun W (hW : Since wr W) => hc5 W (hwr.trans hW) 0 (.int .i64 s.x) rfl
      have t1 := fun W (hW : Since wr W) => hc5 W (hwr.trans hW) 1 (.int .i64 s.y) rfl
      have t2 := fun W (hW : Since wr W) => hc5 W (hwr.trans hW) 2 (.string s.key) rfl
      have t3 := fun W (hW : Since wr W) => hc5 W (hwr.trans hW) 3 (.string s.val) rfl
      have t4 := fun W (hW : Since wr W) => hc5 W (hwr.trans hW) 4 (.int .i64 s.ver) rfl
      rw [Nat.add_zero] at t0
      have a4 := fun W (hW : Since wr W) => a3 W (hwr.trans hW)
      have r0 := fun W (hW : Since wr W) => c0_0 W (hwr.trans hW)
      have r1 := fun W (hW : Since wr W) => c0_1 W (hwr.trans hW)
      have r2 := fun W (hW : Since wr W) => c0_2 W (hwr.trans hW)
      have r3 := fun W (hW : Since wr W) => c0_3 W (hwr.trans hW)
      have hd1 : (m : Int) < n := by omega
      have hd2 : decide ((m : Int) < n) = true := decide_eq_true hd1
      have htk := take_filt hll ⟨rx, ry, rw', rh⟩
      rw [hsL] at htk
      have hmax : ((L.take m).filter (inQ ⟨rx, ry, rw', rh⟩)).length ≤ 100000 := by
        have h1 := List.length_filter_le (inQ ⟨rx, ry, rw', rh⟩) (L.take m)
        rw [List.length_take] at h1; omega
      obtain ⟨P, hP⟩ : ∃ P, (L.take m).filter (inQ ⟨rx, ry, rw', rh⟩) = P := ⟨_, rfl⟩
      rw [hP] at hrow htk hmax
      obtain ⟨xa, xc, rfl⟩ := RowE.shp hrow
      have HRW := Lib.hid (fun W (hW : Since wr W) => hrow.since hW)
      have HWR := Lib.hid hwr
      obtain ⟨q, hq⟩ : ∃ q, inQ ⟨rx, ry, rw', rh⟩ s = q := ⟨_, rfl⟩
      rw [hq] at htk
      have HH := Lib.hid (fun W => dHas4_at (show hasR ⟨rx, ry, rw', rh⟩ s.x s.y = q from hq) W)
      have HTK := Lib.hid htk
      have hwz := hwr.size_
      have hsrr := Since.refl wr
      clear hc5 hsL hP hrow hwr hq htk hll
      cases q with
      | false =>
        go_wp2_with fail
        refine wp_region_held_drew (S := fun W => Since wr W) (by kernel_rfl) (Since.refl wr).drew (fun hHeld => ?_)
        generalize wr.drew = wq at hHeld ⊢
        have hq : Since wr wq := hHeld
        refine wpAnyH_take (i := 0) (v := ?_) rfl (by kernel_rfl) (by kernel_rfl) (by kernel_rfl) (fun _ _ _ h => h) (Or.inl ⟨by rfl, ?_⟩) (by assumption) ?_
        rotate_left 1
        · (intro W hW; skip; go_simp; try with_reducible rfl)
        simp only [Act.put, List.getElem_toArray, List.getElem_cons_zero, List.setIfInBounds_toArray, List.set_cons_zero, List.set_cons_succ]
        refine wpAnyH_take (i := 1) (v := ?_) rfl (by kernel_rfl) (by kernel_rfl) (by kernel_rfl) (fun _ _ _ h => h) (Or.inl ⟨by rfl, ?_⟩) (by assumption) ?_
        rotate_left 1
        · (intro W hW; clear hW; go_simp; try with_reducible rfl)
        simp only [Act.put, List.getElem_toArray, List.getElem_cons_succ, List.getElem_cons_zero, List.setIfInBounds_toArray, List.set_cons_zero, List.set_cons_succ]
        refine wpAnyH_take (i := 2) (v := ?_) rfl (by kernel_rfl) (by kernel_rfl) (by kernel_rfl) (fun _ _ _ h => h) (Or.inl ⟨by rfl, ?_⟩) (by assumption) ?_
        rotate_left 1
        · (intro W hW; clear hW; go_simp; try with_reducible rfl)
        simp only [Act.put, List.getElem_toArray, List.getElem_cons_succ, List.getElem_cons_zero, List.setIfInBounds_toArray, List.set_cons_zero, List.set_cons_succ]
        refine wpAnyH_take (i := 3) (v := ?_) rfl (by kernel_rfl) (by kernel_rfl) (by kernel_rfl) (fun _ _ _ h => h) (Or.inl ⟨by rfl, ?_⟩) (by assumption) ?_
        rotate_left 1
        · (intro W hW; clear hW; go_simp; try with_reducible rfl)
        simp only [Act.put, List.getElem_toArray, List.getElem_cons_succ, List.getElem_cons_zero, List.setIfInBounds_toArray, List.set_cons_zero, List.set_cons_succ]
        refine wpAnyH_take (i := 4) (v := ?_) rfl (by kernel_rfl) (by kernel_rfl) (by kernel_rfl) (fun _ _ _ h => h) (Or.inl ⟨by rfl, ?_⟩) (by assumption) ?_
        rotate_left 1
        · (intro W hW; skip; go_simp; try with_reducible rfl)
        simp only [Act.put, List.getElem_toArray, List.getElem_cons_succ, List.getElem_cons_zero, List.setIfInBounds_toArray, List.set_cons_zero, List.set_cons_succ]
        refine wpAnyH_take (i := 5) (v := ?_) rfl (by kernel_rfl) (by kernel_rfl) (by kernel_rfl) (fun _ _ _ h => h) (Or.inl ⟨by rfl, ?_⟩) (by assumption) ?_
        rotate_left 1
        · (intro W hW; clear hW; go_simp; try with_reducible rfl)
        simp only [Act.put, List.getElem_toArray, List.getElem_cons_succ, List.getElem_cons_zero, List.setIfInBounds_toArray, List.set_cons_zero, List.set_cons_succ]
        refine wpAnyH_take (i := 6) (v := ?_) rfl (by kernel_rfl) (by kernel_rfl) (by kernel_rfl) (fun _ _ _ h => h) (Or.inl ⟨by rfl, ?_⟩) (by assumption) ?_
        rotate_left 1
        · (intro W hW; clear hW; go_simp; try with_reducible rfl)
        simp only [Act.put, List.getElem_toArray, List.getElem_cons_succ, List.getElem_cons_zero, List.setIfInBounds_toArray, List.set_cons_zero, List.set_cons_succ]
        refine wpAnyH_take (i := 7) (v := ?_) rfl (by kernel_rfl) (by kernel_rfl) (by kernel_rfl) (fun _ _ _ h => h) (Or.inl ⟨by rfl, ?_⟩) (by assumption) ?_
        rotate_left 1
        · (intro W hW; clear hW; go_simp; try with_reducible rfl)
        simp only [Act.put, List.getElem_toArray, List.getElem_cons_succ, List.getElem_cons_zero, List.setIfInBounds_toArray, List.set_cons_zero, List.set_cons_succ]
        refine wpAnyH_take (i := 8) (v := ?_) rfl (by kernel_rfl) (by kernel_rfl) (by kernel_rfl) (fun _ _ _ h => h) (Or.inl ⟨by rfl, ?_⟩) (by assumption) ?_
        rotate_left 1
        · (intro W hW; skip; go_simp; try with_reducible rfl)
        simp only [Act.put, List.getElem_toArray, List.getElem_cons_succ, List.getElem_cons_zero, List.setIfInBounds_toArray, List.set_cons_zero, List.set_cons_succ]
        refine wpAnyH_ready (rs := [9]) (by kernel_rfl) (by simp) ?_
        refine AllReadyH.cons rfl (fun K hK => ?_) AllReadyH.nil
        go_simp
        refine (Calls.since hq (HH.out _)).mono ?_
        rintro e w2 ⟨rfl, hb2⟩
        go_wp2_with fail
        refine hK.out _ _ (hb2) (fun hHeld => ?_)
        clear hK K
        try simp only [Act.put, List.getElem_toArray, List.getElem_cons_succ, List.getElem_cons_zero, List.setIfInBounds_toArray, List.set_cons_zero, List.set_cons_succ]
        refine wpAnyH_done (by kernel_rfl) ?_ _
        go_wp2_with fail
        go_roundw
        case rel => exact ⟨m + 1, by go_num, by omega, by rw [HTK.out, if_neg Bool.false_ne_true, List.append_nil]; exact HRW.out _ hb2, HWR.out.trans hb2⟩
        case measure => simp [intOf]; omega
      | true =>
        go_wp2_with fail
        refine wp_region_held_drew (S := fun W => Since wr W) (by kernel_rfl) (Since.refl wr).drew (fun hHeld => ?_)
        generalize wr.drew = wq at hHeld ⊢
        have hq : Since wr wq := hHeld
        refine wpAnyH_take (i := 0) (v := ?_) rfl (by kernel_rfl) (by kernel_rfl) (by kernel_rfl) (fun _ _ _ h => h) (Or.inl ⟨by rfl, ?_⟩) (by assumption) ?_
        rotate_left 1
        · (intro W hW; skip; go_simp; try with_reducible rfl)
        simp only [Act.put, List.getElem_toArray, List.getElem_cons_zero, List.setIfInBounds_toArray, List.set_cons_zero, List.set_cons_succ]
        refine wpAnyH_take (i := 1) (v := ?_) rfl (by kernel_rfl) (by kernel_rfl) (by kernel_rfl) (fun _ _ _ h => h) (Or.inl ⟨by rfl, ?_⟩) (by assumption) ?_
        rotate_left 1
        · (intro W hW; clear hW; go_simp; try with_reducible rfl)
        simp only [Act.put, List.getElem_toArray, List.getElem_cons_succ, List.getElem_cons_zero, List.setIfInBounds_toArray, List.set_cons_zero, List.set_cons_succ]
        refine wpAnyH_take (i := 2) (v := ?_) rfl (by kernel_rfl) (by kernel_rfl) (by kernel_rfl) (fun _ _ _ h => h) (Or.inl ⟨by rfl, ?_⟩) (by assumption) ?_
        rotate_left 1
        · (intro W hW; clear hW; go_simp; try with_reducible rfl)
        simp only [Act.put, List.getElem_toArray, List.getElem_cons_succ, List.getElem_cons_zero, List.setIfInBounds_toArray, List.set_cons_zero, List.set_cons_succ]
        refine wpAnyH_take (i := 3) (v := ?_) rfl (by kernel_rfl) (by kernel_rfl) (by kernel_rfl) (fun _ _ _ h => h) (Or.inl ⟨by rfl, ?_⟩) (by assumption) ?_
        rotate_left 1
        · (intro W hW; clear hW; go_simp; try with_reducible rfl)
        simp only [Act.put, List.getElem_toArray, List.getElem_cons_succ, List.getElem_cons_zero, List.setIfInBounds_toArray, List.set_cons_zero, List.set_cons_succ]
        refine wpAnyH_take (i := 4) (v := ?_) rfl (by kernel_rfl) (by kernel_rfl) (by kernel_rfl) (fun _ _ _ h => h) (Or.inl ⟨by rfl, ?_⟩) (by assumption) ?_
        rotate_left 1
        · (intro W hW; skip; go_simp; try with_reducible rfl)
        simp only [Act.put, List.getElem_toArray, List.getElem_cons_succ, List.getElem_cons_zero, List.setIfInBounds_toArray, List.set_cons_zero, List.set_cons_succ]
        refine wpAnyH_take (i := 5) (v := ?_) rfl (by kernel_rfl) (by kernel_rfl) (by kernel_rfl) (fun _ _ _ h => h) (Or.inl ⟨by rfl, ?_⟩) (by assumption) ?_
        rotate_left 1
        · (intro W hW; clear hW; go_simp; try with_reducible rfl)
        simp only [Act.put, List.getElem_toArray, List.getElem_cons_succ, List.getElem_cons_zero, List.setIfInBounds_toArray, List.set_cons_zero, List.set_cons_succ]
        refine wpAnyH_take (i := 6) (v := ?_) rfl (by kernel_rfl) (by kernel_rfl) (by kernel_rfl) (fun _ _ _ h => h) (Or.inl ⟨by rfl, ?_⟩) (by assumption) ?_
        rotate_left 1
        · (intro W hW; clear hW; go_simp; try with_reducible rfl)
        simp only [Act.put, List.getElem_toArray, List.getElem_cons_succ, List.getElem_cons_zero, List.setIfInBounds_toArray, List.set_cons_zero, List.set_cons_succ]
        refine wpAnyH_take (i := 7) (v := ?_) rfl (by kernel_rfl) (by kernel_rfl) (by kernel_rfl) (fun _ _ _ h => h) (Or.inl ⟨by rfl, ?_⟩) (by assumption) ?_
        rotate_left 1
        · (intro W hW; clear hW; go_simp; try with_reducible rfl)
        simp only [Act.put, List.getElem_toArray, List.getElem_cons_succ, List.getElem_cons_zero, List.setIfInBounds_toArray, List.set_cons_zero, List.set_cons_succ]
        refine wpAnyH_take (i := 8) (v := ?_) rfl (by kernel_rfl) (by kernel_rfl) (by kernel_rfl) (fun _ _ _ h => h) (Or.inl ⟨by rfl, ?_⟩) (by assumption) ?_
        rotate_left 1
        · (intro W hW; skip; go_simp; try with_reducible rfl)
        simp only [Act.put, List.getElem_toArray, List.getElem_cons_succ, List.getElem_cons_zero, List.setIfInBounds_toArray, List.set_cons_zero, List.set_cons_succ]
        refine wpAnyH_ready (rs := [9]) (by kernel_rfl) (by simp) ?_
        refine AllReadyH.cons rfl (fun K hK => ?_) AllReadyH.nil
        go_simp
        refine (Calls.since hq (HH.out _)).mono ?_
        rintro e w2 ⟨rfl, hb2⟩
        go_wp2_with fail
        refine hK.out _ _ (hb2) (fun hHeld => ?_)
        clear hK K
        try simp only [Act.put, List.getElem_toArray, List.getElem_cons_succ, List.getElem_cons_zero, List.setIfInBounds_toArray, List.set_cons_zero, List.set_cons_succ]
        refine wpAnyH_done (by kernel_rfl) ?_ _
        have hr2 := HRW.out _ hb2
        have hs2 : Since wr w2 := hb2
        have hbW : w0.heap.size ≤ w2.heap.size := by have := hs2.size_; omega
        go_wp2_with (at_builtin; refine wpList_append_off rfl _ _ 24 rfl w0.heap.size 52 _ 56 Tryz.underlying24 infoRR rfl (by decide) hr2 s rfl rfl (by simp [encQ, Value.oneCell']) rfl rfl hmax (by decide) hbW ?_; intro v' w3 hrow3 hoff3 hob3)
        go_roundw
        case rel =>
          refine ⟨m + 1, by go_num, by omega, by rw [HTK.out, if_pos trivial]; exact hrow3, ?_⟩
          exact hoff3.since_of8 (HWR.out.trans hs2) (fun c z => (hr2.own c z).1)
        case measure => simp [intOf]; omega
    · obtain rfl : m = n := by omega
      rw [List.take_of_length_le (Nat.le_of_eq hn)] at hrow
      have HX := Lib.hid (And.intro hrow hwr)
      have hd1 : ¬ ((m : Int) < m) := by omega
      have a4 := fun W (hW : Since wr W) => a3 W (hwr.trans hW)
      have hsrr := Since.refl wr
      clear hrow hwr
      go_wp2
      go_ret
      exact ⟨_, rfl, HX.out.1.mono hw0, HS0.out.trans HX.out.2⟩
end Go.Proofs.YthfhpejpjiaikaaGreat
