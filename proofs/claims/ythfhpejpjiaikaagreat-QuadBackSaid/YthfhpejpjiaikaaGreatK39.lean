/- glebelaw08.fits: each record's cell brought into the zone, of these the right ones. -/
import Derived.Test.YthfhpejpjiaikaaGreatK02
import Derived.Test.YthfhpejpjiaikaaGreatK05
import Derived.Test.YthfhpejpjiaikaaGreatK08
import Derived.Test.YthfhpejpjiaikaaGreatK13
import Derived.Test.YthfhpejpjiaikaaGreatK33
namespace Go.Proofs.YthfhpejpjiaikaaGreat
open Go.RowKit
attribute [local go_sem] Oper.semAt_some
set_option linter.unusedVariables false
set_option linter.unusedSimpArgs false
def fitR (z : Rc) (r : Rq) : Rq := ⟨z.x + r.x % z.w, z.y + r.y % z.h, r.key, r.val, r.ver⟩
def rightQ (r : Rq) : Bool := recB r.x r.y r.key r.val r.ver
def fitsQ (z : Rc) (l : List Rq) : List Rq := (l.map (fitR z)).filter rightQ
theorem fits_len (z : Rc) (l : List Rq) : (fitsQ z l).length ≤ l.length := by
  have := List.length_filter_le rightQ (l.map (fitR z))
  rw [List.length_map] at this
  exact this
theorem fits_ok {z : Rc} (hz : Good z) (hw : 0 < z.w) (hh : 0 < z.h) {l : List Rq} {r : Rq} (h : r ∈ fitsQ z l) : okR z r = true := by
  obtain ⟨h1, h2⟩ := List.mem_filter.1 h
  obtain ⟨s, hs, rfl⟩ := List.mem_map.1 h1
  unfold okR inQ
  rw [Bool.and_eq_true]
  refine ⟨(hz.has _ _).2 ?_, h2⟩
  have a1 := Int.emod_nonneg s.x (show z.w ≠ 0 by omega)
  have a2 := Int.emod_lt_of_pos s.x hw
  have a3 := Int.emod_nonneg s.y (show z.h ≠ 0 by omega)
  have a4 := Int.emod_lt_of_pos s.y hh
  simp only [fitR]
  omega
theorem infoRef : (Tryz.prog.info? 52).map (fun i => (i.zero, i.size, i.bytes)) = some (some (.agg #[.int .i64 0, .int .i64 0, .string ⟨#[]⟩, .string ⟨#[]⟩, .int .i64 0]), 5, 56) := by kernel_rfl
set_option maxRecDepth 100000 in
set_option maxHeartbeats 3200000 in
theorem fits_any {B : Nat} {k d b : Int} {v : Value} {l : List Rq} {w : World} (hA : LentE encQ 5 B w v l) (hB : B ≤ w.heap.size) (hl : l.length ≤ 1000) (ho : okP k d b = true) : Calls Tryz.prog 15 #[.int .i64 k, .agg #[.int .i64 d, .int .i64 b], v] w fun e w' => ∃ u, e = .returned u ∧ RowE encQ 5 w' w.heap.size 52 u (fitsQ (zoneR k d b) l) ∧ Below w.heap.size w w' := by
  obtain ⟨a, cap, rfl, hc⟩ := hA
  obtain ⟨n, hn⟩ : ∃ n, l.length = n := ⟨_, rfl⟩
  have HN := Lib.hid hn
  have hc' : Hid (∀ k (hk : k < n), ∃ g off, a = some ⟨g, off, none⟩ ∧ ∀ W, Since w W → ∀ j u, (encQ (l[k]'(by rw [HN.out]; exact hk)))[j]? = some u → W.cell? ⟨g, off + k * 5 + j, none⟩ = some u) := by
    intro k hk
    rcases hc with hc | ⟨g, off, ha, hgB, hc⟩
    · omega
    · refine ⟨g, off, ha, fun W hW j u hu => ?_⟩
      have e : ∀ j, W.cell? ⟨g, j, none⟩ = w.cell? ⟨g, j, none⟩ := fun j => World.cell?_of_block (hW.block g (Nat.lt_of_lt_of_le hgB hB))
      exact (e _).trans (hc k (by rw [HN.out]; exact hk) j u hu)
  rw [hn] at hl ⊢
  clear hc hn
  have hg := zone_good ho
  obtain ⟨-, hw1, hh1, -⟩ := zone_right ho
  have hcor : ∀ W, Calls Tryz.prog 39 #[.agg #[.int .i64 k], .agg #[.int .i64 d, .int .i64 b]] W fun e w' => e = .returned (.tuple #[.agg #[.int .i64 ((zoneR k d b).x), .int .i64 ((zoneR k d b).y)], .int .i64 (zoneR k d b).w, .int .i64 (zoneR k d b).h]) ∧ Below W.heap.size W w' := fun W => corner_raw k d b W ho
  generalize zoneR k d b = z at hg hw1 hh1 hcor ⊢
  obtain ⟨zx, zy, zw, zh⟩ := z
  simp only at hg hw1 hh1 hcor
  have HC := Lib.hid hcor
  have g1 := hg.x0
  clear hcor
  have hsr := Since.refl w
  go_enter Tryz.func15, Tryz.ntmps15
  go_wp2_with (go_at_call 39; (with_reducible refine (Calls.since (hsr.alloc _) (HC.out _)).mono ?_); rintro e w1 ⟨rfl, hb1⟩; (have hs1 : Since w w1 := hb1); (have hbx := Whole.new w1 50 #[.int .i64 zx, .int .i64 zy]))
  go_loopw [10, 11] (fun out i wr => ∃ k : Nat, i = .int .i64 (k : Int) ∧ k ≤ n ∧ RowE encQ 5 wr w.heap.size 52 out (fitsQ ⟨zx, zy, zw, zh⟩ (l.take k)) ∧ Since w wr ∧ Whole wr w1.heap.size 50 #[.int .i64 zx, .int .i64 zy] ∧ out.ownBlock ≠ some w1.heap.size) (fun _ i _ => n - (intOf i).toNat)
  case atStart => exact ⟨0, rfl, Nat.zero_le _, RowE.nil _ _ _, hs1.alloc _, hbx, by simp [Value.ownBlock]⟩
  case round =>
    obtain ⟨k, rfl, hk, hrow, hwr, hcb, hnb⟩ := hrel
    by_cases hlt : k < n
    · obtain ⟨g, off, rfl, hcell⟩ := hc'.out k hlt
      have hll : k < l.length := by rw [HN.out]; exact hlt
      obtain ⟨r, hz⟩ : ∃ z, l[k] = z := ⟨_, rfl⟩
      have hz2 : fitsQ ⟨zx, zy, zw, zh⟩ (l.take (k + 1)) = fitsQ ⟨zx, zy, zw, zh⟩ (l.take k) ++ (if rightQ (fitR ⟨zx, zy, zw, zh⟩ r) = true then [fitR ⟨zx, zy, zw, zh⟩ r] else []) := by
        rw [List.take_add_one, List.getElem?_eq_getElem hll, hz]
        unfold fitsQ
        rw [List.map_append, List.filter_append]
        congr 1
        simp only [Option.toList_some, List.map_cons, List.map_nil, List.filter_cons, List.filter_nil]
      rw [hz] at hcell
      have HZ := Lib.hid hz2
      have b0 := hcell wr hwr 0 (.int .i64 r.x) rfl
      have b1 := hcell wr hwr 1 (.int .i64 r.y) rfl
      have b2 := hcell wr hwr 2 (.string r.key) rfl
      have b3 := hcell wr hwr 3 (.string r.val) rfl
      have b4 := hcell wr hwr 4 (.int .i64 r.ver) rfl
      rw [Nat.add_zero] at b0
      have h1' : (k : Int) < n := by omega
      have hmax : (fitsQ ⟨zx, zy, zw, zh⟩ (l.take k)).length ≤ 100000 := Nat.le_trans (fits_len _ _) (by rw [List.length_take]; omega)
      obtain ⟨F, hF⟩ : ∃ F, fitsQ ⟨zx, zy, zw, zh⟩ (l.take k) = F := ⟨_, rfl⟩
      rw [hF] at hrow hmax HZ
      obtain ⟨va, vc, rfl⟩ := RowE.shp hrow
      obtain ⟨N, hFN⟩ : ∃ N, F.length = N := ⟨_, rfl⟩
      have HF := Lib.hid hFN
      rw [hFN] at hrow hmax hnb ⊢
      obtain ⟨x1, hx1⟩ : ∃ z, r.x.tmod zw = z := ⟨_, rfl⟩
      obtain ⟨y1, hy1⟩ : ∃ z, r.y.tmod zh = z := ⟨_, rfl⟩
      have ex : (x1 + zw).tmod zw = r.x % zw := by rw [← hx1]; exact tmod_pos r.x zw hw1
      have ey : (y1 + zh).tmod zh = r.y % zh := by rw [← hy1]; exact tmod_pos r.y zh hh1
      have gx := hg.x1; have gy := hg.y1; have gx0 := hg.x0; have gy0 := hg.y0
      simp only at gx gy gx0 gy0
      have bx := tmod_bd r.x zw hw1
      have by' := tmod_bd r.y zh hh1
      rw [hx1] at bx
      rw [hy1] at by'
      have wx : IntKind.i64.wrap (x1 + zw) = x1 + zw := IntWalk.i64_in _ (by omega)
      have wy : IntKind.i64.wrap (y1 + zh) = y1 + zh := IntWalk.i64_in _ (by omega)
      have mx := Int.emod_nonneg r.x (show zw ≠ 0 by omega)
      have mx' := Int.emod_lt_of_pos r.x hw1
      have my := Int.emod_nonneg r.y (show zh ≠ 0 by omega)
      have my' := Int.emod_lt_of_pos r.y hh1
      obtain ⟨X, hX⟩ : ∃ X, zx + r.x % zw = X := ⟨_, rfl⟩
      obtain ⟨Y, hY⟩ : ∃ Y, zy + r.y % zh = Y := ⟨_, rfl⟩
      have wX : IntKind.i64.wrap (zx + r.x % zw) = X := by rw [← hX]; exact IntWalk.i64_in _ (by omega)
      have wY : IntKind.i64.wrap (zy + r.y % zh) = Y := by rw [← hY]; exact IntWalk.i64_in _ (by omega)
      have hfr : fitR ⟨zx, zy, zw, zh⟩ r = ⟨X, Y, r.key, r.val, r.ver⟩ := by unfold fitR; rw [hX, hY]
      have nzw : zw ≠ 0 := by omega
      have nzh : zh ≠ 0 := by omega
      rw [hfr] at HZ
      have HR := Lib.hid (fun W (hW : Since wr W) => hrow.since hW)
      have HWR := Lib.hid hwr
      have HCB := Lib.hid hcb
      have HNB := Lib.hid (show Value.ownBlock (.slice va N vc) ≠ some w1.heap.size from hnb)
      have hbs : w.heap.size ≤ wr.heap.size := hwr.size_
      clear hz2 hcell hF hX hY hfr hg gx gy gx0 gy0 bx by' mx mx' my my' hw1 hh1 hFN hrow hbx hb1 hs1 hcb hwr hll hz hnb
      go_wp2_with fail
      have hbN := Whole.new wr 52 #[.int .i64 r.x, .int .i64 r.y, .string r.key, .string r.val, .int .i64 r.ver]
      have hcA := HCB.out.alloc (.cells #[.int .i64 r.x, .int .i64 r.y, .string r.key, .string r.val, .int .i64 r.ver] 52)
      have hsA := (Since.refl wr).alloc (.cells #[.int .i64 r.x, .int .i64 r.y, .string r.key, .string r.val, .int .i64 r.ver] 52)
      obtain ⟨WA, hWA⟩ : ∃ WA, WA = wr.alloc (.cells #[.int .i64 r.x, .int .i64 r.y, .string r.key, .string r.val, .int .i64 r.ver] 52) := ⟨_, rfl⟩
      rw [← hWA] at hbN hcA hsA ⊢
      clear hWA
      refine wp_region_last (fun W' => Since WA W') 26 (by kernel_rfl) (Since.refl WA).drew (fun hHeld => ?_)
      generalize WA.drew = wq at hHeld ⊢
      have hq : Since WA wq := hHeld
      have q0 := fun W (hW : Since WA W) => (Since.whole hW hcA).cell 0
      have q1 := fun W (hW : Since WA W) => (Since.whole hW hcA).cell 1
      have q2 := fun W (hW : Since WA W) => (Since.whole hW hbN).cell 0
      have q3 := fun W (hW : Since WA W) => (Since.whole hW hbN).cell 1
      refine wpLast_take (i := 0) (v := ?_) rfl (by decide) (by kernel_rfl) (by kernel_rfl) (by kernel_rfl) (by kernel_rfl) (fun _ _ _ h => h) (Or.inl ⟨by rfl, ?_⟩) (by assumption) ?_
      rotate_left 1
      · (intro W hW; clear hW; go_simp; try with_reducible rfl)
      simp only [Act.put, List.getElem_toArray, List.getElem_cons_zero, List.setIfInBounds_toArray, List.set_cons_zero, List.set_cons_succ]
      refine wpLast_take (i := 1) (v := ?_) rfl (by decide) (by kernel_rfl) (by kernel_rfl) (by kernel_rfl) (by kernel_rfl) (fun _ _ _ h => h) (Or.inl ⟨by rfl, ?_⟩) (by assumption) ?_
      rotate_left 1
      · (intro W hW; skip; go_simp; try with_reducible rfl)
      simp only [Act.put, List.getElem_toArray, List.getElem_cons_succ, List.getElem_cons_zero, List.setIfInBounds_toArray, List.set_cons_zero, List.set_cons_succ]
      refine wpLast_take (i := 2) (v := ?_) rfl (by decide) (by kernel_rfl) (by kernel_rfl) (by kernel_rfl) (by kernel_rfl) (fun _ _ _ h => h) (Or.inl ⟨by rfl, ?_⟩) (by assumption) ?_
      rotate_left 1
      · (intro W hW; clear hW; go_simp; try with_reducible rfl)
      simp only [Act.put, List.getElem_toArray, List.getElem_cons_succ, List.getElem_cons_zero, List.setIfInBounds_toArray, List.set_cons_zero, List.set_cons_succ]
      refine wpLast_take (i := 3) (v := ?_) rfl (by decide) (by kernel_rfl) (by kernel_rfl) (by kernel_rfl) (by kernel_rfl) (fun _ _ _ h => h) (Or.inl ⟨by rfl, ?_⟩) (by assumption) ?_
      rotate_left 1
      · (intro W hW; clear hW; go_simp; try with_reducible rfl)
      simp only [Act.put, List.getElem_toArray, List.getElem_cons_succ, List.getElem_cons_zero, List.setIfInBounds_toArray, List.set_cons_zero, List.set_cons_succ]
      refine wpLast_take (i := 4) (v := ?_) rfl (by decide) (by kernel_rfl) (by kernel_rfl) (by kernel_rfl) (by kernel_rfl) (fun _ _ _ h => h) (Or.inl ⟨by rfl, ?_⟩) (by assumption) ?_
      rotate_left 1
      · (intro W hW; skip; go_simp; try with_reducible rfl)
      simp only [Act.put, List.getElem_toArray, List.getElem_cons_succ, List.getElem_cons_zero, List.setIfInBounds_toArray, List.set_cons_zero, List.set_cons_succ]
      refine wpLast_take (i := 5) (v := ?_) rfl (by decide) (by kernel_rfl) (by kernel_rfl) (by kernel_rfl) (by kernel_rfl) (fun _ _ _ h => h) (Or.inl ⟨by rfl, ?_⟩) (by assumption) ?_
      rotate_left 1
      · (intro W hW; clear hW; go_simp; try with_reducible rfl)
      simp only [Act.put, List.getElem_toArray, List.getElem_cons_succ, List.getElem_cons_zero, List.setIfInBounds_toArray, List.set_cons_zero, List.set_cons_succ]
      refine wpLast_take (i := 6) (v := ?_) rfl (by decide) (by kernel_rfl) (by kernel_rfl) (by kernel_rfl) (by kernel_rfl) (fun _ _ _ h => h) (Or.inl ⟨by rfl, ?_⟩) (by assumption) ?_
      rotate_left 1
      · (intro W hW; clear hW; go_simp; try with_reducible rfl)
      simp only [Act.put, List.getElem_toArray, List.getElem_cons_succ, List.getElem_cons_zero, List.setIfInBounds_toArray, List.set_cons_zero, List.set_cons_succ]
      refine wpLast_take (i := 7) (v := ?_) rfl (by decide) (by kernel_rfl) (by kernel_rfl) (by kernel_rfl) (by kernel_rfl) (fun _ _ _ h => h) (Or.inl ⟨by rfl, ?_⟩) (by assumption) ?_
      rotate_left 1
      · (intro W hW; clear hW; go_simp; try with_reducible rfl)
      simp only [Act.put, List.getElem_toArray, List.getElem_cons_succ, List.getElem_cons_zero, List.setIfInBounds_toArray, List.set_cons_zero, List.set_cons_succ]
      refine wpLast_take (i := 8) (v := ?_) rfl (by decide) (by kernel_rfl) (by kernel_rfl) (by kernel_rfl) (by kernel_rfl) (fun _ _ _ h => h) (Or.inl ⟨by rfl, ?_⟩) (by assumption) ?_
      rotate_left 1
      · (intro W hW; clear hW; go_simp; try with_reducible rfl)
      simp only [Act.put, List.getElem_toArray, List.getElem_cons_succ, List.getElem_cons_zero, List.setIfInBounds_toArray, List.set_cons_zero, List.set_cons_succ]
      refine wpLast_take (i := 9) (v := ?_) rfl (by decide) (by kernel_rfl) (by kernel_rfl) (by kernel_rfl) (by kernel_rfl) (fun _ _ _ h => h) (Or.inl ⟨by rfl, ?_⟩) (by assumption) ?_
      rotate_left 1
      · (intro W hW; clear hW; go_simp; try with_reducible rfl)
      simp only [Act.put, List.getElem_toArray, List.getElem_cons_succ, List.getElem_cons_zero, List.setIfInBounds_toArray, List.set_cons_zero, List.set_cons_succ]
      refine wpLast_take (i := 10) (v := ?_) rfl (by decide) (by kernel_rfl) (by kernel_rfl) (by kernel_rfl) (by kernel_rfl) (fun _ _ _ h => h) (Or.inl ⟨by rfl, ?_⟩) (by assumption) ?_
      rotate_left 1
      · (intro W hW; clear hW; go_simp; try with_reducible rfl)
      simp only [Act.put, List.getElem_toArray, List.getElem_cons_succ, List.getElem_cons_zero, List.setIfInBounds_toArray, List.set_cons_zero, List.set_cons_succ]
      refine wpLast_take (i := 11) (v := ?_) rfl (by decide) (by kernel_rfl) (by kernel_rfl) (by kernel_rfl) (by kernel_rfl) (fun _ _ _ h => h) (Or.inl ⟨by rfl, ?_⟩) (by assumption) ?_
      rotate_left 1
      · (intro W hW; clear hW; go_simp; try with_reducible rfl)
      simp only [Act.put, List.getElem_toArray, List.getElem_cons_succ, List.getElem_cons_zero, List.setIfInBounds_toArray, List.set_cons_zero, List.set_cons_succ]
      refine wpLast_take (i := 12) (v := ?_) rfl (by decide) (by kernel_rfl) (by kernel_rfl) (by kernel_rfl) (by kernel_rfl) (fun _ _ _ h => h) (Or.inl ⟨by rfl, ?_⟩) (by assumption) ?_
      rotate_left 1
      · (intro W hW; clear hW; go_simp; try with_reducible rfl)
      simp only [Act.put, List.getElem_toArray, List.getElem_cons_succ, List.getElem_cons_zero, List.setIfInBounds_toArray, List.set_cons_zero, List.set_cons_succ]
      refine wpLast_take (i := 13) (v := ?_) rfl (by decide) (by kernel_rfl) (by kernel_rfl) (by kernel_rfl) (by kernel_rfl) (fun _ _ _ h => h) (Or.inl ⟨by rfl, ?_⟩) (by assumption) ?_
      rotate_left 1
      · (intro W hW; skip; go_simp; try with_reducible rfl)
      simp only [Act.put, List.getElem_toArray, List.getElem_cons_succ, List.getElem_cons_zero, List.setIfInBounds_toArray, List.set_cons_zero, List.set_cons_succ]
      refine wpLast_take (i := 14) (v := ?_) rfl (by decide) (by kernel_rfl) (by kernel_rfl) (by kernel_rfl) (by kernel_rfl) (fun _ _ _ h => h) (Or.inl ⟨by rfl, ?_⟩) (by assumption) ?_
      rotate_left 1
      · (intro W hW; clear hW; go_simp; try with_reducible rfl)
      simp only [Act.put, List.getElem_toArray, List.getElem_cons_succ, List.getElem_cons_zero, List.setIfInBounds_toArray, List.set_cons_zero, List.set_cons_succ]
      refine wpLast_take (i := 15) (v := ?_) rfl (by decide) (by kernel_rfl) (by kernel_rfl) (by kernel_rfl) (by kernel_rfl) (fun _ _ _ h => h) (Or.inl ⟨by rfl, ?_⟩) (by assumption) ?_
      rotate_left 1
      · (intro W hW; clear hW; go_simp; try with_reducible rfl)
      simp only [Act.put, List.getElem_toArray, List.getElem_cons_succ, List.getElem_cons_zero, List.setIfInBounds_toArray, List.set_cons_zero, List.set_cons_succ]
      refine wpLast_take (i := 16) (v := ?_) rfl (by decide) (by kernel_rfl) (by kernel_rfl) (by kernel_rfl) (by kernel_rfl) (fun _ _ _ h => h) (Or.inl ⟨by rfl, ?_⟩) (by assumption) ?_
      rotate_left 1
      · (intro W hW; skip; go_simp; try with_reducible rfl)
      simp only [Act.put, List.getElem_toArray, List.getElem_cons_succ, List.getElem_cons_zero, List.setIfInBounds_toArray, List.set_cons_zero, List.set_cons_succ]
      refine wpLast_take (i := 17) (v := ?_) rfl (by decide) (by kernel_rfl) (by kernel_rfl) (by kernel_rfl) (by kernel_rfl) (fun _ _ _ h => h) (Or.inl ⟨by rfl, ?_⟩) (by assumption) ?_
      rotate_left 1
      · (intro W hW; clear hW; go_simp; try with_reducible rfl)
      simp only [Act.put, List.getElem_toArray, List.getElem_cons_succ, List.getElem_cons_zero, List.setIfInBounds_toArray, List.set_cons_zero, List.set_cons_succ]
      refine wpLast_take (i := 18) (v := ?_) rfl (by decide) (by kernel_rfl) (by kernel_rfl) (by kernel_rfl) (by kernel_rfl) (fun _ _ _ h => h) (Or.inl ⟨by rfl, ?_⟩) (by assumption) ?_
      rotate_left 1
      · (intro W hW; clear hW; go_simp; try with_reducible rfl)
      simp only [Act.put, List.getElem_toArray, List.getElem_cons_succ, List.getElem_cons_zero, List.setIfInBounds_toArray, List.set_cons_zero, List.set_cons_succ]
      refine wpLast_take (i := 19) (v := ?_) rfl (by decide) (by kernel_rfl) (by kernel_rfl) (by kernel_rfl) (by kernel_rfl) (fun _ _ _ h => h) (Or.inl ⟨by rfl, ?_⟩) (by assumption) ?_
      rotate_left 1
      · (intro W hW; clear hW; go_simp; try with_reducible rfl)
      simp only [Act.put, List.getElem_toArray, List.getElem_cons_succ, List.getElem_cons_zero, List.setIfInBounds_toArray, List.set_cons_zero, List.set_cons_succ]
      refine wpLast_take (i := 20) (v := ?_) rfl (by decide) (by kernel_rfl) (by kernel_rfl) (by kernel_rfl) (by kernel_rfl) (fun _ _ _ h => h) (Or.inl ⟨by rfl, ?_⟩) (by assumption) ?_
      rotate_left 1
      · (intro W hW; clear hW; go_simp; try with_reducible rfl)
      simp only [Act.put, List.getElem_toArray, List.getElem_cons_succ, List.getElem_cons_zero, List.setIfInBounds_toArray, List.set_cons_zero, List.set_cons_succ]
      refine wpLast_take (i := 21) (v := ?_) rfl (by decide) (by kernel_rfl) (by kernel_rfl) (by kernel_rfl) (by kernel_rfl) (fun _ _ _ h => h) (Or.inl ⟨by rfl, ?_⟩) (by assumption) ?_
      rotate_left 1
      · (intro W hW; clear hW; go_simp; try with_reducible rfl)
      simp only [Act.put, List.getElem_toArray, List.getElem_cons_succ, List.getElem_cons_zero, List.setIfInBounds_toArray, List.set_cons_zero, List.set_cons_succ]
      refine wpLast_take (i := 22) (v := ?_) rfl (by decide) (by kernel_rfl) (by kernel_rfl) (by kernel_rfl) (by kernel_rfl) (fun _ _ _ h => h) (Or.inl ⟨by rfl, ?_⟩) (by assumption) ?_
      rotate_left 1
      · (intro W hW; clear hW; go_simp; try with_reducible rfl)
      simp only [Act.put, List.getElem_toArray, List.getElem_cons_succ, List.getElem_cons_zero, List.setIfInBounds_toArray, List.set_cons_zero, List.set_cons_succ]
      refine wpLast_take (i := 23) (v := ?_) rfl (by decide) (by kernel_rfl) (by kernel_rfl) (by kernel_rfl) (by kernel_rfl) (fun _ _ _ h => h) (Or.inl ⟨by rfl, ?_⟩) (by assumption) ?_
      rotate_left 1
      · (intro W hW; clear hW; go_simp; try with_reducible rfl)
      simp only [Act.put, List.getElem_toArray, List.getElem_cons_succ, List.getElem_cons_zero, List.setIfInBounds_toArray, List.set_cons_zero, List.set_cons_succ]
      refine wpLast_take (i := 24) (v := ?_) rfl (by decide) (by kernel_rfl) (by kernel_rfl) (by kernel_rfl) (by kernel_rfl) (fun _ _ _ h => h) (Or.inl ⟨by rfl, ?_⟩) (by assumption) ?_
      rotate_left 1
      · (intro W hW; clear hW; go_simp; try with_reducible rfl)
      simp only [Act.put, List.getElem_toArray, List.getElem_cons_succ, List.getElem_cons_zero, List.setIfInBounds_toArray, List.set_cons_zero, List.set_cons_succ]
      refine wpLast_take (i := 25) (v := ?_) rfl (by decide) (by kernel_rfl) (by kernel_rfl) (by kernel_rfl) (by kernel_rfl) (fun _ _ _ h => h) (Or.inl ⟨by rfl, ?_⟩) (by assumption) ?_
      rotate_left 1
      · (intro W hW; clear hW; go_simp; try with_reducible rfl)
      simp only [Act.put, List.getElem_toArray, List.getElem_cons_succ, List.getElem_cons_zero, List.setIfInBounds_toArray, List.set_cons_zero, List.set_cons_succ]
      refine wpLast_ready (rs := [26]) (by kernel_rfl) (by simp) ?_
      refine LastReady.cons rfl (fun K hK => ?_) LastReady.nil
      have z0 := (Since.whole hq hbN).cell 0
      have z1 := (Since.whole hq hbN).frozen 0
      have z2 := (Since.whole hq hbN).cell 1
      have z3 := (Since.whole hq hbN).frozen 1
      go_simp
      clear z0 z1 z2 z3
      refine hK.out _ _ (fun h => absurd rfl h) (fun hHeld => ?_)
      clear hK K
      try simp only [Act.put, List.getElem_toArray, List.getElem_cons_succ, List.getElem_cons_zero, List.setIfInBounds_toArray, List.set_cons_zero, List.set_cons_succ]
      refine wpLast_done (by kernel_rfl) ?_ _
      clear q0 q1 q2 q3 hHeld
      have hsq : Since wr wq := hsA.trans hq
      have h5 := ((Since.whole hq hbN).set_ 0 (.int .i64 X)).set_ 1 (.int .i64 Y)
      have hs5 : Since wr ((wq.setCell ⟨wr.heap.size, 0, none⟩ (.int .i64 X)).setCell ⟨wr.heap.size, 1, none⟩ (.int .i64 Y)) := Since.setCell (Since.setCell hsq (p := ⟨wr.heap.size, 0, none⟩) (Nat.le_refl _) _) (p := ⟨wr.heap.size, 1, none⟩) (Nat.le_refl _) _
      generalize ((wq.setCell ⟨wr.heap.size, 0, none⟩ (.int .i64 X)).setCell ⟨wr.heap.size, 1, none⟩ (.int .i64 Y)) = W5 at h5 hs5 ⊢
      replace h5 : Whole W5 wr.heap.size 52 #[.int .i64 X, .int .i64 Y, .string r.key, .string r.val, .int .i64 r.ver] := h5
      clear hHeld hq hsq hcA hbN hsA
      have d0 := h5.cell 0; have d1 := h5.cell 1; have d2 := h5.cell 2; have d3 := h5.cell 3; have d4 := h5.cell 4
      obtain ⟨R, hR⟩ : ∃ R, recB X Y r.key r.val r.ver = R := ⟨_, rfl⟩
      have hZ := HZ.out
      rw [show rightQ ⟨X, Y, r.key, r.val, r.ver⟩ = R from hR] at hZ
      have HZ2 := Lib.hid hZ
      clear hZ HZ
      cases R with
      | true =>
        go_wp2_with (first
          | (go_at_call 40; (with_reducible refine (refRightRec_at hR _).mono ?_); rintro e w6 ⟨rfl, hb6⟩; (have hs6 : Since W5 w6 := hb6); (have h6 := Since.whole hs6 h5); (have y0 := h6.cell 0); (have y1' := h6.cell 1); (have y2 := h6.cell 2); (have y3 := h6.cell 3); (have y4 := h6.cell 4); (have hs56 := hs5.trans hs6); (have hr6 := HR.out w6 hs56); (have hbW : w.heap.size ≤ w6.heap.size := Nat.le_trans hbs hs56.size_); (have HC6 := Lib.hid (Since.whole hs56 HCB.out)))
          | (at_builtin; refine wpList_append_off rfl _ _ 24 rfl w.heap.size 52 _ 56 Tryz.underlying24 infoRef rfl (by decide) (show RowE encQ 5 w6 w.heap.size 52 _ F from hr6) ⟨X, Y, r.key, r.val, r.ver⟩ rfl rfl (by simp [encQ, Value.oneCell']) rfl rfl (by rw [HF.out]; exact hmax) (by decide) hbW ?_; intro v' w7 hrow7 hoff7 hob7))
        go_roundw
        case rel =>
          have hw7 : Since w w7 := Below.trans (show Below w.heap.size w w6 from HWR.out.trans hs56) (hoff7.below (B := w.heap.size) hbW (fun c z => (hr6.own c z).1))
          refine ⟨k + 1, by go_num, by omega, ?_, hw7, Off.whole hoff7 HC6.out HNB.out, ?_⟩
          · rw [HZ2.out]
            exact hrow7
          · rcases hob7 with z | ⟨g7, z, hge⟩
            · rw [z]; exact HNB.out
            · rw [z]; intro e; injection e with e; have := HC6.out.lt; omega
        case measure => simp [intOf]; omega
      | false =>
        go_wp2_with (go_at_call 40; (with_reducible refine (refRightRec_at hR _).mono ?_); rintro e w6 ⟨rfl, hb6⟩; (have hs6 : Since W5 w6 := hb6); (have h6 := Since.whole hs6 h5); (have y0 := h6.cell 0); (have y1' := h6.cell 1); (have y2 := h6.cell 2); (have y3 := h6.cell 3); (have y4 := h6.cell 4); (have hs56 := hs5.trans hs6); (have hr6 := HR.out w6 hs56); (have hbW : w.heap.size ≤ w6.heap.size := Nat.le_trans hbs hs56.size_); (have HC6 := Lib.hid (Since.whole hs56 HCB.out)))
        go_roundw
        case rel =>
          refine ⟨k + 1, by go_num, by omega, ?_, HWR.out.trans hs56, HC6.out, HNB.out⟩
          rw [HZ2.out]
          simpa using hr6
        case measure => simp [intOf]; omega
    · obtain rfl : k = n := by omega
      rw [List.take_of_length_le (Nat.le_of_eq HN.out)] at hrow
      have HX := Lib.hid (And.intro hrow hwr)
      clear hrow hwr hcb hnb
      go_wp2
      go_ret
      exact ⟨_, rfl, HX.out.1, HX.out.2⟩
end Go.Proofs.YthfhpejpjiaikaaGreat
