/- The walk of the law PathZones. -/
import Derived.Test.YtilkifjdonafnaaPZoneM
import Derived.Deep.Cut
import Derived.Deep.CutRange
namespace Go.Proofs.Ytilkifjdonafnaa
open Go.RowKit
theorem corner_at {k d b p q r s : Int} (w : World) (h : okP k d b = true) (e : corF (side k) (ups d b (cnt d b)) = (p, q, r, s)) : Calls Try.prog 20 #[.agg #[.int .i64 k], .agg #[.int .i64 d, .int .i64 b]] w fun e w' => e = .returned (.tuple #[.agg #[.int .i64 p, .int .i64 q], .int .i64 r, .int .i64 s]) ∧ Below w.heap.size w w' := by
  have h1 := corner_raw k d b w h
  rw [e] at h1
  exact h1
theorem at_at {k x y d A : Int} {dn : Nat} (w : World) (h : hasB k x y = true) (hdn : d = (dn : Int)) (hd : d ≤ 2 * k) (e : atV k x y dn = A) : Calls Try.prog 18 #[.agg #[.int .i64 k], .agg #[.int .i64 x, .int .i64 y], .int .i64 d] w fun e w' => e = .returned (.tuple #[.agg #[.int .i64 d, .int .i64 A], .int .i64 0]) ∧ Below w.heap.size w w' := e ▸ at_yes k x y d dn w h hdn hd
theorem wrap_at {k x y X Y : Int} (h1 : x % sd k = X) (h2 : y % sd k = Y) (w : World) : Calls Try.prog 28 #[.agg #[.int .i64 k], .int .i64 x, .int .i64 y] w fun e w' => e = .returned (.agg #[.int .i64 X, .int .i64 Y]) ∧ Below w.heap.size w w' := h1 ▸ h2 ▸ wrap_any k x y w
theorem area_step {r s D N : Int} {n : Nat} (h : 0 < r * s ∧ r * s * 2 ^ D.toNat ≤ N ∧ N ≤ 4294967296) (hn : n < D.toNat) : wrap64 (r * s * 2 ^ n * 2) = r * s * 2 ^ (n + 1) := by
  have e1 : r * s * 2 ^ n * 2 = r * s * 2 ^ (n + 1) := by rw [p2_succ, Int.mul_assoc, Int.mul_comm (2 ^ n) 2]
  have h1 : r * s * 2 ^ (n + 1) ≤ r * s * 2 ^ D.toNat := Int.mul_le_mul_of_nonneg_left (p2_le (by omega)) (by omega)
  have h2 : 0 ≤ r * s * 2 ^ (n + 1) := Int.mul_nonneg (by omega) (Int.le_of_lt (p2_pos _))
  rw [e1]
  exact IntWalk.wrap64_in _ ⟨by omega, by omega⟩
set_option maxRecDepth 100000 in
set_option maxHeartbeats 2000000 in
theorem zones_walk (k pd pb qd qb cx cy : Int) (w : World) : Calls Try.prog 6 #[.int .i64 k, .agg #[.int .i64 pd, .int .i64 pb], .agg #[.int .i64 qd, .int .i64 qb], .agg #[.int .i64 cx, .int .i64 cy]] w fun e w' => e = .returned (.bool true) ∧ Below w.heap.size w w' := by
  have k1 := tmod_bd k 16 (by decide)
  have k2 := tmod_pos k 16 (by decide)
  obtain ⟨R, hR⟩ : ∃ R, k % 16 = R := ⟨_, rfl⟩
  have k3 : 0 ≤ R ∧ R < 16 := by omega
  rw [hR] at k2
  clear hR
  obtain ⟨n, hn⟩ : ∃ n : Nat, 1 + R = (n : Int) := ⟨(1 + R).toNat, by omega⟩
  obtain ⟨K, hK⟩ : ∃ K, 1 + R = K := ⟨_, rfl⟩
  have hKn : K = (n : Int) := by omega
  have hr : rgt K = true := by rw [rgt_iff]; omega
  have hsd : side K = 2 ^ n := by rw [side_yes hr, hKn]; rfl
  have HK0 := Lib.hid (show 0 ≤ K by omega)
  have HK1 := Lib.hid (show K ≤ 16 by omega)
  obtain ⟨D, hD⟩ : ∃ D, smD K pd = D := ⟨_, rfl⟩
  obtain ⟨B, hBB⟩ : ∃ B, smB K pd pb = B := ⟨_, rfl⟩
  obtain ⟨F, hF⟩ : ∃ F, smD K qd = F := ⟨_, rfl⟩
  obtain ⟨C, hCC⟩ : ∃ C, smB K qd qb = C := ⟨_, rfl⟩
  have op := some_ok K pd pb (by omega)
  have oq := some_ok K qd qb (by omega)
  rw [hD, hBB] at op
  rw [hF, hCC] at oq
  have OP := Lib.hid op
  have OQ := Lib.hid oq
  have fp := okP_fine op
  have fq := okP_fine oq
  have d1 := (okP_iff _ _ _).1 op
  rw [hKn] at op oq
  obtain ⟨p, q, r, s, Z⟩ := zone_of op
  obtain ⟨a, b, v, g, Z'⟩ := zone_of oq
  obtain ⟨X, hX⟩ : ∃ X, cx % sd K = X := ⟨_, rfl⟩
  obtain ⟨Y, hY⟩ : ∃ Y, cy % sd K = Y := ⟨_, rfl⟩
  have hx0 := Int.emod_nonneg cx (show sd K ≠ 0 by have := sd_pos K; omega)
  have hx1 := Int.emod_lt_of_pos cx (sd_pos K)
  have hy0 := Int.emod_nonneg cy (show sd K ≠ 0 by have := sd_pos K; omega)
  have hy1 := Int.emod_lt_of_pos cy (sd_pos K)
  rw [hX, sd_yes hr] at hx1
  rw [hX] at hx0
  rw [hY, sd_yes hr] at hy1
  rw [hY] at hy0
  have HH := Lib.hid ((hasB_iff K X Y).2 ⟨hx0, hx1, hy0, hy1⟩)
  rw [hsd] at hx1 hy1
  have hin := Z.has X Y hx0 hx1 hy0 hy1
  obtain ⟨A, hA⟩ : ∃ A, atV K X Y D.toNat = A := ⟨_, rfl⟩
  rw [← hKn, hA] at hin
  obtain ⟨z, hz⟩ : ∃ z, z = decide (p ≤ X ∧ X < p + r ∧ q ≤ Y ∧ Y < q + s) := ⟨_, rfl⟩
  obtain ⟨m, hm⟩ : ∃ m, m = decide (p < a + v ∧ a < p + r ∧ q < b + g ∧ b < q + s) := ⟨_, rfl⟩
  have hab : (A == B) = z := by rw [hz, Bool.eq_iff_iff, beq_iff_eq, decide_eq_true_iff]; exact hin
  have hmm : metB D B F C = m := by rw [hm]; exact zones_meet fp fq Z Z'
  have VP := Lib.hid (show corF (side K) (ups D B (cnt D B)) = (p, q, r, s) by rw [hsd]; exact Z.val)
  have VQ := Lib.hid (show corF (side K) (ups F C (cnt F C)) = (a, b, v, g) by rw [hsd]; exact Z'.val)
  have hn16 := p2_16 (n := n) (by omega)
  have z1 := Z.p0
  have z2 := Z.q0
  have z3 := Z.r0
  have z4 := Z.s0
  have z5 := Int.le_trans Z.pr hn16
  have z6 := Int.le_trans Z.qs hn16
  have y1 := Z'.p0
  have y2 := Z'.q0
  have y3 := Z'.r0
  have y4 := Z'.s0
  have y5 := Int.le_trans Z'.pr hn16
  have y6 := Int.le_trans Z'.qs hn16
  have wr1 : wrap64 (p + r) = p + r := IntWalk.wrap64_in _ ⟨by omega, by omega⟩
  have wr2 : wrap64 (q + s) = q + s := IntWalk.wrap64_in _ ⟨by omega, by omega⟩
  have wr3 : wrap64 (a + v) = a + v := IntWalk.wrap64_in _ ⟨by omega, by omega⟩
  have wr4 : wrap64 (b + g) = b + g := IntWalk.wrap64_in _ ⟨by omega, by omega⟩
  have hrs : 0 < r * s := Int.mul_pos z3 z4
  have hab2 := area_bd K
  have har : r * s * 2 ^ D.toNat = side K * side K := by rw [hsd]; exact Z.area
  have hrs2 : r * s ≤ 4294967296 := by
    have := Int.mul_le_mul_of_nonneg_left (show (1 : Int) ≤ 2 ^ D.toNat from Int.add_one_le_of_lt (p2_pos _)) (Int.le_of_lt hrs)
    omega
  have wr5 : wrap64 (r * s) = r * s := IntWalk.wrap64_in _ ⟨by omega, by omega⟩
  have HAR := Lib.hid (show 0 < r * s ∧ r * s * 2 ^ D.toNat ≤ side K * side K ∧ side K * side K ≤ 4294967296 from ⟨hrs, by omega, by omega⟩)
  have HAR2 := Lib.hid har
  have E1 := Lib.hid hD
  have E2 := Lib.hid hBB
  have E3 := Lib.hid hF
  have E4 := Lib.hid hCC
  have HX := Lib.hid hX
  have HY := Lib.hid hY
  have HA := Lib.hid hA
  have Hz := Lib.hid hz
  have Hm := Lib.hid hm
  have HM := Lib.hid hmm
  have hD0 : 0 ≤ D ∧ D ≤ 32 := by omega
  have HD := Lib.hid (show D = ((D.toNat : Nat) : Int) by omega)
  have HD2 := Lib.hid (show D ≤ 2 * K by omega)
  clear hD hBB hF hCC hX hY hA hz hm hmm op oq fp fq d1 hx0 hx1 hy0 hy1 hin Z Z' hn16 hsd hr hab2 har hn hKn
  obtain ⟨w0, hw0⟩ : ∃ w0, w0 = (((w.alloc (.cells #[.int .i64 pd, .int .i64 pb] 23)).alloc (.cells #[.int .i64 qd, .int .i64 qb] 23)).alloc (.cells #[.int .i64 cx, .int .i64 cy] 29)).alloc (.cells #[.int .i64 K] 31) := ⟨_, rfl⟩
  have hs0 : Since w w0 := by rw [hw0]; exact ((((Since.refl w).alloc _).alloc _).alloc _).alloc _
  have wh0 : Whole w0 (w.heap.size) 23 #[.int .i64 pd, .int .i64 pb] := by rw [hw0]; exact (((Whole.new w _ _).alloc _).alloc _).alloc _
  have wh1 : Whole w0 (w.heap.size + 1) 23 #[.int .i64 qd, .int .i64 qb] := by rw [hw0]; exact (((Whole.new (w.alloc _) _ _).alloc _).alloc _).at_ (by simp)
  have wh2 : Whole w0 (w.heap.size + 1 + 1) 29 #[.int .i64 cx, .int .i64 cy] := by rw [hw0]; exact ((Whole.new ((w.alloc _).alloc _) _ _).alloc _).at_ (by simp)
  have wh3 : Whole w0 (w.heap.size + 1 + 1 + 1) 31 #[.int .i64 K] := by rw [hw0]; exact (Whole.new (((w.alloc _).alloc _).alloc _) _ _).at_ (by simp)
  have HW := Lib.hid hw0
  have c0_0 := box_cell wh0 0 (.int .i64 pd) rfl
  have c0_1 := box_cell wh0 1 (.int .i64 pb) rfl
  have c1_0 := box_cell wh1 0 (.int .i64 qd) rfl
  have c1_1 := box_cell wh1 1 (.int .i64 qb) rfl
  have c2_0 := box_cell wh2 0 (.int .i64 cx) rfl
  have c2_1 := box_cell wh2 1 (.int .i64 cy) rfl
  have c3_0 := box_cell wh3 0 (.int .i64 K) rfl
  have hsr := Since.refl w0
  have hsd := hsr.drew
  clear hw0
  have bp := wh0
  have bq := wh1
  have bc := wh2
  have bt := wh3
  have hs : Since w w0 := hs0
  clear wh0 wh1 wh2 wh3 c0_0 c0_1 c1_0 c1_1 c2_0 c2_1 c3_0 hsr hsd hs0
  go_enter Try.func6, Try.ntmps6
  go_wp2_with fail
  rw [← HW.out]
  have t_bp0 := bp.cell 0
  have t_bp1 := bp.cell 1
  have l_bp := bp.lt
  go_wp2_with fail
  clear t_bp0 t_bp1 l_bp
  refine (some_at w0 HK0.out HK1.out E1.out E2.out).mono ?_
  rintro e w1 ⟨rfl, hb⟩
  replace bp := Since.whole hb bp
  replace bq := Since.whole hb bq
  replace bc := Since.whole hb bc
  replace bt := Since.whole hb bt
  replace hs := hs.trans hb
  clear hb
  have t_bq0 := bq.cell 0
  have t_bq1 := bq.cell 1
  have l_bq := bq.lt
  have f_bp0 := bp.frozen 0
  have f_bp1 := bp.frozen 1
  have t_bp0 := bp.cell 0
  have t_bp1 := bp.cell 1
  go_wp2_with fail
  clear t_bq0 t_bq1 l_bq f_bp0 f_bp1 t_bp0 t_bp1
  refine Calls.named (fun w2 hw => ?_)
  replace bp : Whole w2 (w.heap.size) 23 #[.int .i64 D, .int .i64 B] := (((bp).set_ 0 _).set_ 1 _).named hw
  replace bq : Whole w2 (w.heap.size + 1) 23 #[.int .i64 qd, .int .i64 qb] := (((bq).far (p := ⟨w.heap.size, 0, none⟩) (by simp; try omega) _).far (p := ⟨w.heap.size, 1, none⟩) (by simp; try omega) _).named hw
  replace bc : Whole w2 (w.heap.size + 1 + 1) 29 #[.int .i64 cx, .int .i64 cy] := (((bc).far (p := ⟨w.heap.size, 0, none⟩) (by simp; try omega) _).far (p := ⟨w.heap.size, 1, none⟩) (by simp; try omega) _).named hw
  replace bt : Whole w2 (w.heap.size + 1 + 1 + 1) 31 #[.int .i64 K] := (((bt).far (p := ⟨w.heap.size, 0, none⟩) (by simp; try omega) _).far (p := ⟨w.heap.size, 1, none⟩) (by simp; try omega) _).named hw
  replace hs : Since w w2 := Since.named (((hs).setCell (p := ⟨w.heap.size, 0, none⟩) (by simp; try omega) _).setCell (p := ⟨w.heap.size, 1, none⟩) (by simp; try omega) _) hw
  clear hw
  refine (some_at _ HK0.out HK1.out E3.out E4.out).mono ?_
  rintro e w3 ⟨rfl, hb⟩
  replace bp := Since.whole hb bp
  replace bq := Since.whole hb bq
  replace bc := Since.whole hb bc
  replace bt := Since.whole hb bt
  replace hs := hs.trans hb
  clear hb
  have t_bt0 := bt.cell 0
  have l_bt := bt.lt
  have t_bc0 := bc.cell 0
  have t_bc1 := bc.cell 1
  have l_bc := bc.lt
  have f_bq0 := bq.frozen 0
  have f_bq1 := bq.frozen 1
  have t_bq0 := bq.cell 0
  have t_bq1 := bq.cell 1
  go_wp2_with fail
  clear t_bt0 l_bt t_bc0 t_bc1 l_bc f_bq0 f_bq1 t_bq0 t_bq1
  refine Calls.named (fun w4 hw => ?_)
  replace bp : Whole w4 (w.heap.size) 23 #[.int .i64 D, .int .i64 B] := (((bp).far (p := ⟨w.heap.size + 1, 0, none⟩) (by simp; try omega) _).far (p := ⟨w.heap.size + 1, 1, none⟩) (by simp; try omega) _).named hw
  replace bq : Whole w4 (w.heap.size + 1) 23 #[.int .i64 F, .int .i64 C] := (((bq).set_ 0 _).set_ 1 _).named hw
  replace bc : Whole w4 (w.heap.size + 1 + 1) 29 #[.int .i64 cx, .int .i64 cy] := (((bc).far (p := ⟨w.heap.size + 1, 0, none⟩) (by simp; try omega) _).far (p := ⟨w.heap.size + 1, 1, none⟩) (by simp; try omega) _).named hw
  replace bt : Whole w4 (w.heap.size + 1 + 1 + 1) 31 #[.int .i64 K] := (((bt).far (p := ⟨w.heap.size + 1, 0, none⟩) (by simp; try omega) _).far (p := ⟨w.heap.size + 1, 1, none⟩) (by simp; try omega) _).named hw
  replace hs : Since w w4 := Since.named (((hs).setCell (p := ⟨w.heap.size + 1, 0, none⟩) (by simp; try omega) _).setCell (p := ⟨w.heap.size + 1, 1, none⟩) (by simp; try omega) _) hw
  clear hw
  refine (wrap_at HX.out HY.out _).mono ?_
  rintro e w5 ⟨rfl, hb⟩
  replace bp := Since.whole hb bp
  replace bq := Since.whole hb bq
  replace bc := Since.whole hb bc
  replace bt := Since.whole hb bt
  replace hs := hs.trans hb
  clear hb
  have t_bt0 := bt.cell 0
  have l_bt := bt.lt
  have t_bp0 := bp.cell 0
  have t_bp1 := bp.cell 1
  have l_bp := bp.lt
  have f_bc0 := bc.frozen 0
  have f_bc1 := bc.frozen 1
  have t_bc0 := bc.cell 0
  have t_bc1 := bc.cell 1
  go_wp2_with fail
  clear t_bt0 l_bt t_bp0 t_bp1 l_bp f_bc0 f_bc1 t_bc0 t_bc1
  refine Calls.named (fun w6 hw => ?_)
  replace bp : Whole w6 (w.heap.size) 23 #[.int .i64 D, .int .i64 B] := (((bp).far (p := ⟨w.heap.size + 1 + 1, 0, none⟩) (by simp; try omega) _).far (p := ⟨w.heap.size + 1 + 1, 1, none⟩) (by simp; try omega) _).named hw
  replace bq : Whole w6 (w.heap.size + 1) 23 #[.int .i64 F, .int .i64 C] := (((bq).far (p := ⟨w.heap.size + 1 + 1, 0, none⟩) (by simp; try omega) _).far (p := ⟨w.heap.size + 1 + 1, 1, none⟩) (by simp; try omega) _).named hw
  replace bc : Whole w6 (w.heap.size + 1 + 1) 29 #[.int .i64 X, .int .i64 Y] := (((bc).set_ 0 _).set_ 1 _).named hw
  replace bt : Whole w6 (w.heap.size + 1 + 1 + 1) 31 #[.int .i64 K] := (((bt).far (p := ⟨w.heap.size + 1 + 1, 0, none⟩) (by simp; try omega) _).far (p := ⟨w.heap.size + 1 + 1, 1, none⟩) (by simp; try omega) _).named hw
  replace hs : Since w w6 := Since.named (((hs).setCell (p := ⟨w.heap.size + 1 + 1, 0, none⟩) (by simp; try omega) _).setCell (p := ⟨w.heap.size + 1 + 1, 1, none⟩) (by simp; try omega) _) hw
  clear hw
  refine (corner_at _ OP.out VP.out).mono ?_
  rintro e w7 ⟨rfl, hb⟩
  replace bp := Since.whole hb bp
  replace bq := Since.whole hb bq
  replace bc := Since.whole hb bc
  replace bt := Since.whole hb bt
  replace hs := hs.trans hb
  clear hb
  have t_bt0 := bt.cell 0
  have l_bt := bt.lt
  have t_bq0 := bq.cell 0
  have t_bq1 := bq.cell 1
  have l_bq := bq.lt
  go_wp2_with fail
  clear t_bt0 l_bt t_bq0 t_bq1 l_bq
  refine Calls.named (fun w8 hw => ?_)
  replace bp := (bp.alloc (.cells #[.int .i64 p, .int .i64 q] 29)).named hw
  replace bq := (bq.alloc (.cells #[.int .i64 p, .int .i64 q] 29)).named hw
  replace bc := (bc.alloc (.cells #[.int .i64 p, .int .i64 q] 29)).named hw
  replace bt := (bt.alloc (.cells #[.int .i64 p, .int .i64 q] 29)).named hw
  replace hs : Since w w8 := Since.named (hs.alloc (.cells #[.int .i64 p, .int .i64 q] 29)) hw
  have ba : Whole w8 w7.heap.size 29 #[.int .i64 p, .int .i64 q] := (Whole.new w7 _ _).named hw
  obtain ⟨g_ba, hg⟩ : ∃ g, g = w7.heap.size := ⟨_, rfl⟩
  rw [← hg] at ba ⊢
  clear hw hg
  refine (corner_at _ OQ.out VQ.out).mono ?_
  rintro e w9 ⟨rfl, hb⟩
  replace bp := Since.whole hb bp
  replace bq := Since.whole hb bq
  replace bc := Since.whole hb bc
  replace bt := Since.whole hb bt
  replace ba := Since.whole hb ba
  replace hs := hs.trans hb
  clear hb
  have t_bt0 := bt.cell 0
  have l_bt := bt.lt
  have t_bc0 := bc.cell 0
  have t_bc1 := bc.cell 1
  have l_bc := bc.lt
  have t_bp0 := bp.cell 0
  have t_bp1 := bp.cell 1
  have l_bp := bp.lt
  go_wp2_with fail
  clear t_bt0 l_bt t_bc0 t_bc1 l_bc t_bp0 t_bp1 l_bp
  refine Calls.named (fun w10 hw => ?_)
  replace bp := (bp.alloc (.cells #[.int .i64 a, .int .i64 b] 29)).named hw
  replace bq := (bq.alloc (.cells #[.int .i64 a, .int .i64 b] 29)).named hw
  replace bc := (bc.alloc (.cells #[.int .i64 a, .int .i64 b] 29)).named hw
  replace bt := (bt.alloc (.cells #[.int .i64 a, .int .i64 b] 29)).named hw
  replace ba := (ba.alloc (.cells #[.int .i64 a, .int .i64 b] 29)).named hw
  replace hs : Since w w10 := Since.named (hs.alloc (.cells #[.int .i64 a, .int .i64 b] 29)) hw
  have bb : Whole w10 w9.heap.size 29 #[.int .i64 a, .int .i64 b] := (Whole.new w9 _ _).named hw
  obtain ⟨g_bb, hg⟩ : ∃ g, g = w9.heap.size := ⟨_, rfl⟩
  rw [← hg] at bb ⊢
  clear hw hg
  refine (at_at _ HH.out HD.out HD2.out HA.out).mono ?_
  rintro e w11 ⟨rfl, hb⟩
  replace bp := Since.whole hb bp
  replace bq := Since.whole hb bq
  replace bc := Since.whole hb bc
  replace bt := Since.whole hb bt
  replace ba := Since.whole hb ba
  replace bb := Since.whole hb bb
  replace hs := hs.trans hb
  clear hb
  go_upto_region 9 with fail
  obtain ⟨w12, hw⟩ : ∃ w', w' = w11.alloc (.cells #[.int .i64 D, .int .i64 A] 23) := ⟨_, rfl⟩
  rw [← hw]
  replace bp := (bp.alloc (.cells #[.int .i64 D, .int .i64 A] 23)).named hw
  replace bq := (bq.alloc (.cells #[.int .i64 D, .int .i64 A] 23)).named hw
  replace bc := (bc.alloc (.cells #[.int .i64 D, .int .i64 A] 23)).named hw
  replace bt := (bt.alloc (.cells #[.int .i64 D, .int .i64 A] 23)).named hw
  replace ba := (ba.alloc (.cells #[.int .i64 D, .int .i64 A] 23)).named hw
  replace bb := (bb.alloc (.cells #[.int .i64 D, .int .i64 A] 23)).named hw
  replace hs : Since w w12 := Since.named (hs.alloc (.cells #[.int .i64 D, .int .i64 A] 23)) hw
  have bx : Whole w12 w11.heap.size 23 #[.int .i64 D, .int .i64 A] := (Whole.new w11 _ _).named hw
  obtain ⟨g_bx, hg⟩ : ∃ g, g = w11.heap.size := ⟨_, rfl⟩
  rw [← hg] at bx ⊢
  clear hw hg
  have c_bp0 := box_cell bp 0 (.int .i64 D) rfl
  have c_bp1 := box_cell bp 1 (.int .i64 B) rfl
  have c_bq0 := box_cell bq 0 (.int .i64 F) rfl
  have c_bq1 := box_cell bq 1 (.int .i64 C) rfl
  have c_bc0 := box_cell bc 0 (.int .i64 X) rfl
  have c_bc1 := box_cell bc 1 (.int .i64 Y) rfl
  have c_bt0 := box_cell bt 0 (.int .i64 K) rfl
  have c_ba0 := box_cell ba 0 (.int .i64 p) rfl
  have c_ba1 := box_cell ba 1 (.int .i64 q) rfl
  have c_bb0 := box_cell bb 0 (.int .i64 a) rfl
  have c_bb1 := box_cell bb 1 (.int .i64 b) rfl
  have c_bx0 := box_cell bx 0 (.int .i64 D) rfl
  have c_bx1 := box_cell bx 1 (.int .i64 A) rfl
  have hsr := Since.refl w12
  have hsd := hsr.drew
  go_cut [18] from 22 to 163 (fun s wx => s = .bool z ∧ wx = w12)
  case first =>
    by_cases t0 : p ≤ X
    · have d0 : decide (p ≤ X) = true := decide_eq_true t0
      by_cases t1 : X < p + r
      · have d1 : decide (X < p + r) = true := decide_eq_true t1
        by_cases t2 : q ≤ Y
        · have d2 : decide (q ≤ Y) = true := decide_eq_true t2
          by_cases t3 : Y < q + s
          · have d3 : decide (Y < q + s) = true := decide_eq_true t3
            have hz : z = true := Hz.out.trans (decide_eq_true (by omega))
            replace hz := Lib.hid hz
            go_wp2_with fail
            go_meet
            case rel => exact ⟨by rw [hz.out], rfl⟩
          · have d3 : decide (Y < q + s) = false := decide_eq_false t3
            have hz : z = false := Hz.out.trans (decide_eq_false (by omega))
            replace hz := Lib.hid hz
            go_wp2_with fail
            go_meet
            case rel => exact ⟨by rw [hz.out], rfl⟩
        · have d2 : decide (q ≤ Y) = false := decide_eq_false t2
          have hz : z = false := Hz.out.trans (decide_eq_false (by omega))
          replace hz := Lib.hid hz
          go_wp2_with fail
          go_meet
          case rel => exact ⟨by rw [hz.out], rfl⟩
      · have d1 : decide (X < p + r) = false := decide_eq_false t1
        have hz : z = false := Hz.out.trans (decide_eq_false (by omega))
        replace hz := Lib.hid hz
        go_wp2_with fail
        go_meet
        case rel => exact ⟨by rw [hz.out], rfl⟩
    · have d0 : decide (p ≤ X) = false := decide_eq_false t0
      have hz : z = false := Hz.out.trans (decide_eq_false (by omega))
      replace hz := Lib.hid hz
      go_wp2_with fail
      go_meet
      case rel => exact ⟨by rw [hz.out], rfl⟩
  case rest =>
    obtain ⟨rfl, hwc⟩ := hcut
    rw [hwc]
    clear hwc
    go_upto_region 10 with fail
    go_cut [19] from 22 to 163 (fun s wx => s = .bool m ∧ wx = w12)
    case first =>
      by_cases t0 : p < a + v
      · have d0 : decide (p < a + v) = true := decide_eq_true t0
        by_cases t1 : a < p + r
        · have d1 : decide (a < p + r) = true := decide_eq_true t1
          by_cases t2 : q < b + g
          · have d2 : decide (q < b + g) = true := decide_eq_true t2
            by_cases t3 : b < q + s
            · have d3 : decide (b < q + s) = true := decide_eq_true t3
              have hz : m = true := Hm.out.trans (decide_eq_true (by omega))
              replace hz := Lib.hid hz
              go_wp2_with fail
              go_meet
              case rel => exact ⟨by rw [hz.out], rfl⟩
            · have d3 : decide (b < q + s) = false := decide_eq_false t3
              have hz : m = false := Hm.out.trans (decide_eq_false (by omega))
              replace hz := Lib.hid hz
              go_wp2_with fail
              go_meet
              case rel => exact ⟨by rw [hz.out], rfl⟩
          · have d2 : decide (q < b + g) = false := decide_eq_false t2
            have hz : m = false := Hm.out.trans (decide_eq_false (by omega))
            replace hz := Lib.hid hz
            go_wp2_with fail
            go_meet
            case rel => exact ⟨by rw [hz.out], rfl⟩
        · have d1 : decide (a < p + r) = false := decide_eq_false t1
          have hz : m = false := Hm.out.trans (decide_eq_false (by omega))
          replace hz := Lib.hid hz
          go_wp2_with fail
          go_meet
          case rel => exact ⟨by rw [hz.out], rfl⟩
      · have d0 : decide (p < a + v) = false := decide_eq_false t0
        have hz : m = false := Hm.out.trans (decide_eq_false (by omega))
        replace hz := Lib.hid hz
        go_wp2_with fail
        go_meet
        case rel => exact ⟨by rw [hz.out], rfl⟩
    case rest =>
      obtain ⟨rfl, hwc⟩ := hcut
      rw [hwc]
      clear hwc
      go_wp2_with fail
      go_loopw [20, 21] (fun ar i wr => ∃ n : Nat, i = .int .i64 n ∧ ar = .int .i64 (r * s * 2 ^ n) ∧ n ≤ D.toNat ∧ wr = w12) (fun _ i _ => D.toNat - (intOf i).toNat)
      case atStart => exact ⟨0, rfl, by simp, Nat.zero_le _, rfl⟩
      case round =>
        obtain ⟨n, rfl, rfl, hn, rfl⟩ := hrel
        by_cases hlt : n < D.toNat
        · have hd : decide ((n : Int) < D) = true := decide_eq_true (by omega)
          have hpw := area_step HAR.out hlt
          have hn32 : (n : Int) < 32 := by omega
          replace hpw := Lib.hid hpw
          go_wp2_with fail
          go_roundw
          case rel => exact ⟨n + 1, by go_num, by rw [← hpw.out], by omega, by trivial⟩
          case measure => simp [intOf]; omega
        · have hd : decide ((n : Int) < D) = false := decide_eq_false (by omega)
          have hnD : n = D.toNat := by omega
          have har : r * s * 2 ^ n = side K * side K := by rw [hnD]; exact HAR2.out
          have har2 : (r * s * 2 ^ n == side K * side K) = true := beq_iff_eq.2 har
          clear har hnD
          go_wp2_with (first | (go_at_call 22; (with_reducible refine (Calls.since_same (by assumption) (law_num_any _ _)).mono ?_); rintro e w70 ⟨rfl, hb70⟩) | (go_at_call 11; (with_reducible refine (Calls.since (by assumption) (meet_at HM.out _)).mono ?_); rintro e w71 ⟨rfl, hb71⟩) | (go_at_call 29; (with_reducible refine (Calls.since (by assumption) (area_any _ _)).mono ?_); rintro e w72 ⟨rfl, hb72⟩) | (go_at_call 17; (with_reducible refine (Calls.since (by assumption) (knows_any _)).mono ?_); rintro e w73 ⟨rfl, hb73⟩))
          all_goals
            go_ret
            exact ⟨rfl, hs.trans (by assumption)⟩
end Go.Proofs.Ytilkifjdonafnaa
