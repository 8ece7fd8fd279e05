/- The law's count of pairs of cells. -/
import Derived.Test.YtgnhamhkpbadbaaBBes
import Derived.Test.YtgnhamhkpbadbaaBCellM
import Derived.Deep.Cut
import Derived.Deep.CutRange
import Derived.BigQuiet
namespace Go.Proofs.Ytgnhamhkpbadbaa
open Go.RowKit
set_option linter.unusedVariables false
set_option linter.unusedSimpArgs false
theorem law6_num (k : Int) (w : World) : Calls Try.prog 87 #[.int .i64 k] w fun e w' => e = .returned (.int .i64 k) ∧ w = w' := by
  go_enter Try.func87, Try.ntmps87
  go_wp2
  go_ret
  exact ⟨rfl, rfl⟩
theorem wrap_pt {k x y X Y : Int} (h1 : x % sd k = X) (h2 : y % sd k = Y) (w : World) : Calls Try.prog 40 #[.agg #[.int .i64 k], .int .i64 x, .int .i64 y] w fun e w' => e = .returned (.agg #[.int .i64 X, .int .i64 Y]) ∧ Below w.heap.size w w' := h1 ▸ h2 ▸ wrap_any k x y w
theorem at_yes6 {k x y d A : Int} {dn : Nat} (w : World) (h : hasB k x y = true) (hdn : d = (dn : Int)) (hd : d ≤ 2 * k) (e : atV k x y dn = A) : Calls Try.prog 58 #[.agg #[.int .i64 k], .agg #[.int .i64 x, .int .i64 y], .int .i64 d] w fun e w' => e = .returned (.tuple #[.agg #[.int .i64 d, .int .i64 A], .int .i64 0]) ∧ Below w.heap.size w w' := e ▸ at_yes k x y d dn w h hdn hd
theorem ctr_step (N0 : Int) (z : Rc) (S X Y : Int) (j : Nat) : N0 + sumN (ctr z S X Y) (j + 1) = N0 + sumN (ctr z S X Y) j + (if inZ z (ptC S X Y j) = true ∧ agB S X Y j = false then 1 else 0) := by
  rw [sumN, ← Int.add_assoc]; rfl
theorem sumN_bd {f : Nat → Int} {c : Int} : ∀ {n : Nat}, (∀ i, i < n → 0 ≤ f i ∧ f i ≤ c) → 0 ≤ sumN f n ∧ sumN f n ≤ c * n
  | 0, _ => ⟨Int.le_refl _, by rw [sumN]; omega⟩
  | n + 1, h => by
    have h1 := sumN_bd (n := n) (fun i hi => h i (by omega))
    have h2 := h n (by omega)
    rw [sumN]
    have e : c * ((n + 1 : Nat) : Int) = c * n + c := by rw [show ((n + 1 : Nat) : Int) = (n : Int) + 1 by omega, Int.mul_add, Int.mul_one]
    omega
theorem ctr_01 (z : Rc) (S X Y : Int) (j : Nat) : 0 ≤ ctr z S X Y j ∧ ctr z S X Y j ≤ 1 := by unfold ctr; split <;> omega
theorem nb_bd (z : Rc) (S X Y : Int) : 0 ≤ nbF z S X Y ∧ nbF z S X Y ≤ 4 := by
  have := sumN_bd (f := ctr z S X Y) (c := 1) (n := 4) (fun j _ => ctr_01 z S X Y j)
  unfold nbF; omega
/-- At a cell: the path's bits are those of q just if the cell is q's. -/
theorem at_in {k f c x y : Int} (h : okP k f c = true) (hx : 0 ≤ x ∧ x < side k) (hy : 0 ≤ y ∧ y < side k) : (atV k x y f.toNat == c) = inZ (zoneR k f c) (x, y) := by
  obtain ⟨n, hk, hs, Z⟩ := zone_is h
  have hh := Z.has x y hx.1 (by omega) hy.1 (by omega)
  rw [← hk] at hh
  unfold inZ
  rw [Bool.eq_iff_iff, beq_iff_eq, decide_eq_true_iff]
  exact hh
set_option maxRecDepth 100000 in
set_option maxHeartbeats 25600000 in
theorem cells_any {K D B F C p q r s : Int} (hK : 1 ≤ K ∧ K ≤ 4) (hp : okP K D B = true) (hq : okP K F C = true) (hz : zoneR K D B = ⟨p, q, r, s⟩) (w : World) : Calls Try.prog 38 #[.agg #[.int .i64 K], .agg #[.int .i64 D, .int .i64 B], .agg #[.int .i64 F, .int .i64 C]] w fun e w' => e = .returned (.int .i64 (celN ⟨p, q, r, s⟩ (zoneR K F C) (side K))) ∧ Below w.heap.size w w' := by
  have he : corF (side K) (ups D B (cnt D B)) = (p, q, r, s) := by
    unfold zoneR at hz
    injection hz with e1 e2 e3 e4
    rw [← e1, ← e2, ← e3, ← e4]
  have hbz := zone_bd hp
  have hs2 := ok_side hp
  have hs16 : side K ≤ 16 := by
    obtain ⟨n, hk, hn1, hn16, hs⟩ := ok_nat hp
    rw [hs]
    have : n ≤ 4 := by omega
    have := Nat.pow_le_pow_right (n := 2) (by omega) this
    have e : (2 : Int) ^ n = ((2 ^ n : Nat) : Int) := pow_cast n
    omega
  rw [hz] at hbz
  dsimp only at hbz
  have hsd : sd K = side K := sd_yes ((rgt_iff K).2 (by omega))
  obtain ⟨W, hW⟩ : ∃ W : Nat, r = (W : Int) := ⟨r.toNat, by omega⟩
  obtain ⟨H, hH⟩ : ∃ H : Nat, s = (H : Int) := ⟨s.toNat, by omega⟩
  obtain ⟨S, hS⟩ : ∃ S, side K = S := ⟨_, rfl⟩
  obtain ⟨Z, hZ⟩ : ∃ Z, zoneR K F C = Z := ⟨_, rfl⟩
  have hfd := (okP_iff K F C).1 hq
  have hat : ∀ x y : Int, 0 ≤ x ∧ x < S → 0 ≤ y ∧ y < S → hasB K x y = true ∧ (atV K x y F.toNat == C) = inZ Z (x, y) := by
    intro x y hx hy
    rw [← hS] at hx hy
    rw [← hZ]
    exact ⟨(hasB_iff K x y).2 (by omega), at_in hq hx hy⟩
  rw [hS] at hbz hs2 hs16 hsd
  rw [hS, hZ]
  obtain ⟨G, hG⟩ : ∃ G : Nat → Nat → Int, (fun (i m : Nat) => nbF Z S (p + i) (q + m)) = G := ⟨_, rfl⟩
  have hcel : celN ⟨p, q, r, s⟩ Z S = sumN (fun i => sumN (G i) H) W := by
    unfold celN
    dsimp only
    rw [show r.toNat = W by omega, show s.toNat = H by omega, ← hG]
  have hGb : ∀ i m, 0 ≤ G i m ∧ G i m ≤ 4 := by intro i m; rw [← hG]; exact nb_bd _ _ _ _
  have hGe : ∀ i m : Nat, G i m = sumN (ctr Z S (p + i) (q + m)) 4 := by intro i m; rw [← hG]; rfl
  have hR : ∀ i n : Nat, n ≤ 16 → 0 ≤ sumN (G i) n ∧ sumN (G i) n ≤ 64 := by
    intro i n hn
    have := sumN_bd (f := G i) (c := 4) (n := n) (fun m _ => hGb i m)
    omega
  rw [hcel]
  have HAT := Lib.hid hat
  have HSD := Lib.hid hsd
  have HWB := Lib.hid (show W ≤ 16 ∧ H ≤ 16 by omega)
  have HWW := Lib.hid hW
  have HHH := Lib.hid hH
  have HB := Lib.hid (show (0 ≤ p ∧ p + W ≤ S) ∧ (0 ≤ q ∧ q + H ≤ S) ∧ 2 ≤ S ∧ S ≤ 16 by omega)
  have HGE := Lib.hid hGe
  have HR := Lib.hid hR
  have HRR := Lib.hid (show ∀ n : Nat, n ≤ 16 → 0 ≤ sumN (fun i => sumN (G i) H) n ∧ sumN (fun i => sumN (G i) H) n ≤ 1024 by
    intro n hn
    have := sumN_bd (f := fun i => sumN (G i) H) (c := 64) (n := n) (fun m _ => hR m H (by omega))
    omega)
  have HF := Lib.hid (show F = ((F.toNat : Nat) : Int) ∧ F ≤ 2 * K by omega)
  have HP := Lib.hid hp
  have HE := Lib.hid he
  clear hat hsd hbz hs2 hs16 hW hH hS hZ hG hcel hGb hGe hR hfd hz hp hq he hK
  obtain ⟨w0, hw0⟩ : ∃ w0, w0 = ((w.alloc (.cells #[.int .i64 K] 65)).alloc (.cells #[.int .i64 D, .int .i64 B] 27)).alloc (.cells #[.int .i64 F, .int .i64 C] 27) := ⟨_, rfl⟩
  have hs0 : Since w w0 := by rw [hw0]; exact (((Since.refl w).alloc _).alloc _).alloc _
  have wh0 : Whole w0 (w.heap.size) 65 #[.int .i64 K] := by rw [hw0]; exact ((Whole.new w _ _).alloc _).alloc _
  have wh1 : Whole w0 (w.heap.size + 1) 27 #[.int .i64 D, .int .i64 B] := by rw [hw0]; exact ((Whole.new (w.alloc _) _ _).alloc _).at_ (by simp)
  have wh2 : Whole w0 (w.heap.size + 1 + 1) 27 #[.int .i64 F, .int .i64 C] := by rw [hw0]; exact (Whole.new ((w.alloc _).alloc _) _ _).at_ (by simp)
  have HW := Lib.hid hw0
  have c0_0 := box_cell wh0 0 (.int .i64 K) rfl
  have c1_0 := box_cell wh1 0 (.int .i64 D) rfl
  have c1_1 := box_cell wh1 1 (.int .i64 B) rfl
  have c2_0 := box_cell wh2 0 (.int .i64 F) rfl
  have c2_1 := box_cell wh2 1 (.int .i64 C) rfl
  have hsr := Since.refl w0
  have hsd := hsr.drew
  clear hw0
  go_enter Try.func38, Try.ntmps38
  go_wp2_with fail
  rw [← HW.out]
  refine (corner_yes _ HP.out HE.out).mono ?_
  rintro e w1 ⟨rfl, hb1⟩
  go_wp2_with fail
  obtain ⟨wz, hwz⟩ : ∃ wz, wz = w1.alloc (.cells #[.int .i64 p, .int .i64 q] 25) := ⟨_, rfl⟩
  rw [← hwz]
  have hsz : Since w wz := Since.named ((hs0.trans hb1).alloc _) hwz
  have bt : Whole wz w.heap.size 65 #[.int .i64 K] := ((Since.whole hb1 wh0).alloc _).named hwz
  have bq : Whole wz (w.heap.size + 1 + 1) 27 #[.int .i64 F, .int .i64 C] := ((Since.whole hb1 wh2).alloc _).named hwz
  have ba : Whole wz w1.heap.size 25 #[.int .i64 p, .int .i64 q] := (Whole.new w1 _ _).named hwz
  obtain ⟨ga, hga⟩ : ∃ g, g = w1.heap.size := ⟨_, rfl⟩
  rw [← hga] at ba ⊢
  have c_bt := box_cell bt 0 _ rfl
  have c_q0 := box_cell bq 0 _ rfl
  have c_q1 := box_cell bq 1 _ rfl
  have c_a0 := box_cell ba 0 _ rfl
  have c_a1 := box_cell ba 1 _ rfl
  clear hwz hga wh0 wh1 wh2 c0_0 c1_0 c1_1 c2_0 c2_1 hsr hsd hs0 hb1 bt bq ba
  have hsr := Since.refl wz
  go_loopw [10, 11] (fun nv iv wr => ∃ m : Nat, iv = .int .i64 m ∧ m ≤ W ∧ nv = .int .i64 (sumN (fun i => sumN (G i) H) m) ∧ Since wz wr) (fun _ iv _ => W - (intOf iv).toNat)
  case atStart => exact ⟨0, rfl, Nat.zero_le _, rfl, hsr⟩
  case round =>
    obtain ⟨a, rfl, haW, rfl, hsa⟩ := hrel
    by_cases hlt : a < W
    · have d1 : decide ((a : Int) < r) = true := decide_eq_true (by have := HWW.out; omega)
      have d2 : decide ((a : Int) < 20) = true := decide_eq_true (by have := HWB.out; omega)
      have a20 : (a : Int) < 20 := by have := HWB.out; omega
      obtain ⟨R0, hR0⟩ : ∃ R0, sumN (fun i => sumN (G i) H) a = R0 := ⟨_, rfl⟩
      have bR0 := HRR.out a (by have := HWB.out; omega)
      rw [hR0] at bR0 ⊢
      have HRS := Lib.hid (show sumN (fun i => sumN (G i) H) (a + 1) = R0 + sumN (G a) H by rw [← hR0]; rfl)
      have BR0 := Lib.hid bR0
      clear hR0 bR0
      go_wp2_with fail
      go_loopw [10, 12] (fun nv iv wr => ∃ m : Nat, iv = .int .i64 m ∧ m ≤ H ∧ nv = .int .i64 (R0 + sumN (G a) m) ∧ Since wz wr) (fun _ iv _ => H - (intOf iv).toNat)
      case atStart => exact ⟨0, rfl, Nat.zero_le _, by rw [sumN, Int.add_zero], hsa⟩
      case round =>
        clear hsa
        obtain ⟨b, rfl, hbH, rfl, hsb⟩ := hrel
        by_cases hltb : b < H
        · have d3 : decide ((b : Int) < s) = true := decide_eq_true (by have := HHH.out; omega)
          have d4 : decide ((b : Int) < 20) = true := decide_eq_true (by have := HWB.out; omega)
          have b20 : (b : Int) < 20 := by have := HWB.out; omega
          obtain ⟨PX, hPX⟩ : ∃ x, p + (a : Int) = x := ⟨_, rfl⟩
          obtain ⟨PY, hPY⟩ : ∃ x, q + (b : Int) = x := ⟨_, rfl⟩
          have hPXb : 0 ≤ PX ∧ PX < S := by have := HB.out; omega
          have hPYb : 0 ≤ PY ∧ PY < S := by have := HB.out; omega
          have hS2 := HB.out.2.2
          have wx : wrap64 (p + a) = PX := (IntWalk.wrap64_in _ ⟨by omega, by omega⟩).trans hPX
          have wy : wrap64 (q + b) = PY := (IntWalk.wrap64_in _ ⟨by omega, by omega⟩).trans hPY
          have wx1 : wrap64 (PX + 1) = PX + 1 := IntWalk.wrap64_in _ ⟨by omega, by omega⟩
          have wx2 : wrap64 (PX - 1) = PX - 1 := IntWalk.wrap64_in _ ⟨by omega, by omega⟩
          have wy1 : wrap64 (PY + 1) = PY + 1 := IntWalk.wrap64_in _ ⟨by omega, by omega⟩
          have wy2 : wrap64 (PY - 1) = PY - 1 := IntWalk.wrap64_in _ ⟨by omega, by omega⟩
          have wx1' : IntKind.i64.wrap (PX + 1) = PX + 1 := IntWalk.i64_in _ (by omega)
          have wx2' : IntKind.i64.wrap (PX - 1) = PX - 1 := IntWalk.i64_in _ (by omega)
          have wy1' : IntKind.i64.wrap (PY + 1) = PY + 1 := IntWalk.i64_in _ (by omega)
          have wy2' : IntKind.i64.wrap (PY - 1) = PY - 1 := IntWalk.i64_in _ (by omega)
          have hGab := HGE.out a b
          rw [hPX, hPY] at hGab
          obtain ⟨Xu, hXu⟩ : ∃ x, (PX + 1) % S = x := ⟨_, rfl⟩
          obtain ⟨Xd, hXd⟩ : ∃ x, (PX - 1) % S = x := ⟨_, rfl⟩
          obtain ⟨Yu, hYu⟩ : ∃ x, (PY + 1) % S = x := ⟨_, rfl⟩
          obtain ⟨Yd, hYd⟩ : ∃ x, (PY - 1) % S = x := ⟨_, rfl⟩
          have bXu : 0 ≤ Xu ∧ Xu < S := by rw [← hXu]; exact ⟨Int.emod_nonneg _ (by omega), Int.emod_lt_of_pos _ (by omega)⟩
          have bXd : 0 ≤ Xd ∧ Xd < S := by rw [← hXd]; exact ⟨Int.emod_nonneg _ (by omega), Int.emod_lt_of_pos _ (by omega)⟩
          have bYu : 0 ≤ Yu ∧ Yu < S := by rw [← hYu]; exact ⟨Int.emod_nonneg _ (by omega), Int.emod_lt_of_pos _ (by omega)⟩
          have bYd : 0 ≤ Yd ∧ Yd < S := by rw [← hYd]; exact ⟨Int.emod_nonneg _ (by omega), Int.emod_lt_of_pos _ (by omega)⟩
          have p0 : ptC S PX PY 0 = (Xu, PY) := by rw [← hXu]; rfl
          have p1 : ptC S PX PY 1 = (Xd, PY) := by rw [← hXd]; rfl
          have p2 : ptC S PX PY 2 = (PX, Yu) := by rw [← hYu]; rfl
          have p3 : ptC S PX PY 3 = (PX, Yd) := by rw [← hYd]; rfl
          have hPP := Lib.hid (show ptC S PX PY 0 = (Xu, PY) ∧ ptC S PX PY 1 = (Xd, PY) ∧ ptC S PX PY 2 = (PX, Yu) ∧ ptC S PX PY 3 = (PX, Yd) from ⟨p0, p1, p2, p3⟩)
          have HW0 := Lib.hid (show (PX + 1) % sd K = Xu ∧ PY % sd K = PY by rw [HSD.out]; exact ⟨hXu, Int.emod_eq_of_lt hPYb.1 hPYb.2⟩)
          have HW1 := Lib.hid (show (PX - 1) % sd K = Xd ∧ PY % sd K = PY by rw [HSD.out]; exact ⟨hXd, Int.emod_eq_of_lt hPYb.1 hPYb.2⟩)
          have HW2 := Lib.hid (show PX % sd K = PX ∧ (PY + 1) % sd K = Yu by rw [HSD.out]; exact ⟨Int.emod_eq_of_lt hPXb.1 hPXb.2, hYu⟩)
          have HW3 := Lib.hid (show PX % sd K = PX ∧ (PY - 1) % sd K = Yd by rw [HSD.out]; exact ⟨Int.emod_eq_of_lt hPXb.1 hPXb.2, hYd⟩)
          have hA0 := HAT.out Xu PY bXu hPYb
          have hA1 := HAT.out Xd PY bXd hPYb
          have hA2 := HAT.out PX Yu hPXb bYu
          have hA3 := HAT.out PX Yd hPXb bYd
          obtain ⟨N0, hN0⟩ : ∃ N0, R0 + sumN (G a) b = N0 := ⟨_, rfl⟩
          have bN0 : 0 ≤ N0 ∧ N0 ≤ 1088 := by have := HR.out a b (by have := HWB.out; omega); have := BR0.out; omega
          rw [hN0]
          have HNX := Lib.hid (show R0 + sumN (G a) (b + 1) = N0 + sumN (ctr Z S PX PY) 4 by rw [← hN0, sumN, hGab, Int.add_assoc])
          have BN0 := Lib.hid bN0
          have HA0 := Lib.hid hA0
          have HA1 := Lib.hid hA1
          have HA2 := Lib.hid hA2
          have HA3 := Lib.hid hA3
          clear hPX hPY hPXb hPYb hS2 hGab hXu hXd hYu hYd bXu bXd bYu bYd p0 p1 p2 p3 hA0 hA1 hA2 hA3 hN0 bN0
          have q0 := c_a0 _ hsb
          have q1 := c_a1 _ hsb
          go_upto_region 10 with fail
          obtain ⟨w3, hw3⟩ : ∃ w3, w3 = wr.alloc (.cells #[.int .i64 PX, .int .i64 PY] 25) := ⟨_, rfl⟩
          rw [← hw3]
          have hs3 : Since wz w3 := Since.named (hsb.alloc _) hw3
          have bc : Whole w3 wr.heap.size 25 #[.int .i64 PX, .int .i64 PY] := (Whole.new wr _ _).named hw3
          obtain ⟨gc, hgc⟩ : ∃ g, g = wr.heap.size := ⟨_, rfl⟩
          rw [← hgc] at bc ⊢
          have k_bt := fun W (h : Since w3 W) => c_bt W (hs3.trans h)
          have k_c0 := box_cell bc 0 (.int .i64 PX) rfl
          have k_c1 := box_cell bc 1 (.int .i64 PY) rfl
          have hsd3 : Since w3 w3.drew := (Since.refl w3).drew
          have hsr3 := Since.refl w3
          clear hw3 hgc bc q0 q1 hsb
          go_region_held3 (fun W => Since w3 W) (first | assumption | exact Since.drew (by assumption) | exact Since.alloc (by assumption) _) ((first | (go_at_call 40; (with_reducible refine (Calls.since (by assumption) (wrap_pt HW0.out.1 HW0.out.2 _)).mono ?_); rintro e wA ⟨rfl, hA⟩) | (go_at_call 40; (with_reducible refine (Calls.since (by assumption) (wrap_pt HW1.out.1 HW1.out.2 _)).mono ?_); rintro e wB ⟨rfl, hB⟩) | (go_at_call 40; (with_reducible refine (Calls.since (by assumption) (wrap_pt HW2.out.1 HW2.out.2 _)).mono ?_); rintro e wC ⟨rfl, hC⟩) | (go_at_call 40; (with_reducible refine (Calls.since (by assumption) (wrap_pt HW3.out.1 HW3.out.2 _)).mono ?_); rintro e wD ⟨rfl, hD⟩)))
          go_wp2_with fail
          obtain ⟨wb, hwb⟩ : ∃ wb, wb = wD.alloc (.cells #[.int .i64 Xu, .int .i64 PY, .int .i64 Xd, .int .i64 PY, .int .i64 PX, .int .i64 Yu, .int .i64 PX, .int .i64 Yd] 25) := ⟨_, rfl⟩
          rw [← hwb]
          have hs5 : Since wz wb := Since.named ((hs3.trans hD).alloc _) hwb
          have row : Whole wb wD.heap.size 25 #[.int .i64 Xu, .int .i64 PY, .int .i64 Xd, .int .i64 PY, .int .i64 PX, .int .i64 Yu, .int .i64 PX, .int .i64 Yd] := (Whole.new wD _ _).named hwb
          obtain ⟨gx, hgx⟩ : ∃ g, g = wD.heap.size := ⟨_, rfl⟩
          rw [← hgx] at row ⊢
          have k_row := fun W (h : Since wb W) => Since.whole h row
          have HROW := Lib.hid (show ∀ (j : Nat), j < 4 → ∀ W, Since wb W → W.cell? ⟨gx, j * 2, none⟩ = some (.int .i64 (ptC S PX PY j).1) ∧ W.cell? ⟨gx, j * 2 + 1, none⟩ = some (.int .i64 (ptC S PX PY j).2) by
            intro j hj W hW
            have hw := k_row W hW
            rcases (show j = 0 ∨ j = 1 ∨ j = 2 ∨ j = 3 by omega) with rfl | rfl | rfl | rfl
            · rw [hPP.out.1]; exact ⟨hw.cell 0, hw.cell 1⟩
            · rw [hPP.out.2.1]; exact ⟨hw.cell 2, hw.cell 3⟩
            · rw [hPP.out.2.2.1]; exact ⟨hw.cell 4, hw.cell 5⟩
            · rw [hPP.out.2.2.2]; exact ⟨hw.cell 6, hw.cell 7⟩)
          have HHAS := Lib.hid (show ∀ (j : Nat), j < 4 → hasB K (ptC S PX PY j).1 (ptC S PX PY j).2 = true ∧ (atV K (ptC S PX PY j).1 (ptC S PX PY j).2 F.toNat == C) = inZ Z (ptC S PX PY j) by
            intro j hj
            rcases (show j = 0 ∨ j = 1 ∨ j = 2 ∨ j = 3 by omega) with rfl | rfl | rfl | rfl
            · rw [hPP.out.1]; exact HA0.out
            · rw [hPP.out.2.1]; exact HA1.out
            · rw [hPP.out.2.2.1]; exact HA2.out
            · rw [hPP.out.2.2.2]; exact HA3.out)
          have kb_t := fun W (h : Since wb W) => c_bt W (hs5.trans h)
          have kb_0 := fun W (h : Since wb W) => c_q0 W (hs5.trans h)
          have kb_1 := fun W (h : Since wb W) => c_q1 W (hs5.trans h)
          have hsrb := Since.refl wb
          clear hwb hgx row k_row k_bt k_c0 k_c1 hA hB hC hD hs3 hsr3 HW0 HW1 HW2 HW3 HA0 HA1 HA2 HA3 wx wy wx1 wx2 wy1 wy2 wx1' wx2' wy1' wy2'
          go_loopw [10, 15] (fun nv iv wr => ∃ m : Nat, iv = .int .i64 m ∧ m ≤ 4 ∧ nv = .int .i64 (N0 + sumN (ctr Z S PX PY) m) ∧ Since wb wr) (fun _ iv _ => 4 - (intOf iv).toNat)
          case atStart => exact ⟨0, rfl, Nat.zero_le _, by rw [sumN, Int.add_zero], hsrb⟩
          case round =>
            obtain ⟨j, rfl, hj4, rfl, hsj⟩ := hrel
            by_cases hltj : j < 4
            · have d5 : decide ((j : Int) < 4) = true := decide_eq_true (by omega)
              have j4 : (j : Int) < 4 := by omega
              obtain ⟨V, hV⟩ : ∃ V, N0 + sumN (ctr Z S PX PY) j = V := ⟨_, rfl⟩
              have bV : 0 ≤ V ∧ V ≤ 1092 := by
                have := sumN_bd (f := ctr Z S PX PY) (c := 1) (n := j) (fun i _ => ctr_01 _ _ _ _ i)
                have := BN0.out
                omega
              have hst := ctr_step N0 Z S PX PY j
              rw [hV] at hst ⊢
              have wV : wrap64 (V + 1) = V + 1 := IntWalk.wrap64_in _ ⟨by omega, by omega⟩
              obtain ⟨xj, hxj⟩ : ∃ x, (ptC S PX PY j).1 = x := ⟨_, rfl⟩
              obtain ⟨yj, hyj⟩ : ∃ x, (ptC S PX PY j).2 = x := ⟨_, rfl⟩
              have hro := HROW.out j hltj
              have hha := HHAS.out j hltj
              rw [hxj, hyj] at hha
              simp only [hxj, hyj] at hro
              have j_x := fun W (h : Since wb W) => (hro W h).1
              have j_y := fun W (h : Since wb W) => (hro W h).2
              obtain ⟨AV, hAV⟩ : ∃ x, atV K xj yj F.toNat = x := ⟨_, rfl⟩
              obtain ⟨hit, hhit⟩ : ∃ x, inZ Z (ptC S PX PY j) = x := ⟨_, rfl⟩
              obtain ⟨ag, hag⟩ : ∃ x, agB S PX PY j = x := ⟨_, rfl⟩
              rw [hAV, hhit] at hha
              rw [hhit, hag] at hst
              have HST := Lib.hid hst
              have HATJ := Lib.hid (fun W : World => at_yes6 W hha.1 HF.out.1 HF.out.2 hAV)
              have hAC := hha.2
              have HAG := Lib.hid hag
              have HXY := Lib.hid (show ptC S PX PY j = (xj, yj) by rw [← hxj, ← hyj])
              clear hV bV hst hxj hyj hro hha hAV hhit hag
              go_upto_region 14 with fail
              go_cut [16] from 82 to 125 (fun s16 wx => s16 = .bool ag ∧ Since wb wx)
              case first =>
                by_cases ho : j % 2 = 1
                · obtain ⟨i, hij⟩ : ∃ i, j = i + 1 := ⟨j - 1, by omega⟩
                  have hro := HROW.out i (by omega)
                  obtain ⟨xi, hxi⟩ : ∃ x, (ptC S PX PY i).1 = x := ⟨_, rfl⟩
                  obtain ⟨yi, hyi⟩ : ∃ x, (ptC S PX PY i).2 = x := ⟨_, rfl⟩
                  simp only [hxi, hyi] at hro
                  have i_x := fun W (h : Since wb W) => (hro W h).1
                  have i_y := fun W (h : Since wb W) => (hro W h).2
                  have m_e : (j : Int).tmod 2 = 1 := by rw [Int.tmod_eq_emod_of_nonneg (by omega)]; omega
                  have m_w : IntKind.i64.wrap ((j : Int).tmod 2) = 1 := by rw [m_e]; decide
                  have z1 : IntKind.i64.wrap 1 = 1 := by decide
                  have w_i : wrap64 ((j : Int) - 1) = (i : Int) := (IntWalk.wrap64_in _ ⟨by omega, by omega⟩).trans (by omega)
                  have w_i' : IntKind.i64.wrap ((j : Int) - 1) = (i : Int) := (IntWalk.i64_in _ (by omega)).trans (by omega)
                  have i4 : (i : Int) < 4 := by omega
                  have hg : ag = ((xj == xi) && (yj == yi)) := by
                    rw [← HAG.out]
                    unfold agB
                    rw [HXY.out, show j - 1 = i by omega, show ptC S PX PY i = (xi, yi) by rw [← hxi, ← hyi], decide_eq_true ho, Bool.true_and, Bool.eq_iff_iff]
                    simp
                  have hsdj : Since wb wr.drew := hsj.drew
                  clear hxi hyi hro ho hij
                  cases hx : (xj == xi)
                  · rw [hx, Bool.false_and] at hg
                    have HG := Lib.hid hg
                    clear hg
                    go_region_held3 (fun W => Since wb W) (first | assumption | exact Since.drew (by assumption)) ((first | fail))
                    go_wp2_with fail
                    go_meet
                    case rel => exact ⟨by rw [HG.out], by assumption⟩
                  · cases hy : (yj == yi)
                    · rw [hx, hy, Bool.true_and] at hg
                      have HG := Lib.hid hg
                      clear hg
                      go_region_held3 (fun W => Since wb W) (first | assumption | exact Since.drew (by assumption)) ((first | fail))
                      go_wp2_with fail
                      go_meet
                      case rel => exact ⟨by rw [HG.out], by assumption⟩
                    · rw [hx, hy, Bool.true_and] at hg
                      have HG := Lib.hid hg
                      clear hg
                      go_region_held3 (fun W => Since wb W) (first | assumption | exact Since.drew (by assumption)) ((first | fail))
                      go_wp2_with fail
                      go_meet
                      case rel => exact ⟨by rw [HG.out], by assumption⟩
                · have m_e : (j : Int).tmod 2 = 0 := by rw [Int.tmod_eq_emod_of_nonneg (by omega)]; omega
                  have m_w : IntKind.i64.wrap ((j : Int).tmod 2) = 0 := by rw [m_e]; decide
                  have z0 : IntKind.i64.wrap 0 = 0 := by decide
                  have hg : ag = false := by
                    rw [← HAG.out]
                    unfold agB
                    rw [decide_eq_false ho]
                    rfl
                  have HG := Lib.hid hg
                  clear hg ho
                  obtain ⟨wq, hwq⟩ : ∃ wq, wq = wr.drew := ⟨_, rfl⟩
                  refine wp_region_held_drew (S := fun W => Since wb W) (by kernel_rfl) (Since.drew hsj) (fun hHeld => ?_)
                  rw [← hwq] at hHeld ⊢
                  have hq : Since wb wq := hHeld
                  clear hwq
                  refine wpAnyH_take (i := 0) (v := ?_) rfl (by kernel_rfl) (by kernel_rfl) (by kernel_rfl) (fun _ _ _ h => h) (Or.inl ⟨by rfl, ?_⟩) (by assumption) ?_
                  rotate_left 1
                  · (intro W hW; clear hW; go_simp; try with_reducible rfl)
                  simp only [Act.put, List.getElem_toArray, List.getElem_cons_zero, List.setIfInBounds_toArray, List.set_cons_zero, List.set_cons_succ]
                  refine wpAnyH_take (i := 1) (v := ?_) rfl (by kernel_rfl) (by kernel_rfl) (by kernel_rfl) (fun _ _ _ h => h) (Or.inl ⟨by rfl, ?_⟩) (by assumption) ?_
                  rotate_left 1
                  · (intro W hW; clear hW; go_simp; try with_reducible rfl)
                  simp only [Act.put, List.getElem_toArray, List.getElem_cons_succ, List.getElem_cons_zero, List.setIfInBounds_toArray, List.set_cons_zero, List.set_cons_succ]
                  refine wpAnyH_take (i := 2) (v := ?_) rfl (by kernel_rfl) (by kernel_rfl) (by kernel_rfl) (fun _ _ _ h => h) (Or.inl ⟨by rfl, ?_⟩) (by assumption) ?_
                  rotate_left 1
                  · (intro W hW; clear hW; go_simp; try with_reducible rfl)
                  simp only [Act.put, List.getElem_toArray, List.getElem_cons_succ, List.getElem_cons_zero, List.setIfInBounds_toArray, List.set_cons_zero, List.set_cons_succ]
                  refine wpAnyH_take (i := 3) (v := ?_) rfl (by kernel_rfl) (by kernel_rfl) (by kernel_rfl) (fun _ _ _ h => h) (Or.inl ⟨by rfl, ?_⟩) (by assumption) ?_
                  rotate_left 1
                  · (intro W hW; clear hW; go_simp; try with_reducible rfl)
                  simp only [Act.put, List.getElem_toArray, List.getElem_cons_succ, List.getElem_cons_zero, List.setIfInBounds_toArray, List.set_cons_zero, List.set_cons_succ]
                  refine wpAnyH_take (i := 4) (v := undef) rfl (by kernel_rfl) (by kernel_rfl) (by kernel_rfl) (fun _ _ _ h => h) (Or.inr ⟨by rfl, rfl⟩) (by assumption) ?_
                  simp only [Act.put, List.getElem_toArray, List.getElem_cons_succ, List.getElem_cons_zero, List.setIfInBounds_toArray, List.set_cons_zero, List.set_cons_succ]
                  refine wpAnyH_take (i := 5) (v := undef) rfl (by kernel_rfl) (by kernel_rfl) (by kernel_rfl) (fun _ _ _ h => h) (Or.inr ⟨by rfl, rfl⟩) (by assumption) ?_
                  simp only [Act.put, List.getElem_toArray, List.getElem_cons_succ, List.getElem_cons_zero, List.setIfInBounds_toArray, List.set_cons_zero, List.set_cons_succ]
                  refine wpAnyH_take (i := 6) (v := undef) rfl (by kernel_rfl) (by kernel_rfl) (by kernel_rfl) (fun _ _ _ h => h) (Or.inr ⟨by rfl, rfl⟩) (by assumption) ?_
                  simp only [Act.put, List.getElem_toArray, List.getElem_cons_succ, List.getElem_cons_zero, List.setIfInBounds_toArray, List.set_cons_zero, List.set_cons_succ]
                  refine wpAnyH_take (i := 7) (v := undef) rfl (by kernel_rfl) (by kernel_rfl) (by kernel_rfl) (fun _ _ _ h => h) (Or.inr ⟨by rfl, rfl⟩) (by assumption) ?_
                  simp only [Act.put, List.getElem_toArray, List.getElem_cons_succ, List.getElem_cons_zero, List.setIfInBounds_toArray, List.set_cons_zero, List.set_cons_succ]
                  refine wpAnyH_take (i := 8) (v := undef) rfl (by kernel_rfl) (by kernel_rfl) (by kernel_rfl) (fun _ _ _ h => h) (Or.inr ⟨by rfl, rfl⟩) (by assumption) ?_
                  simp only [Act.put, List.getElem_toArray, List.getElem_cons_succ, List.getElem_cons_zero, List.setIfInBounds_toArray, List.set_cons_zero, List.set_cons_succ]
                  refine wpAnyH_take (i := 9) (v := undef) rfl (by kernel_rfl) (by kernel_rfl) (by kernel_rfl) (fun _ _ _ h => h) (Or.inr ⟨by rfl, rfl⟩) (by assumption) ?_
                  simp only [Act.put, List.getElem_toArray, List.getElem_cons_succ, List.getElem_cons_zero, List.setIfInBounds_toArray, List.set_cons_zero, List.set_cons_succ]
                  refine wpAnyH_take (i := 10) (v := undef) rfl (by kernel_rfl) (by kernel_rfl) (by kernel_rfl) (fun _ _ _ h => h) (Or.inr ⟨by rfl, rfl⟩) (by assumption) ?_
                  simp only [Act.put, List.getElem_toArray, List.getElem_cons_succ, List.getElem_cons_zero, List.setIfInBounds_toArray, List.set_cons_zero, List.set_cons_succ]
                  refine wpAnyH_take (i := 11) (v := undef) rfl (by kernel_rfl) (by kernel_rfl) (by kernel_rfl) (fun _ _ _ h => h) (Or.inr ⟨by rfl, rfl⟩) (by assumption) ?_
                  simp only [Act.put, List.getElem_toArray, List.getElem_cons_succ, List.getElem_cons_zero, List.setIfInBounds_toArray, List.set_cons_zero, List.set_cons_succ]
                  refine wpAnyH_take (i := 12) (v := undef) rfl (by kernel_rfl) (by kernel_rfl) (by kernel_rfl) (fun _ _ _ h => h) (Or.inr ⟨by rfl, rfl⟩) (by assumption) ?_
                  simp only [Act.put, List.getElem_toArray, List.getElem_cons_succ, List.getElem_cons_zero, List.setIfInBounds_toArray, List.set_cons_zero, List.set_cons_succ]
                  refine wpAnyH_take (i := 13) (v := undef) rfl (by kernel_rfl) (by kernel_rfl) (by kernel_rfl) (fun _ _ _ h => h) (Or.inr ⟨by rfl, rfl⟩) (by assumption) ?_
                  simp only [Act.put, List.getElem_toArray, List.getElem_cons_succ, List.getElem_cons_zero, List.setIfInBounds_toArray, List.set_cons_zero, List.set_cons_succ]
                  refine wpAnyH_take (i := 14) (v := ?_) rfl (by kernel_rfl) (by kernel_rfl) (by kernel_rfl) (fun _ _ _ h => h) (Or.inl ⟨by rfl, ?_⟩) (by assumption) ?_
                  rotate_left 1
                  · (intro W hW; clear hW; go_simp; try with_reducible rfl)
                  simp only [Act.put, List.getElem_toArray, List.getElem_cons_succ, List.getElem_cons_zero, List.setIfInBounds_toArray, List.set_cons_zero, List.set_cons_succ]
                  refine wpAnyH_take (i := 15) (v := ?_) rfl (by kernel_rfl) (by kernel_rfl) (by kernel_rfl) (fun _ _ _ h => h) (Or.inl ⟨by rfl, ?_⟩) (by assumption) ?_
                  rotate_left 1
                  · (intro W hW; clear hW; go_simp; try with_reducible rfl)
                  simp only [Act.put, List.getElem_toArray, List.getElem_cons_succ, List.getElem_cons_zero, List.setIfInBounds_toArray, List.set_cons_zero, List.set_cons_succ]
                  refine wpAnyH_done (by kernel_rfl) ?_ _
                  go_wp2_with fail
                  go_meet
                  case rel => exact ⟨by rw [HG.out], hq⟩
              case rest =>
                obtain ⟨wr2, hwr2⟩ : ∃ w', w' = wc := ⟨_, rfl⟩
                rw [← hwr2] at hcut ⊢
                clear hwr2
                obtain ⟨rfl, hs2⟩ := hcut
                have l_t := fun W (h : Since wr2 W) => kb_t W (hs2.trans h)
                have l_0 := fun W (h : Since wr2 W) => kb_0 W (hs2.trans h)
                have l_1 := fun W (h : Since wr2 W) => kb_1 W (hs2.trans h)
                have l_x := fun W (h : Since wr2 W) => j_x W (hs2.trans h)
                have l_y := fun W (h : Since wr2 W) => j_y W (hs2.trans h)
                have hsd : Since wr2 wr2.drew := (Since.refl wr2).drew
                go_upto_region 15 with fail
                go_cut [17, 18] from 82 to 125 (fun p e wx => (∃ NB, p = .pointer (some ⟨NB, 0, none⟩) ∧ Whole wx NB 27 #[.int .i64 F, .int .i64 AV]) ∧ e = .int .i64 0 ∧ Since wr2 wx)
                case first =>
                  obtain ⟨wq, hwq⟩ : ∃ wq, wq = wr2.drew := ⟨_, rfl⟩
                  refine wp_region_held_drew (S := fun W => Since wr2 W) (by kernel_rfl) hsd (fun hHeld => ?_)
                  rw [← hwq] at hHeld ⊢
                  have hq : Since wr2 wq := hHeld
                  clear hwq hsd
                  refine wpAnyH_take (i := 0) (v := ?_) rfl (by kernel_rfl) (by kernel_rfl) (by kernel_rfl) (fun _ _ _ h => h) (Or.inl ⟨by rfl, ?_⟩) (by assumption) ?_
                  rotate_left 1
                  · (intro W hW; skip; go_simp; try with_reducible rfl)
                  simp only [Act.put, List.getElem_toArray, List.getElem_cons_zero, List.setIfInBounds_toArray, List.set_cons_zero, List.set_cons_succ]
                  refine wpAnyH_take (i := 1) (v := ?_) rfl (by kernel_rfl) (by kernel_rfl) (by kernel_rfl) (fun _ _ _ h => h) (Or.inl ⟨by rfl, ?_⟩) (by assumption) ?_
                  rotate_left 1
                  · (intro W hW; clear hW; go_simp; try with_reducible rfl)
                  simp only [Act.put, List.getElem_toArray, List.getElem_cons_succ, List.getElem_cons_zero, List.setIfInBounds_toArray, List.set_cons_zero, List.set_cons_succ]
                  refine wpAnyH_take (i := 2) (v := ?_) rfl (by kernel_rfl) (by kernel_rfl) (by kernel_rfl) (fun _ _ _ h => h) (Or.inl ⟨by rfl, ?_⟩) (by assumption) ?_
                  rotate_left 1
                  · (intro W hW; clear hW; go_simp; try with_reducible rfl)
                  simp only [Act.put, List.getElem_toArray, List.getElem_cons_succ, List.getElem_cons_zero, List.setIfInBounds_toArray, List.set_cons_zero, List.set_cons_succ]
                  refine wpAnyH_take (i := 3) (v := ?_) rfl (by kernel_rfl) (by kernel_rfl) (by kernel_rfl) (fun _ _ _ h => h) (Or.inl ⟨by rfl, ?_⟩) (by assumption) ?_
                  rotate_left 1
                  · (intro W hW; clear hW; go_simp; try with_reducible rfl)
                  simp only [Act.put, List.getElem_toArray, List.getElem_cons_succ, List.getElem_cons_zero, List.setIfInBounds_toArray, List.set_cons_zero, List.set_cons_succ]
                  refine wpAnyH_take (i := 4) (v := ?_) rfl (by kernel_rfl) (by kernel_rfl) (by kernel_rfl) (fun _ _ _ h => h) (Or.inl ⟨by rfl, ?_⟩) (by assumption) ?_
                  rotate_left 1
                  · (intro W hW; skip; go_simp; try with_reducible rfl)
                  simp only [Act.put, List.getElem_toArray, List.getElem_cons_succ, List.getElem_cons_zero, List.setIfInBounds_toArray, List.set_cons_zero, List.set_cons_succ]
                  refine wpAnyH_take (i := 5) (v := ?_) rfl (by kernel_rfl) (by kernel_rfl) (by kernel_rfl) (fun _ _ _ h => h) (Or.inl ⟨by rfl, ?_⟩) (by assumption) ?_
                  rotate_left 1
                  · (intro W hW; clear hW; go_simp; try with_reducible rfl)
                  simp only [Act.put, List.getElem_toArray, List.getElem_cons_succ, List.getElem_cons_zero, List.setIfInBounds_toArray, List.set_cons_zero, List.set_cons_succ]
                  refine wpAnyH_take (i := 6) (v := ?_) rfl (by kernel_rfl) (by kernel_rfl) (by kernel_rfl) (fun _ _ _ h => h) (Or.inl ⟨by rfl, ?_⟩) (by assumption) ?_
                  rotate_left 1
                  · (intro W hW; skip; go_simp; try with_reducible rfl)
                  simp only [Act.put, List.getElem_toArray, List.getElem_cons_succ, List.getElem_cons_zero, List.setIfInBounds_toArray, List.set_cons_zero, List.set_cons_succ]
                  refine wpAnyH_ready (rs := [7, 11]) (by kernel_rfl) (by simp) ?_
                  refine AllReadyH.cons rfl (fun K hK => ?_) (AllReadyH.cons rfl (fun K hK => ?_) AllReadyH.nil)
                  · go_simp
                    refine (Calls.since hq (HATJ.out _)).mono ?_
                    rintro e w2 ⟨rfl, hb2⟩
                    go_wp2_with fail
                    refine hK.out _ _ (hb2) (fun hHeld => ?_)
                    clear hK K
                    try simp only [Act.put, List.getElem_toArray, List.getElem_cons_succ, List.getElem_cons_zero, List.setIfInBounds_toArray, List.set_cons_zero, List.set_cons_succ]
                    refine wpAnyH_take (i := 8) (v := ?_) rfl (by kernel_rfl) (by kernel_rfl) (by kernel_rfl) (fun _ _ _ h => h) (Or.inl ⟨by rfl, ?_⟩) (by assumption) ?_
                    rotate_left 1
                    · (intro W hW; clear hW; go_simp; try with_reducible rfl)
                    simp only [Act.put, List.getElem_toArray, List.getElem_cons_succ, List.getElem_cons_zero, List.setIfInBounds_toArray, List.set_cons_zero, List.set_cons_succ]
                    refine wpAnyH_take (i := 9) (v := ?_) rfl (by kernel_rfl) (by kernel_rfl) (by kernel_rfl) (fun _ _ _ h => h) (Or.inl ⟨by rfl, ?_⟩) (by assumption) ?_
                    rotate_left 1
                    · (intro W hW; clear hW; go_simp; try with_reducible rfl)
                    simp only [Act.put, List.getElem_toArray, List.getElem_cons_succ, List.getElem_cons_zero, List.setIfInBounds_toArray, List.set_cons_zero, List.set_cons_succ]
                    refine wpAnyH_take (i := 10) (v := ?_) rfl (by kernel_rfl) (by kernel_rfl) (by kernel_rfl) (fun _ _ _ h => h) (Or.inl ⟨by rfl, ?_⟩) (by assumption) ?_
                    rotate_left 1
                    · (intro W hW; clear hW; go_simp; try with_reducible rfl)
                    simp only [Act.put, List.getElem_toArray, List.getElem_cons_succ, List.getElem_cons_zero, List.setIfInBounds_toArray, List.set_cons_zero, List.set_cons_succ]
                    refine wpAnyH_ready (rs := [11]) (by kernel_rfl) (by simp) ?_
                    refine AllReadyH.cons rfl (fun K hK => ?_) AllReadyH.nil
                    go_simp
                    skip
                    refine hK.out _ _ (hb2.alloc _) (fun hHeld => ?_)
                    clear hK K
                    try simp only [Act.put, List.getElem_toArray, List.getElem_cons_succ, List.getElem_cons_zero, List.setIfInBounds_toArray, List.set_cons_zero, List.set_cons_succ]
                    refine wpAnyH_ready (rs := [12]) (by kernel_rfl) (by simp) ?_
                    refine AllReadyH.cons rfl (fun K hK => ?_) AllReadyH.nil
                    go_simp
                    skip
                    refine hK.out _ _ (hb2.alloc _) (fun hHeld => ?_)
                    clear hK K
                    try simp only [Act.put, List.getElem_toArray, List.getElem_cons_succ, List.getElem_cons_zero, List.setIfInBounds_toArray, List.set_cons_zero, List.set_cons_succ]
                    refine wpAnyH_take (i := 13) (v := ?_) rfl (by kernel_rfl) (by kernel_rfl) (by kernel_rfl) (fun _ _ _ h => h) (Or.inl ⟨by rfl, ?_⟩) (by assumption) ?_
                    rotate_left 1
                    · (intro W hW; clear hW; go_simp; try with_reducible rfl)
                    simp only [Act.put, List.getElem_toArray, List.getElem_cons_succ, List.getElem_cons_zero, List.setIfInBounds_toArray, List.set_cons_zero, List.set_cons_succ]
                    refine wpAnyH_done (by kernel_rfl) ?_ _
                    obtain ⟨w5, hw5⟩ : ∃ w5, w5 = w2.alloc (.cells #[.int .i64 F, .int .i64 AV] 27) := ⟨_, rfl⟩
                    have hS5 : Since wr2 w5 := Since.named (hb2.alloc _) hw5
                    have hN5 : Whole w5 w2.heap.size 27 #[.int .i64 F, .int .i64 AV] := (Whole.new w2 _ _).named hw5
                    obtain ⟨NB, hNB⟩ : ∃ NB, NB = w2.heap.size := ⟨_, rfl⟩
                    rw [← hw5, ← hNB]
                    rw [← hNB] at hN5
                    clear hHeld hb2 hw5 hNB hq
                    go_wp2_with fail
                    go_meet
                    case rel => exact ⟨⟨_, rfl, hN5⟩, rfl, hS5⟩
                  · go_simp
                    skip
                    refine hK.out _ _ (hq.alloc _) (fun hHeld => ?_)
                    clear hK K
                    try simp only [Act.put, List.getElem_toArray, List.getElem_cons_succ, List.getElem_cons_zero, List.setIfInBounds_toArray, List.set_cons_zero, List.set_cons_succ]
                    refine wpAnyH_ready (rs := [7]) (by kernel_rfl) (by simp) ?_
                    refine AllReadyH.cons rfl (fun K hK => ?_) AllReadyH.nil
                    go_simp
                    refine (HATJ.out _).mono ?_
                    rintro e w2 ⟨rfl, hb2'⟩
                    have hb2 : Since wr2 w2 := Since.trans (hq.alloc _) hb2'
                    have hw := (Whole.new wq 27 #[.int .i64 0, .int .i64 0]).below hb2' (by simp)
                    have y0 := hw.cell 0
                    have x0 := hw.frozen 0
                    have y1 := hw.cell 1
                    have x1 := hw.frozen 1
                    go_wp2_with fail
                    refine hK.out _ _ (hb2) (fun hHeld => ?_)
                    clear hK K
                    try simp only [Act.put, List.getElem_toArray, List.getElem_cons_succ, List.getElem_cons_zero, List.setIfInBounds_toArray, List.set_cons_zero, List.set_cons_succ]
                    refine wpAnyH_take (i := 8) (v := ?_) rfl (by kernel_rfl) (by kernel_rfl) (by kernel_rfl) (fun _ _ _ h => h) (Or.inl ⟨by rfl, ?_⟩) (by assumption) ?_
                    rotate_left 1
                    · (intro W hW; clear hW; go_simp; try with_reducible rfl)
                    simp only [Act.put, List.getElem_toArray, List.getElem_cons_succ, List.getElem_cons_zero, List.setIfInBounds_toArray, List.set_cons_zero, List.set_cons_succ]
                    refine wpAnyH_take (i := 9) (v := ?_) rfl (by kernel_rfl) (by kernel_rfl) (by kernel_rfl) (fun _ _ _ h => h) (Or.inl ⟨by rfl, ?_⟩) (by assumption) ?_
                    rotate_left 1
                    · (intro W hW; clear hW; go_simp; try with_reducible rfl)
                    simp only [Act.put, List.getElem_toArray, List.getElem_cons_succ, List.getElem_cons_zero, List.setIfInBounds_toArray, List.set_cons_zero, List.set_cons_succ]
                    refine wpAnyH_take (i := 10) (v := ?_) rfl (by kernel_rfl) (by kernel_rfl) (by kernel_rfl) (fun _ _ _ h => h) (Or.inl ⟨by rfl, ?_⟩) (by assumption) ?_
                    rotate_left 1
                    · (intro W hW; clear hW; go_simp; try with_reducible rfl)
                    simp only [Act.put, List.getElem_toArray, List.getElem_cons_succ, List.getElem_cons_zero, List.setIfInBounds_toArray, List.set_cons_zero, List.set_cons_succ]
                    refine wpAnyH_ready (rs := [12]) (by kernel_rfl) (by simp) ?_
                    refine AllReadyH.cons rfl (fun K hK => ?_) AllReadyH.nil
                    go_simp
                    skip
                    refine hK.out _ _ ((Since.setCell (Since.setCell hb2 (p := ⟨wq.heap.size, 0, none⟩) hq.size_ _) (p := ⟨wq.heap.size, 1, none⟩) hq.size_ _)) (fun hHeld => ?_)
                    clear hK K
                    try simp only [Act.put, List.getElem_toArray, List.getElem_cons_succ, List.getElem_cons_zero, List.setIfInBounds_toArray, List.set_cons_zero, List.set_cons_succ]
                    refine wpAnyH_take (i := 13) (v := ?_) rfl (by kernel_rfl) (by kernel_rfl) (by kernel_rfl) (fun _ _ _ h => h) (Or.inl ⟨by rfl, ?_⟩) (by assumption) ?_
                    rotate_left 1
                    · (intro W hW; clear hW; go_simp; try with_reducible rfl)
                    simp only [Act.put, List.getElem_toArray, List.getElem_cons_succ, List.getElem_cons_zero, List.setIfInBounds_toArray, List.set_cons_zero, List.set_cons_succ]
                    refine wpAnyH_done (by kernel_rfl) ?_ _
                    obtain ⟨w5, hw5⟩ : ∃ w5, w5 = ((w2.setCell ⟨wq.heap.size, 0, none⟩ (.int .i64 F)).setCell ⟨wq.heap.size, 1, none⟩ (.int .i64 AV)) := ⟨_, rfl⟩
                    have hS5 : Since wr2 w5 := Since.named ((Since.setCell (Since.setCell hb2 (p := ⟨wq.heap.size, 0, none⟩) hq.size_ _) (p := ⟨wq.heap.size, 1, none⟩) hq.size_ _)) hw5
                    have hN5 : Whole w5 wq.heap.size 27 #[.int .i64 F, .int .i64 AV] := (((hw.set_ 0 _).set_ 1 _)).named hw5
                    clear hw hb2' x0 y0 x1 y1
                    obtain ⟨NB, hNB⟩ : ∃ NB, NB = wq.heap.size := ⟨_, rfl⟩
                    rw [← hw5, ← hNB]
                    rw [← hNB] at hN5
                    clear hHeld hb2 hw5 hNB hq
                    go_wp2_with fail
                    go_meet
                    case rel => exact ⟨⟨_, rfl, hN5⟩, rfl, hS5⟩
                case rest =>
                  obtain ⟨wa, hwa⟩ : ∃ w', w' = wc := ⟨_, rfl⟩
                  rw [← hwa] at hcut ⊢
                  clear hwa
                  obtain ⟨⟨NA, rfl, wna⟩, rfl, hsa2⟩ := hcut
                  have n0 := wna.cell 0
                  have n1 := wna.cell 1
                  have hsba := hs2.trans hsa2
                  have n2 := kb_0 _ hsba
                  have n3 := kb_1 _ hsba
                  clear l_t l_0 l_1 l_x l_y hsd wna
                  cases hit
                  · have hn := Lib.hid (show N0 + sumN (ctr Z S PX PY) (j + 1) = V by rw [HST.out]; simp)
                    go_wp2_with (go_at_call 87; (with_reducible refine (law6_num _ _).mono ?_); rintro e wn ⟨rfl, rfl⟩)
                    go_roundw
                    case rel => exact ⟨j + 1, by go_num, by omega, by rw [hn.out], hsba⟩
                    case measure => simp [intOf]; omega
                  · cases ag
                    · have hn := Lib.hid (show N0 + sumN (ctr Z S PX PY) (j + 1) = V + 1 by rw [HST.out]; simp)
                      go_wp2_with (go_at_call 87; (with_reducible refine (law6_num _ _).mono ?_); rintro e wn ⟨rfl, rfl⟩)
                      go_roundw
                      case rel => exact ⟨j + 1, by go_num, by omega, by rw [hn.out, wV], hsba⟩
                      case measure => simp [intOf]; omega
                    · have hn := Lib.hid (show N0 + sumN (ctr Z S PX PY) (j + 1) = V by rw [HST.out]; simp)
                      go_wp2_with (go_at_call 87; (with_reducible refine (law6_num _ _).mono ?_); rintro e wn ⟨rfl, rfl⟩)
                      go_roundw
                      case rel => exact ⟨j + 1, by go_num, by omega, by rw [hn.out], hsba⟩
                      case measure => simp [intOf]; omega
            · have d5 : decide ((j : Int) < 4) = false := decide_eq_false (by omega)
              obtain rfl : j = 4 := by omega
              go_wp2_with fail
              go_roundw
              case rel => exact ⟨b + 1, by go_num, by omega, by rw [HNX.out], hs5.trans hsj⟩
              case measure => simp [intOf]; omega
        · have d3 : decide ((b : Int) < s) = false := decide_eq_false (by have := HHH.out; omega)
          obtain rfl : b = H := by omega
          go_wp2_with fail
          go_roundw
          case rel => exact ⟨a + 1, by go_num, by omega, by rw [HRS.out], hsb⟩
          case measure => simp [intOf]; omega
    · have d1 : decide ((a : Int) < r) = false := decide_eq_false (by have := HWW.out; omega)
      obtain rfl : a = W := by omega
      go_wp2_with fail
      go_ret
      exact ⟨rfl, hsz.trans hsa⟩
end Go.Proofs.Ytgnhamhkpbadbaa
