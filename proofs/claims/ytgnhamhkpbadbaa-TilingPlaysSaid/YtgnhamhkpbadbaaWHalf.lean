/- What zones have of a window, in numbers: the sum of the areas, both halves together. -/
import Derived.Test.YtgnhamhkpbadbaaWMath
import Derived.Test.YtgnhamhkpbadbaaPKnows
namespace Go.Proofs.Ytgnhamhkpbadbaa
open Go.RowKit
/-- How many numbers two spans have together. -/
def ov (l c l' c' : Int) : Int := max 0 (min (l + c) (l' + c') - max l l')
theorem area_meet {a b : Rc} (ha : fineR a = true) (hb : fineR b = true) : areaR (meetR a b) = ov a.x a.w b.x b.w * ov a.y a.h b.y b.h := by
  have h1 := (fineR_iff a).1 ha
  have h2 := (fineR_iff b).1 hb
  by_cases h : 1 ≤ min (a.x + a.w) (b.x + b.w) - max a.x b.x ∧ 1 ≤ min (a.y + a.h) (b.y + b.h) - max a.y b.y
  · have hm : meetR a b = ⟨max a.x b.x, max a.y b.y, min (a.x + a.w) (b.x + b.w) - max a.x b.x, min (a.y + a.h) (b.y + b.h) - max a.y b.y⟩ := if_pos ⟨ha, hb, h.1, h.2⟩
    have hf : fineR (meetR a b) = true := by rw [hm, fineR_iff]; dsimp only; omega
    have e1 : ov a.x a.w b.x b.w = (meetR a b).w := by rw [hm]; unfold ov; dsimp only; omega
    have e2 : ov a.y a.h b.y b.h = (meetR a b).h := by rw [hm]; unfold ov; dsimp only; omega
    unfold areaR
    rw [if_pos hf, e1, e2]
  · have hm : meetR a b = zeroR := if_neg (fun e => h ⟨e.2.2.1, e.2.2.2⟩)
    rw [hm, show areaR zeroR = 0 by decide]
    rcases (show min (a.x + a.w) (b.x + b.w) - max a.x b.x < 1 ∨ min (a.y + a.h) (b.y + b.h) - max a.y b.y < 1 by omega) with e | e
    · rw [show ov a.x a.w b.x b.w = 0 by unfold ov; omega, Int.zero_mul]
    · rw [show ov a.y a.h b.y b.h = 0 by unfold ov; omega, Int.mul_zero]
/-- A path's zone. -/
def zoneR (k d b : Int) : Rc := ⟨(corF (side k) (ups d b (cnt d b))).1, (corF (side k) (ups d b (cnt d b))).2.1, (corF (side k) (ups d b (cnt d b))).2.2.1, (corF (side k) (ups d b (cnt d b))).2.2.2⟩
/-- What a zone has of a window. -/
def cutR (k : Int) (w : Rc) (d b : Int) : List Rc := if winR k w = true ∧ okP k d b = true then ((plainR k w).map (fun r => meetR r (zoneR k d b))).filter (fun r => decide (0 < areaR r)) else []
theorem cutR_yes {k d b : Int} {w : Rc} (hw : winR k w = true) (ho : okP k d b = true) : cutR k w d b = ((plainR k w).map (fun r => meetR r (zoneR k d b))).filter (fun r => decide (0 < areaR r)) := if_pos ⟨hw, ho⟩
theorem cutR_no {k d b : Int} {w : Rc} (h : ¬ (winR k w = true ∧ okP k d b = true)) : cutR k w d b = [] := if_neg h
theorem cut_len (k d b : Int) (w : Rc) : (cutR k w d b).length ≤ 4 := by
  unfold cutR
  split
  · exact Nat.le_trans (List.length_filter_le _ _) (by rw [List.length_map]; exact plain_len)
  · exact Nat.zero_le _
section
variable {k d b : Int} {w : Rc}
theorem ok_nat (ho : okP k d b = true) : ∃ n : Nat, k = (n : Int) ∧ 1 ≤ n ∧ n ≤ 16 ∧ side k = 2 ^ n := by
  obtain ⟨h1, h2, _⟩ := (okP_iff k d b).1 ho
  exact ⟨k.toNat, by omega, by omega, by omega, side_yes ((rgt_iff k).2 ⟨h1, h2⟩)⟩
theorem zone_right (ho : okP k d b = true) : rightR k (zoneR k d b) = true ∧ 0 < (zoneR k d b).w ∧ 0 < (zoneR k d b).h ∧ (zoneR k d b).w * (zoneR k d b).h * 2 ^ d.toNat = side k * side k := by
  obtain ⟨n, hk, hn1, hn16, hs⟩ := ok_nat ho
  obtain ⟨p, q, r, s, Z⟩ := zone_of (show okP n d b = true by rw [← hk]; exact ho)
  have hz : zoneR k d b = ⟨p, q, r, s⟩ := by unfold zoneR; rw [hs, Z.val]
  have z1 := Z.p0
  have z2 := Z.q0
  have z3 := Z.r0
  have z4 := Z.s0
  have z5 := Z.pr
  have z6 := Z.qs
  rw [hz, hs, rightR_iff]
  dsimp only
  rw [hs]
  exact ⟨by omega, z3, z4, Z.area⟩
theorem zone_fine (ho : okP k d b = true) : fineR (zoneR k d b) = true := right_fine (zone_right ho).1
/-- How many numbers a span has of a row that goes round. -/
def ovw (n l c p r : Int) : Int := ov l (min c (n - l)) p r + ov 0 (c - min c (n - l)) p r
theorem cut_sum (hw : winR k w = true) (ho : okP k d b = true) :
    sumF areaR (cutR k w d b) = ovw (side k) w.x w.w (zoneR k d b).x (zoneR k d b).w * ovw (side k) w.y w.h (zoneR k d b).y (zoneR k d b).h := by
  have hz := zone_fine ho
  have hf : ∀ r ∈ partsR k w, fineR r = true := fun r hr => right_fine (parts_right hw r hr)
  rw [cutR_yes hw ho, sumF_filter areaR _ _ (fun r _ h => by have := areaR_nn r; have := of_decide_eq_false h; omega), sumF_map, plainR_yes hw]
  rw [sumF_filter _ neR _ (fun r hr h => by
    have h1 := (fineR_iff r).1 (hf r hr)
    have h2 : ¬ (0 < r.w ∧ 0 < r.h) := fun e => by rw [(neR_iff r).2 e] at h; cases h
    rw [area_meet (hf r hr) hz]
    rcases (show r.w = 0 ∨ r.h = 0 by omega) with e | e
    · rw [show ov r.x r.w (zoneR k d b).x (zoneR k d b).w = 0 by unfold ov; omega, Int.zero_mul]
    · rw [show ov r.y r.h (zoneR k d b).y (zoneR k d b).h = 0 by unfold ov; omega, Int.mul_zero])]
  have hm : ∀ r ∈ partsR k w, areaR (meetR r (zoneR k d b)) = ov r.x r.w (zoneR k d b).x (zoneR k d b).w * ov r.y r.h (zoneR k d b).y (zoneR k d b).h := fun r hr => area_meet (hf r hr) hz
  simp only [partsR, List.mem_cons, List.not_mem_nil, or_false, forall_eq_or_imp, forall_eq] at hm
  obtain ⟨f1, f2, f3, f4⟩ := hm
  simp only [partsR, sumF]
  rw [f1, f2, f3, f4]
  unfold ovw
  rw [Int.mul_add, Int.add_mul, Int.add_mul]
  omega
theorem ov_bd (l c p r : Int) (h : 0 ≤ r) : 0 ≤ ov l c p r ∧ ov l c p r ≤ r := by unfold ov; omega
theorem ovw_bd {n l c p r : Int} (hl : 0 ≤ l ∧ l < n) (hc : 0 ≤ c ∧ c ≤ n) (hp : 0 ≤ p) (hr : 0 ≤ r) (hpr : p + r ≤ n) : 0 ≤ ovw n l c p r ∧ ovw n l c p r ≤ r := by
  unfold ovw ov
  omega
theorem ov_half (l c p : Int) {r : Int} (hr : 0 ≤ r) : ov l c p (2 * r) = ov l c p r + ov l c (p + r) r := by
  unfold ov
  rw [show p + 2 * r = p + r + r by omega]
  by_cases h1 : l + c ≤ p + r
  · omega
  · by_cases h2 : p + r ≤ l
    · omega
    · omega
theorem ovw_half {n l c p r : Int} (hr : 0 ≤ r) : ovw n l c p (2 * r) = ovw n l c p r + ovw n l c (p + r) r := by
  unfold ovw
  rw [ov_half _ _ _ hr, ov_half _ _ _ hr]
  omega
/-- A zone has no more of a window than its own cells. -/
theorem cut_le (hw : winR k w = true) (ho : okP k d b = true) : 0 ≤ sumF areaR (cutR k w d b) ∧ sumF areaR (cutR k w d b) ≤ (zoneR k d b).w * (zoneR k d b).h := by
  have h1 := (winR_iff k w).1 hw
  have h2 := (rightR_iff k _).1 (zone_right ho).1
  have h3 := zone_right ho
  have b1 := ovw_bd (n := side k) (l := w.x) (c := w.w) (p := (zoneR k d b).x) (r := (zoneR k d b).w) (by omega) (by omega) (by omega) (by omega) (by omega)
  have b2 := ovw_bd (n := side k) (l := w.y) (c := w.h) (p := (zoneR k d b).y) (r := (zoneR k d b).h) (by omega) (by omega) (by omega) (by omega) (by omega)
  rw [cut_sum hw ho]
  exact ⟨Int.mul_nonneg b1.1 b2.1, Int.mul_le_mul b1.2 b2.2 b2.1 (by omega)⟩
theorem zone_area (ho : okP k d b = true) : areaR (zoneR k d b) = (zoneR k d b).w * (zoneR k d b).h := if_pos (zone_fine ho)
/-- A single cell. -/
theorem cut_one (hw : winR k w = true) (ho : okP k d b = true) (hd : d = 2 * k) : sumF areaR (cutR k w d b) ≤ 1 := by
  have h1 := (cut_le hw ho).2
  obtain ⟨n, hk, hn1, hn16, hs⟩ := ok_nat ho
  have h3 := (zone_right ho).2.2.2
  rw [hs, show d.toNat = n + n by omega, p2_add] at h3
  have h4 : (0 : Int) < 2 ^ n * 2 ^ n := Int.mul_pos (p2_pos n) (p2_pos n)
  have h5 : (zoneR k d b).w * (zoneR k d b).h = 1 := Int.eq_of_mul_eq_mul_right (by omega) (h3.trans (Int.one_mul _).symm)
  omega
/-- The halves of a path that has one more. -/
theorem xs_child {t : Int} (hf : fine d b = true) (hd : d < 32) (t0 : 0 ≤ t) (t1 : t ≤ 1) : ∀ m : Nat, (m : Int) ≤ d → xs (d + 1) (2 * b + t) m = xs d b m ∧ ys (d + 1) (2 * b + t) m = ys d b m
  | 0, _ => ⟨rfl, rfl⟩
  | m + 1, hm => by
    have ih := xs_child hf hd t0 t1 m (by omega)
    have hb : bitI (d + 1) (2 * b + t) m = bitI d b m := by
      have h1 := bitI_pv (d := d + 1) (b := 2 * b + t) (m := d) (j := (m : Int)) (half_fine hf hd t0 t1) (by omega) (by omega) (by omega)
      rw [half_pv t0 t1] at h1
      exact h1.symm
    unfold xs ys
    rw [hb, ih.1, ih.2]
    exact ⟨rfl, rfl⟩
/-- The zone of a child: a half of its parent's. -/
theorem zone_child {t : Int} (ho : okP k d b = true) (hd : d < 2 * k) (t0 : 0 ≤ t) (t1 : t ≤ 1) : okP k (d + 1) (2 * b + t) = true ∧
    ((∃ r, (zoneR k d b).w = 2 * r ∧ zoneR k (d + 1) (2 * b + t) = ⟨(zoneR k d b).x + t * r, (zoneR k d b).y, r, (zoneR k d b).h⟩ ∧ d.toNat % 2 = 0) ∨
      (∃ s, (zoneR k d b).h = 2 * s ∧ zoneR k (d + 1) (2 * b + t) = ⟨(zoneR k d b).x, (zoneR k d b).y + t * s, (zoneR k d b).w, s⟩ ∧ ¬ d.toNat % 2 = 0)) := by
  obtain ⟨n, hk, hn1, hn16, hs⟩ := ok_nat ho
  obtain ⟨h1, h2, h3, h4, h5, h6⟩ := (okP_iff k d b).1 ho
  have hf := okP_fine ho
  have hf' := half_fine hf (by omega) t0 t1
  have ho' : okP k (d + 1) (2 * b + t) = true := by
    have := (fine_iff _ _).1 hf'
    exact (okP_iff _ _ _).2 ⟨h1, h2, by omega, by omega, this.2.2.1, this.2.2.2⟩
  refine ⟨ho', ?_⟩
  obtain ⟨m, hm⟩ : ∃ m : Nat, d = (m : Int) := ⟨d.toNat, by omega⟩
  have v1 := corF_val (n := n) hn1 hn16 hf (by omega) m (by omega)
  have v2 := corF_val (n := n) hn1 hn16 hf' (by omega) (m + 1) (by omega)
  have hz : zoneR k d b = ⟨xs d b m * 2 ^ (n - hx m), ys d b m * 2 ^ (n - hy m), 2 ^ (n - hx m), 2 ^ (n - hy m)⟩ := by
    unfold zoneR; rw [cnt_yes hf, show d.toNat = m by omega, hs, v1]
  have hz' : zoneR k (d + 1) (2 * b + t) = ⟨xs (d + 1) (2 * b + t) (m + 1) * 2 ^ (n - hx (m + 1)), ys (d + 1) (2 * b + t) (m + 1) * 2 ^ (n - hy (m + 1)), 2 ^ (n - hx (m + 1)), 2 ^ (n - hy (m + 1))⟩ := by
    unfold zoneR; rw [cnt_yes hf', show (d + 1).toNat = m + 1 by omega, hs, v2]
  have hx1 := xs_child hf (by omega) t0 t1 m (by omega)
  have hbt := half_bit hf (by omega) t0 t1
  rw [hm] at hbt
  rw [show d.toNat = m by omega, hz, hz']
  by_cases he : m % 2 = 0
  · refine .inl ⟨2 ^ (n - hx (m + 1)), ?_, ?_, he⟩
    · dsimp only
      rw [← p2_succ]
      congr 1
      rw [(hx_even he).1]
      have : hx (m + 1) ≤ n := by unfold hx; omega
      rw [(hx_even he).1] at this
      omega
    · have hle : hx m + 1 ≤ n := by unfold hx; omega
      have e1 : (2 : Int) ^ (n - hx m) = 2 * 2 ^ (n - (hx m + 1)) := by rw [← p2_succ]; congr 1; omega
      rw [(xs_e he).1, (xs_e he).2, (hx_even he).1, (hx_even he).2, hx1.1, hx1.2, hm, hbt, e1, Int.add_mul, ← Int.mul_assoc, Int.mul_comm (xs _ b m) 2]
  · refine .inr ⟨2 ^ (n - hy (m + 1)), ?_, ?_, he⟩
    · dsimp only
      rw [← p2_succ]
      congr 1
      rw [(hx_odd he).2]
      have : hy (m + 1) ≤ n := by unfold hy; omega
      rw [(hx_odd he).2] at this
      omega
    · have hle : hy m + 1 ≤ n := by unfold hy; omega
      have e1 : (2 : Int) ^ (n - hy m) = 2 * 2 ^ (n - (hy m + 1)) := by rw [← p2_succ]; congr 1; omega
      rw [(xs_o he).1, (xs_o he).2, (hx_odd he).1, (hx_odd he).2, hx1.1, hx1.2, hm, hbt, e1, Int.add_mul, ← Int.mul_assoc, Int.mul_comm (ys _ b m) 2]
/-- What both halves' zones have of a window are, together, what their parent's has; and so are their areas. -/
theorem cut_halves (hw : winR k w = true) (ho : okP k d b = true) (hd : d < 2 * k) :
    sumF areaR (cutR k w (d + 1) (2 * b)) + sumF areaR (cutR k w (d + 1) (2 * b + 1)) = sumF areaR (cutR k w d b) ∧
    areaR (zoneR k (d + 1) (2 * b)) + areaR (zoneR k (d + 1) (2 * b + 1)) = areaR (zoneR k d b) := by
  have c0 := zone_child (t := 0) ho hd (by omega) (by omega)
  have c1 := zone_child (t := 1) ho hd (by omega) (by omega)
  rw [Int.add_zero] at c0
  obtain ⟨o0, c0⟩ := c0
  obtain ⟨o1, c1⟩ := c1
  have hp := zone_right ho
  rw [cut_sum hw o0, cut_sum hw o1, cut_sum hw ho, zone_area o0, zone_area o1, zone_area ho]
  rcases c0 with ⟨r, e1, e2, e3⟩ | ⟨r, e1, e2, e3⟩
  · rcases c1 with ⟨r', f1, f2, f3⟩ | ⟨r', f1, f2, f3⟩
    · obtain rfl : r' = r := by omega
      rw [e2, f2, e1]
      dsimp only
      rw [Int.zero_mul, Int.one_mul, Int.add_zero, ovw_half (by omega), Int.add_mul, Int.mul_assoc 2]
      exact ⟨rfl, by omega⟩
    · exact absurd e3 f3
  · rcases c1 with ⟨r', f1, f2, f3⟩ | ⟨r', f1, f2, f3⟩
    · exact absurd f3 e3
    · obtain rfl : r' = r := by omega
      rw [e2, f2, e1]
      dsimp only
      rw [Int.zero_mul, Int.one_mul, Int.add_zero, ovw_half (by omega), Int.mul_add, Int.mul_comm 2 r', ← Int.mul_assoc]
      exact ⟨rfl, by omega⟩
/-- Is each cell of the zone one of the window's? -/
def covR (k : Int) (w : Rc) (d b : Int) : Bool := winR k w && okP k d b && decide (sumF areaR (cutR k w d b) = areaR (zoneR k d b))
theorem cov_halves (hw : winR k w = true) (ho : okP k d b = true) (hd : d < 2 * k) : covR k w d b = (covR k w (d + 1) (2 * b) && covR k w (d + 1) (2 * b + 1)) := by
  have o0 := (zone_child (t := 0) ho hd (by omega) (by omega)).1
  have o1 := (zone_child (t := 1) ho hd (by omega) (by omega)).1
  rw [Int.add_zero] at o0
  obtain ⟨h1, h2⟩ := cut_halves hw ho hd
  have l0 := (cut_le hw o0).2
  have l1 := (cut_le hw o1).2
  rw [← zone_area o0] at l0
  rw [← zone_area o1] at l1
  unfold covR
  rw [hw, ho, o0, o1, Bool.eq_iff_iff]
  simp only [Bool.true_and, Bool.and_eq_true, decide_eq_true_eq]
  omega
end
end Go.Proofs.Ytgnhamhkpbadbaa
