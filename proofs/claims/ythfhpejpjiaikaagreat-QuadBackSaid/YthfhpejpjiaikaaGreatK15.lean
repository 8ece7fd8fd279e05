/- torus.Apart, Dist, nearer: how far. torus.Toward: the next cell on the way. torus.away, Ring: how many cells are so far. What distances keep: in numbers. What the laws of the torus share: num, on, at, knows. Rectangles and windows in numbers: areas, what two have together, the plain ones of a window; nothing of the program. What zones have of a window, in numbers: the sum of the areas, both halves together. gleberef04: which rectangles may be, areas, what two have together, windows. gleberef04: what two rectangles have together, a zone's rectangle. Lists of rectangles in memory. glebelaw08's own Light; Rec and Own of the laws below, as it calls them. How far a cell is from a rectangle: from its nearest cell; in numbers. -/
import Derived.Test.YthfhpejpjiaikaaGreatK02
import Derived.Test.YthfhpejpjiaikaaGreatK03
import Derived.Test.YthfhpejpjiaikaaGreatK04
import Derived.Test.YthfhpejpjiaikaaGreatK14
import Derived.Maps.AppendAt
import Derived.Great.BuildSlice
import Derived.Laws.IdiomStrings
namespace Go.Proofs.YthfhpejpjiaikaaGreat
open Go.RowKit
/-- How far apart two numbers are; -1 of others. -/
def apart (k a b : Int) : Int := if inB k a && inB k b then min ((b - a) % sd k) ((a - b) % sd k) else -1
end Go.Proofs.YthfhpejpjiaikaaGreat
namespace Go.Proofs.YthfhpejpjiaikaaGreat
open Go.RowKit
end Go.Proofs.YthfhpejpjiaikaaGreat
namespace Go.Proofs.YthfhpejpjiaikaaGreat
open Go.RowKit
end Go.Proofs.YthfhpejpjiaikaaGreat
namespace Go.Proofs.YthfhpejpjiaikaaGreat
open Go.RowKit
end Go.Proofs.YthfhpejpjiaikaaGreat
namespace Go.Proofs.YthfhpejpjiaikaaGreat
open Go.RowKit
end Go.Proofs.YthfhpejpjiaikaaGreat
namespace Go.Proofs.YthfhpejpjiaikaaGreat
open Go.RowKit
/-- A rectangle. -/
structure Rc where
  x : Int
  y : Int
  w : Int
  h : Int
/-- Are its numbers from 0 to 2^30? -/
def fineR (r : Rc) : Bool := decide ((0 ≤ r.x ∧ r.x ≤ 1073741824) ∧ (0 ≤ r.y ∧ r.y ≤ 1073741824) ∧ (0 ≤ r.w ∧ r.w ≤ 1073741824) ∧ (0 ≤ r.h ∧ r.h ≤ 1073741824))
theorem fineR_iff (r : Rc) : fineR r = true ↔ (0 ≤ r.x ∧ r.x ≤ 1073741824) ∧ (0 ≤ r.y ∧ r.y ≤ 1073741824) ∧ (0 ≤ r.w ∧ r.w ≤ 1073741824) ∧ (0 ≤ r.h ∧ r.h ≤ 1073741824) := by unfold fineR; exact decide_eq_true_iff
def areaR (r : Rc) : Int := if fineR r = true then r.w * r.h else 0
def hasR (r : Rc) (a b : Int) : Bool := fineR r && decide (r.x ≤ a ∧ a < r.x + r.w ∧ r.y ≤ b ∧ b < r.y + r.h)
def zeroR : Rc := ⟨0, 0, 0, 0⟩
/-- What both have. -/
def meetR (a b : Rc) : Rc :=
  if fineR a = true ∧ fineR b = true ∧ 1 ≤ min (a.x + a.w) (b.x + b.w) - max a.x b.x ∧ 1 ≤ min (a.y + a.h) (b.y + b.h) - max a.y b.y then
    ⟨max a.x b.x, max a.y b.y, min (a.x + a.w) (b.x + b.w) - max a.x b.x, min (a.y + a.h) (b.y + b.h) - max a.y b.y⟩
  else zeroR
/-- May it be, of k? -/
def rightR (k : Int) (r : Rc) : Bool := decide (0 < side k ∧ 0 ≤ r.x ∧ r.x ≤ side k ∧ 0 ≤ r.y ∧ r.y ≤ side k ∧ 0 ≤ r.w ∧ r.w ≤ side k - r.x ∧ 0 ≤ r.h ∧ r.h ≤ side k - r.y)
theorem rightR_iff (k : Int) (r : Rc) : rightR k r = true ↔ 0 < side k ∧ 0 ≤ r.x ∧ r.x ≤ side k ∧ 0 ≤ r.y ∧ r.y ≤ side k ∧ 0 ≤ r.w ∧ r.w ≤ side k - r.x ∧ 0 ≤ r.h ∧ r.h ≤ side k - r.y := by unfold rightR; exact decide_eq_true_iff
/-- Has it cells? -/
def neR (r : Rc) : Bool := decide (0 < r.w ∧ 0 < r.h)
section
variable {k : Int} {w : Rc}
end
end Go.Proofs.YthfhpejpjiaikaaGreat
namespace Go.Proofs.YthfhpejpjiaikaaGreat
open Go.RowKit
/-- A path's zone. -/
def zoneR (k d b : Int) : Rc := ⟨(corF (side k) (ups d b (cnt d b))).1, (corF (side k) (ups d b (cnt d b))).2.1, (corF (side k) (ups d b (cnt d b))).2.2.1, (corF (side k) (ups d b (cnt d b))).2.2.2⟩
section
variable {k d b : Int} {w : Rc}
theorem ok_nat (ho : okP k d b = true) : ∃ n : Nat, k = (n : Int) ∧ 1 ≤ n ∧ n ≤ 16 ∧ side k = 2 ^ n := by
  obtain ⟨h1, h2, _⟩ := (okP_iff k d b).1 ho
  exact ⟨k.toNat, by omega, by omega, by omega, side_yes ((rgt_iff k).2 ⟨h1, h2⟩)⟩
theorem zone_right (ho : okP k d b = true) : rightR k (zoneR k d b) = true ∧ 0 < (zoneR k d b).w ∧ 0 < (zoneR k d b).h ∧ (zoneR k d b).w * (zoneR k d b).h * 2 ^ d.toNat = side k * side k := by
  obtain ⟨n, hk, hn1, hn16, hs⟩ := ok_nat ho
  obtain ⟨p, q, r, s, Z⟩ := zone_of (show okP n d b = true by rw [← hk]; exact ho)
  have hz : zoneR k d b = ⟨p, q, r, s⟩ := by unfold zoneR; rw [hs, Z.val]
  have z1 := Z.p0
  have z2 := Z.q0
  have z3 := Z.r0
  have z4 := Z.s0
  have z5 := Z.pr
  have z6 := Z.qs
  rw [hz, hs, rightR_iff]
  dsimp only
  rw [hs]
  exact ⟨by omega, z3, z4, Z.area⟩
/-- The halves of a path that has one more. -/
theorem xs_child {t : Int} (hf : fine d b = true) (hd : d < 32) (t0 : 0 ≤ t) (t1 : t ≤ 1) : ∀ m : Nat, (m : Int) ≤ d → xs (d + 1) (2 * b + t) m = xs d b m ∧ ys (d + 1) (2 * b + t) m = ys d b m
  | 0, _ => ⟨rfl, rfl⟩
  | m + 1, hm => by
    have ih := xs_child hf hd t0 t1 m (by omega)
    have hb : bitI (d + 1) (2 * b + t) m = bitI d b m := by
      have h1 := bitI_pv (d := d + 1) (b := 2 * b + t) (m := d) (j := (m : Int)) (half_fine hf hd t0 t1) (by omega) (by omega) (by omega)
      rw [half_pv t0 t1] at h1
      exact h1.symm
    unfold xs ys
    rw [hb, ih.1, ih.2]
    exact ⟨rfl, rfl⟩
/-- The zone of a child: a half of its parent's. -/
theorem zone_child {t : Int} (ho : okP k d b = true) (hd : d < 2 * k) (t0 : 0 ≤ t) (t1 : t ≤ 1) : okP k (d + 1) (2 * b + t) = true ∧
    ((∃ r, (zoneR k d b).w = 2 * r ∧ zoneR k (d + 1) (2 * b + t) = ⟨(zoneR k d b).x + t * r, (zoneR k d b).y, r, (zoneR k d b).h⟩ ∧ d.toNat % 2 = 0) ∨
      (∃ s, (zoneR k d b).h = 2 * s ∧ zoneR k (d + 1) (2 * b + t) = ⟨(zoneR k d b).x, (zoneR k d b).y + t * s, (zoneR k d b).w, s⟩ ∧ ¬ d.toNat % 2 = 0)) := by
  obtain ⟨n, hk, hn1, hn16, hs⟩ := ok_nat ho
  obtain ⟨h1, h2, h3, h4, h5, h6⟩ := (okP_iff k d b).1 ho
  have hf := okP_fine ho
  have hf' := half_fine hf (by omega) t0 t1
  have ho' : okP k (d + 1) (2 * b + t) = true := by
    have := (fine_iff _ _).1 hf'
    exact (okP_iff _ _ _).2 ⟨h1, h2, by omega, by omega, this.2.2.1, this.2.2.2⟩
  refine ⟨ho', ?_⟩
  obtain ⟨m, hm⟩ : ∃ m : Nat, d = (m : Int) := ⟨d.toNat, by omega⟩
  have v1 := corF_val (n := n) hn1 hn16 hf (by omega) m (by omega)
  have v2 := corF_val (n := n) hn1 hn16 hf' (by omega) (m + 1) (by omega)
  have hz : zoneR k d b = ⟨xs d b m * 2 ^ (n - hx m), ys d b m * 2 ^ (n - hy m), 2 ^ (n - hx m), 2 ^ (n - hy m)⟩ := by
    unfold zoneR; rw [cnt_yes hf, show d.toNat = m by omega, hs, v1]
  have hz' : zoneR k (d + 1) (2 * b + t) = ⟨xs (d + 1) (2 * b + t) (m + 1) * 2 ^ (n - hx (m + 1)), ys (d + 1) (2 * b + t) (m + 1) * 2 ^ (n - hy (m + 1)), 2 ^ (n - hx (m + 1)), 2 ^ (n - hy (m + 1))⟩ := by
    unfold zoneR; rw [cnt_yes hf', show (d + 1).toNat = m + 1 by omega, hs, v2]
  have hx1 := xs_child hf (by omega) t0 t1 m (by omega)
  have hbt := half_bit hf (by omega) t0 t1
  rw [hm] at hbt
  rw [show d.toNat = m by omega, hz, hz']
  by_cases he : m % 2 = 0
  · refine .inl ⟨2 ^ (n - hx (m + 1)), ?_, ?_, he⟩
    · dsimp only
      rw [← p2_succ]
      congr 1
      rw [(hx_even he).1]
      have : hx (m + 1) ≤ n := by unfold hx; omega
      rw [(hx_even he).1] at this
      omega
    · have hle : hx m + 1 ≤ n := by unfold hx; omega
      have e1 : (2 : Int) ^ (n - hx m) = 2 * 2 ^ (n - (hx m + 1)) := by rw [← p2_succ]; congr 1; omega
      rw [(xs_e he).1, (xs_e he).2, (hx_even he).1, (hx_even he).2, hx1.1, hx1.2, hm, hbt, e1, Int.add_mul, ← Int.mul_assoc, Int.mul_comm (xs _ b m) 2]
  · refine .inr ⟨2 ^ (n - hy (m + 1)), ?_, ?_, he⟩
    · dsimp only
      rw [← p2_succ]
      congr 1
      rw [(hx_odd he).2]
      have : hy (m + 1) ≤ n := by unfold hy; omega
      rw [(hx_odd he).2] at this
      omega
    · have hle : hy m + 1 ≤ n := by unfold hy; omega
      have e1 : (2 : Int) ^ (n - hy m) = 2 * 2 ^ (n - (hy m + 1)) := by rw [← p2_succ]; congr 1; omega
      rw [(xs_o he).1, (xs_o he).2, (hx_odd he).1, (hx_odd he).2, hx1.1, hx1.2, hm, hbt, e1, Int.add_mul, ← Int.mul_assoc, Int.mul_comm (ys _ b m) 2]
end
end Go.Proofs.YthfhpejpjiaikaaGreat
namespace Go.Proofs.YthfhpejpjiaikaaGreat
open Go.RowKit
/-- May a rectangle have the number? -/
def nmB (n : Int) : Bool := decide (0 ≤ n ∧ n ≤ 1073741824)
theorem nmB_iff (n : Int) : nmB n = true ↔ 0 ≤ n ∧ n ≤ 1073741824 := by unfold nmB; exact decide_eq_true_iff
theorem fineR_nm (a b c d : Int) : fineR ⟨a, b, c, d⟩ = (nmB a && (nmB b && (nmB c && nmB d))) := by
  rw [Bool.eq_iff_iff, fineR_iff]
  simp only [Bool.and_eq_true, nmB_iff]
end Go.Proofs.YthfhpejpjiaikaaGreat
namespace Go.Proofs.YthfhpejpjiaikaaGreat
open Go.RowKit
/-- A number that the least and the greatest of two are, as the machine takes them. -/
theorem max_ite (a p : Int) : (if a < p then p else a) = max a p := by split <;> omega
theorem min_ite (a p : Int) : (if p < a then p else a) = min a p := by split <;> omega
/-- Four cells behind each other, stored. -/
theorem Since.set4 {w0 W : World} (h : Since w0 W) {g : Nat} (hg : w0.heap.size ≤ g) (a b c d : Value) : Since w0 ((((W.setCell ⟨g, 0, none⟩ a).setCell ⟨g, 1, none⟩ b).setCell ⟨g, 2, none⟩ c).setCell ⟨g, 3, none⟩ d) :=
  (((h.setCell (p := ⟨g, 0, none⟩) hg _).setCell (p := ⟨g, 1, none⟩) hg _).setCell (p := ⟨g, 2, none⟩) hg _).setCell (p := ⟨g, 3, none⟩) hg _
theorem But.set4 {g : Nat} {w0 W : World} (h : Since w0 W) (a b c d : Value) : But g w0 ((((W.setCell ⟨g, 0, none⟩ a).setCell ⟨g, 1, none⟩ b).setCell ⟨g, 2, none⟩ c).setCell ⟨g, 3, none⟩ d) :=
  ((But.set2 h 0 1 a b).set_ (p := ⟨g, 2, none⟩) rfl c).set_ (p := ⟨g, 3, none⟩) rfl d
theorem Whole.set4 {W : World} {g : Nat} {t : TypeId} {x y z u : Value} (h : Whole W g t #[x, y, z, u]) (a b c d : Value) : Whole ((((W.setCell ⟨g, 0, none⟩ a).setCell ⟨g, 1, none⟩ b).setCell ⟨g, 2, none⟩ c).setCell ⟨g, 3, none⟩ d) g t #[a, b, c, d] :=
  (((h.set_ 0 a).set_ 1 b).set_ 2 c).set_ 3 d
end Go.Proofs.YthfhpejpjiaikaaGreat
namespace Go.Proofs.YthfhpejpjiaikaaGreat
open Go.RowKit
/-- A rectangle's cells. -/
def encR (r : Rc) : List Value := [.int .i64 r.x, .int .i64 r.y, .int .i64 r.w, .int .i64 r.h]
theorem encR_len (r : Rc) : (encR r).length = 4 := rfl
/-- A list of rectangles that a call made; one that lies there. -/
abbrev RowR := RowE encR 4
end Go.Proofs.YthfhpejpjiaikaaGreat
namespace Go.Proofs.YthfhpejpjiaikaaGreat
open Go.RowKit
set_option linter.unusedVariables false
set_option linter.unusedSimpArgs false
theorem rec8_any (r : Rq) (w : World) : Calls Tryz.prog 26 #[r.v] w fun e w' => e = .returned r.v ∧ Below w.heap.size w w' := by
  obtain ⟨x, y, key, val, ver⟩ := r
  simp only [Rq.v]
  go_enter Tryz.func26, Tryz.ntmps26
  go_wp2
  exact bodyPost_ret (results_cell_row rfl _ _ (w.heap.size + 1) 55 _ (0, 0) _ rfl ((Whole.new (w.alloc _) _ _).at_ (by simp)) Tryz.underlying55 rfl (by kernel_rfl)) rfl ⟨rfl, ((Since.refl w).alloc _).alloc _⟩
def smallR (r : Rq) : Bool := !decide (300 < IntKind.i64.wrap ((r.key.size : Int) + r.val.size))
def lightQ (l : List Rq) : Bool := (l.take 100).all smallR && decide (l.length ≤ 80)
theorem lightQ_len {l : List Rq} (h : lightQ l = true) : l.length ≤ 80 := by
  unfold lightQ at h
  rw [Bool.and_eq_true, decide_eq_true_iff] at h
  exact h.2
set_option maxRecDepth 100000 in
set_option maxHeartbeats 1600000 in
theorem light8_any {B : Nat} {v : Value} {l : List Rq} {w : World} (hA : LentE encQ 5 B w v l) (hB : B ≤ w.heap.size) {b : Bool} (hb : lightQ l = b) : Calls Tryz.prog 5 #[v] w fun e w' => e = .returned (.bool b) ∧ Below w.heap.size w w' := by
  have hL := fun W (hW : Since w W) => hA.since hW hB
  obtain ⟨a, cap, rfl, hc⟩ := hA
  obtain ⟨n, hn⟩ : ∃ n, l.length = n := ⟨_, rfl⟩
  have HN := Lib.hid hn
  have HB := Lib.hid hb
  have hc' : Hid (∀ k (hk : k < n), ∃ g off, a = some ⟨g, off, none⟩ ∧ ∀ W, Since w W → W.cell? ⟨g, off + k * 5 + 2, none⟩ = some (.string (l[k]'(by rw [HN.out]; exact hk)).key) ∧ W.cell? ⟨g, off + k * 5 + 3, none⟩ = some (.string (l[k]'(by rw [HN.out]; exact hk)).val)) := by
    intro k hk
    rcases hc with hc | ⟨g, off, ha, hgB, hc⟩
    · omega
    · refine ⟨g, off, ha, fun W hW => ?_⟩
      have e : ∀ j, W.cell? ⟨g, j, none⟩ = w.cell? ⟨g, j, none⟩ := fun j => World.cell?_of_block (hW.block g (Nat.lt_of_lt_of_le hgB hB))
      exact ⟨(e _).trans (hc k (by rw [HN.out]; exact hk) 2 _ rfl), (e _).trans (hc k (by rw [HN.out]; exact hk) 3 _ rfl)⟩
  rw [hn]
  clear hc hn hb hL
  have hsr := Since.refl w
  go_enter Tryz.func5, Tryz.ntmps5
  go_wp2
  go_loopw [3] (fun i wr => Since w wr ∧ ∃ k : Nat, i = .int .i64 (k : Int) ∧ k ≤ n ∧ k ≤ 100 ∧ (l.take k).all smallR = true) (fun i _ => n - (intOf i).toNat)
  case atStart => exact ⟨hsr, 0, rfl, Nat.zero_le _, by omega, rfl⟩
  case round =>
    obtain ⟨hwr, k, rfl, hk, hk6, hall⟩ := hrel
    have HALL := Lib.hid hall
    clear hall
    by_cases hlt : k < n ∧ k < 100
    · obtain ⟨h1, h2⟩ := hlt
      obtain ⟨g, off, rfl, hcell⟩ := hc'.out k h1
      obtain ⟨z, hz⟩ : ∃ z, l[k]? = some z := ⟨_, List.getElem?_eq_getElem (by rw [HN.out]; exact h1)⟩
      have hzz : l[k]'(by rw [HN.out]; exact h1) = z := (List.getElem?_eq_some_iff.1 hz).2
      rw [hzz] at hcell
      have HZ := Lib.hid hz
      have k2 := fun W hW => (hcell W hW).1
      have k3 := fun W hW => (hcell W hW).2
      obtain ⟨x, hx⟩ : ∃ x, IntKind.i64.wrap ((z.key.size : Int) + z.val.size) = x := ⟨_, rfl⟩
      have HX := Lib.hid hx
      clear hz hzz hcell
      have h1' : (k : Int) < n := by omega
      have h2' : (k : Int) < 100 := by omega
      have a2 := k2 wr hwr
      have a3 := k3 wr hwr
      have HWR := Lib.hid hwr
      clear k2 k3 hwr hsr
      by_cases hs : 300 < x
      · obtain rfl : b = false := by
          rw [← HB.out]
          unfold lightQ
          have : (l.take 100).all smallR = false := by
            rw [List.all_eq_false]
            refine ⟨z, List.mem_of_getElem? (i := k) (by rw [List.getElem?_take, if_pos h2]; exact HZ.out), ?_⟩
            unfold smallR
            rw [HX.out]
            simp [hs]
          rw [this, Bool.false_and]
        go_wp2_with fail
        go_quiet (fail)
        go_wp2
        go_ret
        exact ⟨rfl, Below.drewN HWR.out nq⟩
      · go_wp2_with fail
        go_quiet (fail)
        go_wp2
        go_roundw
        case rel =>
          refine ⟨Below.drewN HWR.out _, k + 1, by go_num, by omega, by omega, ?_⟩
          rw [List.take_add_one, HZ.out, List.all_append, HALL.out]
          simp only [Option.toList_some, List.all_cons, List.all_nil, Bool.and_true, Bool.true_and, smallR]
          rw [HX.out]
          simp [hs]
        case measure => simp [intOf]; omega
    · have hall : (l.take 100).all smallR = true := by
        rw [← HALL.out]
        by_cases h60 : k = 100
        · rw [h60]
        · rw [List.take_of_length_le (by rw [HN.out]; omega), List.take_of_length_le (by rw [HN.out]; omega)]
      obtain ⟨b', hb'⟩ : ∃ b', decide ((n : Int) ≤ 80) = b' := ⟨_, rfl⟩
      obtain rfl : b' = b := by
        rw [← HB.out, ← hb']
        unfold lightQ
        rw [hall, Bool.true_and, HN.out]
        rw [decide_eq_decide]
        omega
      clear hall
      have HWR := Lib.hid hwr
      clear hwr hsr
      by_cases hn1 : (k : Int) < n
      · have hn2 : ¬ ((k : Int) < 100) := by omega
        go_wp2
        go_ret
        exact ⟨by simp [hb'], HWR.out⟩
      · go_wp2
        go_ret
        exact ⟨by simp [hb'], HWR.out⟩
end Go.Proofs.YthfhpejpjiaikaaGreat
namespace Go.Proofs.YthfhpejpjiaikaaGreat
open Go.RowKit
/-- The lesser one, if there is one already. -/
def upd (u v : Int) : Int := if u < 0 ∨ v < u then v else u
/-- .. going on from u. -/
def inn (u : Int) (g : Nat → Int) : Nat → Int
  | 0 => u
  | n + 1 => upd (inn u g n) (g n)
section
variable {k a : Int}
end
end Go.Proofs.YthfhpejpjiaikaaGreat
