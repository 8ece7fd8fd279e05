/- What the laws of the windows share: num, Own, Ref, Same, sum, in, Some. What they ask of the program stands as premises. -/
import Derived.Test.YtbfjnnjblnjdkaaWDistR
namespace Go.Proofs.Ytbfjnnjblnjdkaa
open Go.RowKit
theorem law4_num (k : Int) (w : World) : Calls Try.prog 11 #[.int .i64 k] w fun e w' => e = .returned (.int .i64 k) ∧ w = w' := by
  go_enter Try.func11, Try.ntmps11
  go_wp2
  go_ret
  exact ⟨rfl, rfl⟩
set_option maxHeartbeats 800000 in
theorem own_any (a b c d : Int) (w : World) : Calls Try.prog 8 #[.agg #[.int .i64 a, .int .i64 b, .int .i64 c, .int .i64 d]] w fun e w' => e = .returned (.agg #[.int .i64 a, .int .i64 b, .int .i64 c, .int .i64 d]) ∧ Below w.heap.size w w' := by
  go_enter Try.func8, Try.ntmps8
  go_wp2_with fail
  have g0 := (Whole.new (w.alloc (.cells #[.int .i64 a, .int .i64 b, .int .i64 c, .int .i64 d] 23)) 34 #[.int .i64 a, .int .i64 b, .int .i64 c, .int .i64 d]).at_ (g' := w.heap.size + 1) (by simp)
  have g1 := g0.cell 0
  have g2 := g0.cell 1
  have g3 := g0.cell 2
  have g4 := g0.cell 3
  exact bodyPost_ret (v := .agg #[.int .i64 a, .int .i64 b, .int .i64 c, .int .i64 d]) (by simp [results, Try.results8, go_sem, g1, g2, g3, g4]) rfl ⟨rfl, ((Since.refl w).alloc _).alloc _⟩
set_option maxHeartbeats 800000 in
theorem ref_any (a b c d : Int) (w : World) : Calls Try.prog 35 #[.agg #[.int .i64 a, .int .i64 b, .int .i64 c, .int .i64 d]] w fun e w' => e = .returned (.agg #[.int .i64 a, .int .i64 b, .int .i64 c, .int .i64 d]) ∧ Below w.heap.size w w' := by
  go_enter Try.func35, Try.ntmps35
  go_wp2_with fail
  have g0 := (Whole.new (w.alloc (.cells #[.int .i64 a, .int .i64 b, .int .i64 c, .int .i64 d] 34)) 23 #[.int .i64 a, .int .i64 b, .int .i64 c, .int .i64 d]).at_ (g' := w.heap.size + 1) (by simp)
  have g1 := g0.cell 0
  have g2 := g0.cell 1
  have g3 := g0.cell 2
  have g4 := g0.cell 3
  exact bodyPost_ret (v := .agg #[.int .i64 a, .int .i64 b, .int .i64 c, .int .i64 d]) (by simp [results, Try.results35, go_sem, g1, g2, g3, g4]) rfl ⟨rfl, ((Since.refl w).alloc _).alloc _⟩
/-- Two lists of the same rectangles are the same. -/
theorem same_any {B : Nat} {v v' : Value} {l : List Rc} (w : World) (h1 : ListR B w v l) (h2 : ListR B w v' l) (hB : B ≤ w.heap.size) (hl : l.length ≤ 1000) : Calls Try.prog 10 #[v, v'] w fun e w' => e = .returned (.bool true) ∧ Below w.heap.size w w' := by
  obtain ⟨va, cap, rfl, f1⟩ := h1.form
  obtain ⟨vb, cap2, rfl, f2⟩ := h2.form
  go_enter Try.func10, Try.ntmps10
  go_wp2_with fail
  go_loopw [5] (fun i wr => ∃ m : Nat, i = .int .i64 m ∧ m ≤ l.length ∧ Since w wr) (fun i _ => l.length - (intOf i).toNat)
  case atStart => exact ⟨0, rfl, Nat.zero_le _, Since.refl w⟩
  case round =>
    obtain ⟨m, rfl, hm, hs⟩ := hrel
    by_cases hlt : m < l.length
    · obtain ⟨g, rfl, hg⟩ := f1 m hlt
      obtain ⟨g', rfl, hg'⟩ := f2 m hlt
      obtain ⟨⟨x, y, u, t⟩, hr⟩ : ∃ ρ, l[m] = ρ := ⟨_, rfl⟩
      have e1 := fun W (hW : Since wr W) => (h1.since (hs.trans hW) hB)
      have e2 := fun W (hW : Since wr W) => (h2.since (hs.trans hW) hB)
      have t1 : ∀ W, Since wr W → W.cell? ⟨g, m * 4, none⟩ = some (.int .i64 x) := fun W hW => (e1 W hW).at_ hlt 0 (by rw [hr]; rfl)
      have t2 : ∀ W, Since wr W → W.cell? ⟨g, m * 4 + 1, none⟩ = some (.int .i64 y) := fun W hW => (e1 W hW).at_ hlt 1 (by rw [hr]; rfl)
      have t3 : ∀ W, Since wr W → W.cell? ⟨g, m * 4 + 2, none⟩ = some (.int .i64 u) := fun W hW => (e1 W hW).at_ hlt 2 (by rw [hr]; rfl)
      have t4 : ∀ W, Since wr W → W.cell? ⟨g, m * 4 + 3, none⟩ = some (.int .i64 t) := fun W hW => (e1 W hW).at_ hlt 3 (by rw [hr]; rfl)
      have s1 : ∀ W, Since wr W → W.cell? ⟨g', m * 4, none⟩ = some (.int .i64 x) := fun W hW => (e2 W hW).at_ hlt 0 (by rw [hr]; rfl)
      have s2 : ∀ W, Since wr W → W.cell? ⟨g', m * 4 + 1, none⟩ = some (.int .i64 y) := fun W hW => (e2 W hW).at_ hlt 1 (by rw [hr]; rfl)
      have s3 : ∀ W, Since wr W → W.cell? ⟨g', m * 4 + 2, none⟩ = some (.int .i64 u) := fun W hW => (e2 W hW).at_ hlt 2 (by rw [hr]; rfl)
      have s4 : ∀ W, Since wr W → W.cell? ⟨g', m * 4 + 3, none⟩ = some (.int .i64 t) := fun W hW => (e2 W hW).at_ hlt 3 (by rw [hr]; rfl)
      have hsr := Since.refl wr
      have hsd := hsr.drew
      have hd : decide ((m : Int) < l.length) = true := decide_eq_true (by omega)
      have hml : (m : Int) < 1000 := by omega
      clear e1 e2 hr f1 f2
      go_wp2_with fail
      go_region_held3 (fun W => Since wr W) (first | assumption | exact Since.drew (by assumption)) ((first | (go_at_call 35; (with_reducible refine (Calls.since (by assumption) (ref_any _ _ _ _ _)).mono ?_); rintro e w4 ⟨rfl, hb4⟩)))
      go_wp2_with fail
      go_roundw
      case rel => exact ⟨m + 1, by go_num, by omega, hs.trans (by assumption)⟩
      case measure => simp [intOf]; omega
    · obtain rfl : m = l.length := by omega
      have hd : decide ((l.length : Int) < l.length) = false := decide_eq_false (by omega)
      go_wp2_with fail
      go_ret
      exact ⟨rfl, hs⟩
set_option maxRecDepth 100000 in
set_option maxHeartbeats 1600000 in
theorem sum_law (hA : ∀ (a b c d : Int) (w : World), Calls Try.prog 23 #[.agg #[.int .i64 a, .int .i64 b, .int .i64 c, .int .i64 d]] w fun e w' => e = .returned (.int .i64 (areaR ⟨a, b, c, d⟩)) ∧ Below w.heap.size w w') {B : Nat} {v : Value} {l : List Rc} (w : World) (h : ListR B w v l) (hB : B ≤ w.heap.size) (hl : l.length ≤ 4) : Calls Try.prog 25 #[v] w fun e w' => e = .returned (.int .i64 (sumF areaR l)) ∧ Below w.heap.size w w' := by
  obtain ⟨va, cap, rfl, hform⟩ := h.form
  go_enter Try.func25, Try.ntmps25
  go_wp2_with fail
  go_loopw [3, 4] (fun n i wr => ∃ m : Nat, i = .int .i64 m ∧ m ≤ l.length ∧ n = .int .i64 (sumF areaR (l.take m)) ∧ Since w wr) (fun _ i _ => l.length - (intOf i).toNat)
  case atStart => exact ⟨0, rfl, Nat.zero_le _, rfl, Since.refl w⟩
  case round =>
    obtain ⟨m, rfl, hm, rfl, hs⟩ := hrel
    by_cases hlt : m < l.length
    · obtain ⟨g, rfl, hg⟩ := hform m hlt
      have hls := h.since hs hB
      have hsum := sumF_take areaR l m hlt
      have hbd := sum_bd (l.take (m + 1))
      have hlen := List.length_take_le (m + 1) l
      obtain ⟨⟨x, y, u, t⟩, hr⟩ : ∃ ρ, l[m] = ρ := ⟨_, rfl⟩
      have t1 := hls.at_ hlt 0 (u := .int .i64 x) (by rw [hr]; rfl)
      have t2 := hls.at_ hlt 1 (u := .int .i64 y) (by rw [hr]; rfl)
      have t3 := hls.at_ hlt 2 (u := .int .i64 u) (by rw [hr]; rfl)
      have t4 := hls.at_ hlt 3 (u := .int .i64 t) (by rw [hr]; rfl)
      rw [Nat.add_zero] at t1
      rw [hr] at hsum
      have hc := hA x y u t
      obtain ⟨V, hV⟩ : ∃ V, areaR ⟨x, y, u, t⟩ = V := ⟨_, rfl⟩
      rw [hV] at hsum hc
      obtain ⟨S, hS⟩ : ∃ S, sumF areaR (l.take m) = S := ⟨_, rfl⟩
      rw [hS] at hsum ⊢
      have hwr : wrap64 (S + V) = S + V := by
        rw [← hsum]
        exact IntWalk.wrap64_in _ ⟨by omega, by omega⟩
      have HS := Lib.hid hsum
      have hd : decide ((m : Int) < l.length) = true := decide_eq_true (by omega)
      have hd2 : decide ((m : Int) < 20) = true := decide_eq_true (by omega)
      have hml : (m : Int) < 5 := by omega
      clear hV hS hr hsum hbd hform
      go_wp2_with (go_at_call 23; (with_reducible refine (hc _).mono ?_); rintro z w4 ⟨rfl, hb4⟩)
      go_roundw
      case rel => exact ⟨m + 1, by go_num, by omega, by rw [HS.out, hwr], hs.trans hb4⟩
      case measure => simp [intOf]; omega
    · obtain rfl : m = l.length := by omega
      have hd : decide ((l.length : Int) < l.length) = false := decide_eq_false (by omega)
      rw [List.take_of_length_le (Nat.le_refl _)]
      go_wp2_with fail
      go_ret
      exact ⟨rfl, hs⟩
theorem cnt_take (l : List Rc) (p : Rc → Bool) (m : Nat) (h : m < l.length) : (l.take (m + 1)).countP p = (l.take m).countP p + if p l[m] = true then 1 else 0 := by
  rw [List.take_succ_eq_append_getElem h, List.countP_append]
  congr 1
  cases e : p l[m] <;> simp [e]
set_option maxRecDepth 100000 in
set_option maxHeartbeats 1600000 in
theorem in_law (hH : ∀ (a b c d x y : Int) (w : World), Calls Try.prog 48 #[.agg #[.int .i64 a, .int .i64 b, .int .i64 c, .int .i64 d], .agg #[.int .i64 x, .int .i64 y]] w fun e w' => e = .returned (.bool (hasR ⟨a, b, c, d⟩ x y)) ∧ Below w.heap.size w w') {B : Nat} {v : Value} {l : List Rc} (x0 y0 : Int) (w : World) (h : ListR B w v l) (hB : B ≤ w.heap.size) (hl : l.length ≤ 4) : Calls Try.prog 21 #[v, .agg #[.int .i64 x0, .int .i64 y0]] w fun e w' => e = .returned (.int .i64 ((l.countP fun r => hasR r x0 y0 : Nat) : Int)) ∧ Below w.heap.size w w' := by
  obtain ⟨va, cap, rfl, hform⟩ := h.form
  obtain ⟨w0, hw0⟩ : ∃ w0, w0 = w.alloc (.cells #[.int .i64 x0, .int .i64 y0] 27) := ⟨_, rfl⟩
  have hs0 : Since w w0 := by rw [hw0]; exact (Since.refl w).alloc _
  have wh0 : Whole w0 (w.heap.size) 27 #[.int .i64 x0, .int .i64 y0] := by rw [hw0]; exact Whole.new w _ _
  have HW := Lib.hid hw0
  have c0_0 := box_cell wh0 0 (.int .i64 x0) rfl
  have c0_1 := box_cell wh0 1 (.int .i64 y0) rfl
  have hsr := Since.refl w0
  have hsd := hsr.drew
  clear hw0 wh0
  have hBw : B ≤ w0.heap.size := Nat.le_trans hB hs0.size
  replace h := h.since hs0 hB
  go_enter Try.func21, Try.ntmps21
  go_wp2_with fail
  rw [← HW.out]
  go_loopw [5, 6] (fun n i wr => ∃ m : Nat, i = .int .i64 m ∧ m ≤ l.length ∧ n = .int .i64 (((l.take m).countP fun r => hasR r x0 y0 : Nat) : Int) ∧ Since w0 wr) (fun _ i _ => l.length - (intOf i).toNat)
  case atStart => exact ⟨0, rfl, Nat.zero_le _, rfl, Since.refl w0⟩
  case round =>
    obtain ⟨m, rfl, hm, rfl, hs⟩ := hrel
    by_cases hlt : m < l.length
    · obtain ⟨g, rfl, hg⟩ := hform m hlt
      have hcn := cnt_take l (fun r => hasR r x0 y0) m hlt
      have hcl := List.countP_le_length (p := fun r => hasR r x0 y0) (l := l.take m)
      have hlen := List.length_take_le m l
      obtain ⟨⟨x, y, u, t⟩, hr⟩ : ∃ ρ, l[m] = ρ := ⟨_, rfl⟩
      have e1 := fun W (hW : Since wr W) => (h.since (hs.trans hW) hBw)
      have t1 : ∀ W, Since wr W → W.cell? ⟨g, m * 4, none⟩ = some (.int .i64 x) := fun W hW => (e1 W hW).at_ hlt 0 (by rw [hr]; rfl)
      have t2 : ∀ W, Since wr W → W.cell? ⟨g, m * 4 + 1, none⟩ = some (.int .i64 y) := fun W hW => (e1 W hW).at_ hlt 1 (by rw [hr]; rfl)
      have t3 : ∀ W, Since wr W → W.cell? ⟨g, m * 4 + 2, none⟩ = some (.int .i64 u) := fun W hW => (e1 W hW).at_ hlt 2 (by rw [hr]; rfl)
      have t4 : ∀ W, Since wr W → W.cell? ⟨g, m * 4 + 3, none⟩ = some (.int .i64 t) := fun W hW => (e1 W hW).at_ hlt 3 (by rw [hr]; rfl)
      have s1 : ∀ W, Since wr W → W.cell? ⟨w.heap.size, 0, none⟩ = some (.int .i64 x0) := fun W hW => c0_0 W (hs.trans hW)
      have s2 : ∀ W, Since wr W → W.cell? ⟨w.heap.size, 1, none⟩ = some (.int .i64 y0) := fun W hW => c0_1 W (hs.trans hW)
      rw [hr] at hcn
      have hc := hH x y u t x0 y0
      obtain ⟨V, hV⟩ : ∃ V, hasR ⟨x, y, u, t⟩ x0 y0 = V := ⟨_, rfl⟩
      rw [hV] at hcn hc
      obtain ⟨S, hS⟩ : ∃ S, (l.take m).countP (fun r => hasR r x0 y0) = S := ⟨_, rfl⟩
      rw [hS] at hcn hcl ⊢
      have HS := Lib.hid hcn
      have hd : decide ((m : Int) < l.length) = true := decide_eq_true (by omega)
      have hd2 : decide ((m : Int) < 20) = true := decide_eq_true (by omega)
      have hml : (m : Int) < 5 := by omega
      have hsl : (S : Int) < 5 := by omega
      have hsr := Since.refl wr
      have hsd := hsr.drew
      clear hV hS hr hcn hform e1 c0_0 c0_1
      go_wp2_with fail
      go_region_held3 (fun W => Since wr W) (first | assumption | exact Since.drew (by assumption)) ((first | (go_at_call 48; (with_reducible refine (Calls.since (by assumption) (hc _)).mono ?_); rintro e w4 ⟨rfl, hb4⟩)))
      cases V
      · go_wp2_with fail
        go_roundw
        case rel => exact ⟨m + 1, by go_num, by omega, by rw [HS.out, if_neg Bool.false_ne_true, Nat.add_zero], hs.trans (by assumption)⟩
        case measure => simp [intOf]; omega
      · go_wp2_with fail
        go_roundw
        case rel => exact ⟨m + 1, by go_num, by omega, by rw [HS.out, if_pos rfl]; go_num, hs.trans (by assumption)⟩
        case measure => simp [intOf]; omega
    · obtain rfl : m = l.length := by omega
      have hd : decide ((l.length : Int) < l.length) = false := decide_eq_false (by omega)
      rw [List.take_of_length_le (Nat.le_refl _)]
      go_wp2_with fail
      go_ret
      exact ⟨rfl, hs0.trans hs⟩
/-- A window of any numbers that may be. -/
def smW (k : Int) (r : Rc) : Rc := ⟨r.x % side k, r.y % side k, r.w % (side k + 1), r.h % (side k + 1)⟩
theorem smW_win {k : Int} (hr : rgt k = true) (r : Rc) : winR k (smW k r) = true := by
  have h1 := sd_pos k
  rw [sd_yes hr] at h1
  rw [winR_iff]
  unfold smW
  dsimp only
  have a1 := Int.emod_nonneg r.x (show side k ≠ 0 by omega)
  have a2 := Int.emod_lt_of_pos r.x h1
  have a3 := Int.emod_nonneg r.y (show side k ≠ 0 by omega)
  have a4 := Int.emod_lt_of_pos r.y h1
  have a5 := Int.emod_nonneg r.w (show side k + 1 ≠ 0 by omega)
  have a6 := Int.emod_lt_of_pos r.w (show 0 < side k + 1 by omega)
  have a7 := Int.emod_nonneg r.h (show side k + 1 ≠ 0 by omega)
  have a8 := Int.emod_lt_of_pos r.h (show 0 < side k + 1 by omega)
  omega
theorem tmod_one (x n : Int) (hn : 0 < n) : (x.tmod (n + 1) + n + 1).tmod (n + 1) = x % (n + 1) := by
  have e := tmod_pos x (n + 1) (by omega)
  rwa [show x.tmod (n + 1) + (n + 1) = x.tmod (n + 1) + n + 1 by omega] at e
set_option maxHeartbeats 1600000 in
theorem some4_any (k a b c d : Int) (w : World) (hr : rgt k = true) : Calls Try.prog 19 #[.agg #[.int .i64 k], .agg #[.int .i64 a, .int .i64 b, .int .i64 c, .int .i64 d]] w fun e w' => e = .returned (.agg #[.int .i64 ((smW k ⟨a, b, c, d⟩).x), .int .i64 ((smW k ⟨a, b, c, d⟩).y), .int .i64 ((smW k ⟨a, b, c, d⟩).w), .int .i64 ((smW k ⟨a, b, c, d⟩).h)]) ∧ Below w.heap.size w w' := by
  unfold smW
  dsimp only
  have hsd := sd_yes hr
  have hp := sd_pos k
  have hb := side_bd k
  rw [hsd] at hp
  obtain ⟨S, hS⟩ : ∃ S, side k = S := ⟨_, rfl⟩
  rw [hS] at hp hb ⊢
  have HS := Lib.hid hS
  have t1 := tmod_bd c (S + 1) (by omega)
  have t2 := tmod_bd d (S + 1) (by omega)
  have e1 := tmod_one c S hp
  have e2 := tmod_one d S hp
  have x1 : a % sd k = a % S := by rw [hsd, hS]
  have x2 : b % sd k = b % S := by rw [hsd, hS]
  obtain ⟨C, hC⟩ : ∃ C, c % (S + 1) = C := ⟨_, rfl⟩
  obtain ⟨D, hD⟩ : ∃ D, d % (S + 1) = D := ⟨_, rfl⟩
  obtain ⟨X, hX⟩ : ∃ X, a % S = X := ⟨_, rfl⟩
  obtain ⟨Y, hY⟩ : ∃ Y, b % S = Y := ⟨_, rfl⟩
  rw [hC] at e1
  rw [hD] at e2
  rw [hX] at x1
  rw [hY] at x2
  rw [hC, hD, hX, hY]
  have X1 := Lib.hid x1
  have X2 := Lib.hid x2
  clear hX hY hS hsd x1 x2
  obtain ⟨w0, hw0⟩ : ∃ w0, w0 = ((w.alloc (.cells #[.int .i64 k] 29)).alloc (.cells #[.int .i64 a, .int .i64 b, .int .i64 c, .int .i64 d] 23)).alloc (.cells #[.int .i64 0, .int .i64 0, .int .i64 0, .int .i64 0] 34) := ⟨_, rfl⟩
  have hs0 : Since w w0 := by rw [hw0]; exact (((Since.refl w).alloc _).alloc _).alloc _
  have wh0 : Whole w0 (w.heap.size) 29 #[.int .i64 k] := by rw [hw0]; exact ((Whole.new w _ _).alloc _).alloc _
  have wh1 : Whole w0 (w.heap.size + 1) 23 #[.int .i64 a, .int .i64 b, .int .i64 c, .int .i64 d] := by rw [hw0]; exact ((Whole.new (w.alloc _) _ _).alloc _).at_ (by simp)
  have wh2 : Whole w0 (w.heap.size + 1 + 1) 34 #[.int .i64 0, .int .i64 0, .int .i64 0, .int .i64 0] := by rw [hw0]; exact (Whole.new ((w.alloc _).alloc _) _ _).at_ (by simp)
  have HW := Lib.hid hw0
  have c0_0 := box_cell wh0 0 (.int .i64 k) rfl
  have c1_0 := box_cell wh1 0 (.int .i64 a) rfl
  have c1_1 := box_cell wh1 1 (.int .i64 b) rfl
  have c1_2 := box_cell wh1 2 (.int .i64 c) rfl
  have c1_3 := box_cell wh1 3 (.int .i64 d) rfl
  have c2_0 := box_cell wh2 0 (.int .i64 0) rfl
  have f2_0 := box_free wh2 0
  have c2_1 := box_cell wh2 1 (.int .i64 0) rfl
  have f2_1 := box_free wh2 1
  have c2_2 := box_cell wh2 2 (.int .i64 0) rfl
  have f2_2 := box_free wh2 2
  have c2_3 := box_cell wh2 3 (.int .i64 0) rfl
  have f2_3 := box_free wh2 3
  have hsr := Since.refl w0
  have hsd := hsr.drew
  clear hw0
  go_enter Try.func19, Try.ntmps19
  go_wp2_with fail
  rw [← HW.out]
  go_wp2_with (first | (go_at_call 28; (with_reducible refine (Calls.since (by assumption) (side_at HS.out _)).mono ?_); rintro e w1 ⟨rfl, hb1⟩) | ((go_at_call 20; (with_reducible refine (Calls.since (by assumption) (wrap_at X1.out X2.out _)).mono ?_); rintro e w2 ⟨rfl, hb2⟩); have hsa := hb2.alloc (.cells #[.int .i64 X, .int .i64 Y] 27)))
  obtain ⟨w3, hw3⟩ : ∃ w3, w3 = w2.alloc (.cells #[.int .i64 X, .int .i64 Y] 27) := ⟨_, rfl⟩
  rw [← hw3]
  have hs3 : Since w0 w3 := hsa.named hw3
  have p0 : Whole w3 w2.heap.size 27 #[.int .i64 X, .int .i64 Y] := (Whole.new w2 _ _).named hw3
  have q0 := Since.whole hs3 wh1
  have r0 := Since.whole hs3 wh2
  have hlt := (Since.whole hb2 wh2).lt
  obtain ⟨Pb, hPb⟩ : ∃ P, P = w2.heap.size := ⟨_, rfl⟩
  rw [← hPb] at p0 hlt ⊢
  have n1 : Pb ≠ w.heap.size + 1 + 1 := by omega
  clear hw3 hPb hsa hb1 hb2 wh0 wh1 wh2 c0_0 c1_0 c1_1 c1_2 c1_3 c2_0 c2_1 c2_2 c2_3 f2_0 f2_1 f2_2 f2_3 hsr hsd
  have z1 := but_cell p0 n1 0 _ rfl
  have z2 := but_cell p0 n1 1 _ rfl
  have z3 := but_cell q0 (g := w.heap.size + 1 + 1) (by omega) 2 _ rfl
  have z4 := but_cell q0 (g := w.heap.size + 1 + 1) (by omega) 3 _ rfl
  have y1 := box_cell r0 0 _ rfl
  have y2 := box_cell r0 1 _ rfl
  have y3 := box_cell r0 2 _ rfl
  have y4 := box_cell r0 3 _ rfl
  have x1 := box_free r0 0
  have x2 := box_free r0 1
  have x3 := box_free r0 2
  have x4 := box_free r0 3
  have hsd : Since w3 w3.drew := (Since.refl w3).drew
  have hsr := Since.refl w3
  have v0 : IntKind.i64.wrap (S + 1) = S + 1 := IntWalk.i64_in _ (by omega)
  have v1 : IntKind.i64.wrap (c.tmod (S + 1)) = c.tmod (S + 1) := IntWalk.i64_in _ (by omega)
  have v2 : IntKind.i64.wrap (d.tmod (S + 1)) = d.tmod (S + 1) := IntWalk.i64_in _ (by omega)
  have v3 : IntKind.i64.wrap (c.tmod (S + 1) + S) = c.tmod (S + 1) + S := IntWalk.i64_in _ (by omega)
  have v4 : IntKind.i64.wrap (d.tmod (S + 1) + S) = d.tmod (S + 1) + S := IntWalk.i64_in _ (by omega)
  have v5 : IntKind.i64.wrap (c.tmod (S + 1) + S + 1) = c.tmod (S + 1) + S + 1 := IntWalk.i64_in _ (by omega)
  have v6 : IntKind.i64.wrap (d.tmod (S + 1) + S + 1) = d.tmod (S + 1) + S + 1 := IntWalk.i64_in _ (by omega)
  have c0 : 0 ≤ C ∧ C ≤ 65536 := by rw [← hC]; have := Int.emod_nonneg c (show S + 1 ≠ 0 by omega); have := Int.emod_lt_of_pos c (show 0 < S + 1 by omega); omega
  have d0 : 0 ≤ D ∧ D ≤ 65536 := by rw [← hD]; have := Int.emod_nonneg d (show S + 1 ≠ 0 by omega); have := Int.emod_lt_of_pos d (show 0 < S + 1 by omega); omega
  have v7 : IntKind.i64.wrap C = C := IntWalk.i64_in _ (by omega)
  have v8 : IntKind.i64.wrap D = D := IntWalk.i64_in _ (by omega)
  have nz : (S + 1 == 0) = false := beq_eq_false_iff_ne.2 (by omega)
  have nz2 : (S + 1 = 0) = False := eq_false (by omega)
  clear hC hD c0 d0 t1 t2
  go_region_held3 (fun W => But (w.heap.size + 1 + 1) w3 W) (first | assumption | exact Since.but (by assumption) _ | exact But.set4 (by assumption) _ _ _ _) ((first | fail))
  go_wp2
  have g0 := r0.set4 (.int .i64 X) (.int .i64 Y) (.int .i64 C) (.int .i64 D)
  have g1 := g0.cell 0
  have g2 := g0.cell 1
  have g3 := g0.cell 2
  have g4 := g0.cell 3
  exact bodyPost_ret (v := .agg #[.int .i64 X, .int .i64 Y, .int .i64 C, .int .i64 D]) (by simp [results, Try.results19, go_sem, g1, g2, g3, g4]) rfl ⟨rfl, ((hs0.trans hs3).set4 (by omega) _ _ _ _).drew⟩
theorem some4_at {k a b c d x y u t : Int} (w : World) (hr : rgt k = true) (h : smW k ⟨a, b, c, d⟩ = ⟨x, y, u, t⟩) : Calls Try.prog 19 #[.agg #[.int .i64 k], .agg #[.int .i64 a, .int .i64 b, .int .i64 c, .int .i64 d]] w fun e w' => e = .returned (.agg #[.int .i64 x, .int .i64 y, .int .i64 u, .int .i64 t]) ∧ Below w.heap.size w w' := by
  have h1 := some4_any k a b c d w hr
  rw [h] at h1
  exact h1
end Go.Proofs.Ytbfjnnjblnjdkaa
