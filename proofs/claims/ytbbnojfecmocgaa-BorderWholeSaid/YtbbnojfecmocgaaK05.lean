/- path.halves: the iterator over a path's halves: what it yields, one by one. path.At: the path of a depth whose zone has the cell. path.Parse: a text read as a path. path.Common: the halves that two paths begin with alike. path.Compare: which stands ahead. path.Print: a path's text. -/
import Derived.Test.YtbbnojfecmocgaaK04
import Derived.RangeFuncNested
import Derived.RangeFuncBound
import Derived.RangeFuncCalls
import Derived.RangeFuncLeaves
import Derived.Shelf.Abstract
import Derived.OwnWalkIn
import Derived.TacticsInMore
import Derived.LoopNIn
import Derived.LoopIn
import Derived.Maps.AppendAt
import Derived.Laws.IdiomStrings
import Derived.Lib.BufferRead
namespace Go.Proofs.Ytbbnojfecmocgaa
open Go.RowKit Go.Shelf
attribute [local go_sem] Oper.semAt_some
/-- The first k halves, each behind its number. -/
def ups (d b : Int) (k : Nat) : List (Int × Int) := (List.range k).map fun j : Nat => ((j : Int), bitI d b j)
theorem ups_length (d b : Int) (k : Nat) : (ups d b k).length = k := by simp [ups]
theorem ups_succ (d b : Int) (k : Nat) : ups d b (k + 1) = ups d b k ++ [((k : Int), bitI d b k)] := by simp [ups, List.range_succ]
theorem below_grown {w w' : World} (h : Below w.heap.size w w') : w.grownBy w' none := ⟨h.os, h.tape, h.output, h.size, fun k hk _ => h.block k hk⟩
/-- What yield is handed. -/
abbrev enc2 (x : Int × Int) : Array Value := #[.int .i64 x.1, .int .i64 x.2]
theorem wide_d (n : Nat) : Fence.wide.depth.isSome = true → 1 ≤ n := fun h => by cases h
theorem halves_any (d b : Int) (w : World) : Calls Try.prog 60 #[.agg #[.int .i64 d, .int .i64 b]] w fun e w' => e = .returned (.func (.func 99) #[] #[.pointer (some ⟨w.heap.size, 0, none⟩)]) ∧ w' = w.alloc (.cells #[.int .i64 d, .int .i64 b] 35) := by
  have hmf : ∀ (fn : Fn) (first cap : Array Value) (w : World), (Instr.makeFunc fn first cap).run Try.prog w = .ok (.func fn first cap) w := fun _ _ _ _ => rfl
  go_enter Try.func60, Try.ntmps60
  go_wp2
  go_ret
  exact ⟨rfl, rfl⟩
/-- Block g lies as it lay. -/
def KB (g : Nat) (W W' : World) : Prop := W'.heap[g]? = W.heap[g]?
theorem KB.t {g : Nat} {A B C : World} (h : KB g A B) (k : KB g B C) : KB g A C := Eq.trans k h
theorem KB.b {g : Nat} {w : World} (hg : g < w.heap.size) (W : World) (l : Nat) (o o' : Obj) (hl : w.heap.size ≤ l) (_ : W.heap[l]? = some o) (_ : o.isCells = false) (_ : o.isWalk = false) : KB g W (W.putObj l o') :=
  World.putObj_heap_other (by omega)
theorem KB.whole {g : Nat} {t : TypeId} {cs : Array Value} {W W' : World} (k : KB g W W') (h : Whole W g t cs) : Whole W' g t cs := Eq.trans k h
/-- How many halves the iterator has. -/
def cnt (d b : Int) : Nat := if fine d b = true then d.toNat else 0
theorem cnt_yes {d b : Int} (h : fine d b = true) : cnt d b = d.toNat := if_pos h
theorem cnt_no {d b : Int} (h : fine d b = false) : cnt d b = 0 := if_neg (by rw [h]; exact Bool.false_ne_true)
set_option maxRecDepth 100000 in
set_option maxHeartbeats 2000000 in
theorem iter_in (n l g : Nat) (d b : Int) (J Jx : List (Int × Int) → World → Prop)
    (hY : ∀ pre x W, J pre W → pre.length < cnt d b → YieldAt Fence.wide (n - 1) Try.prog l (enc2 x) W fun e W' =>
      (e = .returned (.bool true) ∧ J (pre ++ [x]) W' ∧ KB g W W') ∨ (e = .returned (.bool false) ∧ Jx (pre ++ [x]) W'))
    (W : World) (hG : Whole W g 35 #[.int .i64 d, .int .i64 b]) (hJ : AbidesFrom W.heap.size J) (h0 : J [] W) :
    CallsIn Fence.wide n Try.prog 99 #[.func (.yield l) #[] #[], .pointer (some ⟨g, 0, none⟩)] W fun e W' => (∃ v, e = .returned v) ∧
      ((∃ ys, ys = ups d b (cnt d b) ∧ J ys W') ∨ (∃ pre, (∃ k, k ≤ cnt d b ∧ pre = ups d b k) ∧ Jx pre W')) := by
  have hg := hG.lt
  cases hf : fine d b with
  | false =>
    rw [cnt_no hf] at hY ⊢
    clear hY
    have c0 : ∀ W', Whole W' g 35 #[.int .i64 d, .int .i64 b] → W'.cell? ⟨g, 0, none⟩ = some (.int .i64 d) := fun W' h => h.cell 0
    have c1 : ∀ W', Whole W' g 35 #[.int .i64 d, .int .i64 b] → W'.cell? ⟨g, 1, none⟩ = some (.int .i64 b) := fun W' h => h.cell 1
    have hfh := Lib.hid hf
    clear hf
    refine callsIn_of_wp Try.func99 rfl trivial ?_ rfl
    simp only [Try.ntmps99, List.size_toArray, List.length_cons, List.length_nil, Nat.reduceAdd, Nat.reduceSub, Array.replicate_succ, Array.replicate_zero, List.push_toArray, List.append_toArray, List.nil_append, List.cons_append]
    gi_wp2_with (refine ⟨trivial, wide_d _, ?_⟩; gi_at_call 100; refine (callsIn_wide.2 (mayBe_at hfh.out W)).mono ?_; rintro e w1 ⟨rfl, hb1⟩)
    refine bodyPost_ret (results_none rfl _ _ _) rfl ?_
    exact ⟨⟨_, rfl⟩, .inl ⟨_, rfl, hJ [] W w1 none h0 (below_grown hb1) (fun r e => by cases e)⟩⟩
  | true =>
    rw [cnt_yes hf] at hY ⊢
    obtain ⟨hd1, hd2, _, _⟩ := (fine_iff d b).1 hf
    obtain ⟨dn, rfl⟩ := Int.eq_ofNat_of_zero_le hd1
    simp only [Int.toNat_natCast] at hY ⊢
    have hfh := Lib.hid hf
    clear hf hd1
    have c0 : ∀ W', Whole W' g 35 #[.int .i64 (dn : Int), .int .i64 b] → W'.cell? ⟨g, 0, none⟩ = some (.int .i64 (dn : Int)) := fun W' h => h.cell 0
    have c1 : ∀ W', Whole W' g 35 #[.int .i64 (dn : Int), .int .i64 b] → W'.cell? ⟨g, 1, none⟩ = some (.int .i64 b) := fun W' h => h.cell 1
    refine callsIn_of_wp Try.func99 rfl trivial ?_ rfl
    simp only [Try.ntmps99, List.size_toArray, List.length_cons, List.length_nil, Nat.reduceAdd, Nat.reduceSub, Array.replicate_succ, Array.replicate_zero, List.push_toArray, List.append_toArray, List.nil_append, List.cons_append]
    gi_wp2_with (refine ⟨trivial, wide_d _, ?_⟩; gi_at_call 100; refine (callsIn_wide.2 (mayBe_at hfh.out W)).mono ?_; rintro e w1 ⟨rfl, hb1⟩; have hG1 := hG.below hb1 hg)
    have hJ1 := hJ [] W w1 none h0 (below_grown hb1) (fun r e => by cases e)
    clear hb1 hG
    gi_loopw [9] (fun i wr => ∃ k : Nat, k ≤ dn ∧ i = .int .i64 k ∧ J (ups dn b k) wr ∧ Whole wr g 35 #[.int .i64 (dn : Int), .int .i64 b])
      (fun i _ => dn - (intOf i).toNat)
    case atStart => exact ⟨0, Nat.zero_le _, rfl, hJ1, hG1⟩
    case round =>
      obtain ⟨k, hk, rfl, hJs, hGr⟩ := hrel
      have hlr := hGr.lt
      by_cases hlt : k < dn
      · gi_wp2_with (refine ⟨trivial, wide_d _, ?_⟩; gi_at_call 76; refine (callsIn_wide.2 (bit_any _ _ _ _)).mono ?_; rintro e w2 ⟨rfl, hb2⟩; have hG2 := hGr.below hb2 hlr; obtain ⟨fn, tmps, assign, body, hy, hR⟩ := hY _ ((k : Int), bitI dn b k) w2 (hJ _ wr w2 none hJs (below_grown hb2) (fun r e => by cases e)) (by rw [ups_length]; exact hlt); dsimp only [enc2] at hy)
        refine ⟨wide_d _, ?_⟩
        refine hR.mono ?_
        rintro e W3 (⟨rfl, hJ3, hk3⟩ | ⟨rfl, hJx3⟩)
        · gi_wp2
          go_roundw
          case rel => exact ⟨k + 1, by omega, by simp, by rw [ups_succ]; exact hJ3, hk3.whole hG2⟩
          case measure => simp [intOf]; omega
        · gi_wp2
          refine bodyPost_ret (results_none rfl _ _ _) rfl ?_
          exact ⟨⟨_, rfl⟩, .inr ⟨_, ⟨k + 1, by omega, (ups_succ _ _ _).symm⟩, hJx3⟩⟩
      · obtain rfl : k = dn := by omega
        gi_wp2
        go_end0
        exact ⟨⟨_, rfl⟩, .inl ⟨_, rfl, hJs⟩⟩
/-- The iterator yields all halves of a path, or some first ones; of one that may not be there are none. -/
theorem iter_stops (n g : Nat) (d b : Int) (w : World) (hG : Whole w g 35 #[.int .i64 d, .int .i64 b]) :
    SeqStopsK Fence.wide n Try.prog 99 #[.pointer (some ⟨g, 0, none⟩)] enc2 (KB g) (fun ys => ys = ups d b (cnt d b)) (fun pre => ∃ k, k ≤ cnt d b ∧ pre = ups d b k) (cnt d b) w := fun l J Jx W hW hJ _ hY h0 =>
  iter_in n l g d b J Jx hY W (hG.below hW hG.lt) hJ h0
end Go.Proofs.Ytbbnojfecmocgaa
namespace Go.Proofs.Ytbbnojfecmocgaa
open Go.RowKit
/-- The half i of the cell (x, y). -/
def atH (k x y : Int) (i : Nat) : Int := (if i % 2 = 0 then x else y) / 2 ^ (k - 1 - ((i / 2 : Nat) : Int)).toNat % 2
/-- The first m halves of the cell, as one number. -/
def atV (k x y : Int) : Nat → Int
  | 0 => 0
  | m + 1 => 2 * atV k x y m + atH k x y m
theorem atH_bd (k x y : Int) (i : Nat) : 0 ≤ atH k x y i ∧ atH k x y i ≤ 1 := by unfold atH; omega
theorem atV_bd (k x y : Int) : ∀ m : Nat, 0 ≤ atV k x y m ∧ atV k x y m < 2 ^ m
  | 0 => ⟨Int.le_refl _, show (0 : Int) < 2 ^ 0 by decide⟩
  | m + 1 => by
    have h := atV_bd k x y m
    have h1 := atH_bd k x y m
    unfold atV
    rw [p2_add]
    omega
set_option maxHeartbeats 800000 in
theorem at_no (k x y d : Int) (w : World) (h : hasB k x y = false ∨ (hasB k x y = true ∧ d < 0) ∨ (hasB k x y = true ∧ 0 ≤ d ∧ 2 * k < d)) : Calls Try.prog 40 #[.agg #[.int .i64 k], .agg #[.int .i64 x, .int .i64 y], .int .i64 d] w fun e w' => e = .returned (.tuple #[.agg #[.int .i64 0, .int .i64 0], .int .i64 1]) ∧ Below w.heap.size w w' := by
  obtain ⟨w0, hw0⟩ : ∃ w0, w0 = ((w.alloc (.cells #[.int .i64 k] 26)).alloc (.cells #[.int .i64 x, .int .i64 y] 24)).alloc (.cells #[.int .i64 0, .int .i64 0] 35) := ⟨_, rfl⟩
  have hs0 : Since w w0 := by rw [hw0]; exact (((Since.refl w).alloc _).alloc _).alloc _
  have wh0 : Whole w0 (w.heap.size) 26 #[.int .i64 k] := by rw [hw0]; exact ((Whole.new w _ _).alloc _).alloc _
  have wh1 : Whole w0 (w.heap.size + 1) 24 #[.int .i64 x, .int .i64 y] := by rw [hw0]; exact ((Whole.new (w.alloc _) _ _).alloc _).at_ (by simp)
  have wh2 : Whole w0 (w.heap.size + 1 + 1) 35 #[.int .i64 0, .int .i64 0] := by rw [hw0]; exact (Whole.new ((w.alloc _).alloc _) _ _).at_ (by simp)
  have HW := Lib.hid hw0
  have c0_0 := box_cell wh0 0 (.int .i64 k) rfl
  have c1_0 := box_cell wh1 0 (.int .i64 x) rfl
  have c1_1 := box_cell wh1 1 (.int .i64 y) rfl
  have c2_0 := box_cell wh2 0 (.int .i64 0) rfl
  have f2_0 := box_free wh2 0
  have c2_1 := box_cell wh2 1 (.int .i64 0) rfl
  have f2_1 := box_free wh2 1
  have hsr := Since.refl w0
  have hsd := hsr.drew
  clear hw0 wh0 wh1 wh2
  rcases h with h | ⟨h, h2⟩ | ⟨h, h2, h3⟩
  · replace h := Lib.hid h
    go_enter Try.func40, Try.ntmps40
    go_wp2_with fail
    rw [← HW.out]
    go_wp2_with (go_at_call 72; (with_reducible refine (Calls.since (by assumption) (has_at h.out _)).mono ?_); rintro e w1 ⟨rfl, hb1⟩)
    have g1 := c2_0 w1 hb1
    have g2 := c2_1 w1 hb1
    exact bodyPost_ret (v := .tuple #[.agg #[.int .i64 0, .int .i64 0], .int .i64 1]) (by simp [results, Try.results40, go_sem, g1, g2]) rfl ⟨rfl, Below.setCell (Below.setCell (hs0.trans hb1) (by simp; omega) _) (by simp; omega) _⟩
  · replace h := Lib.hid h
    have q1 : decide (d < 0) = true := decide_eq_true h2
    go_enter Try.func40, Try.ntmps40
    go_wp2_with fail
    rw [← HW.out]
    go_wp2_with (go_at_call 72; (with_reducible refine (Calls.since (by assumption) (has_at h.out _)).mono ?_); rintro e w1 ⟨rfl, hb1⟩)
    have g1 := c2_0 w1 hb1
    have g2 := c2_1 w1 hb1
    exact bodyPost_ret (v := .tuple #[.agg #[.int .i64 0, .int .i64 0], .int .i64 1]) (by simp [results, Try.results40, go_sem, g1, g2]) rfl ⟨rfl, Below.setCell (Below.setCell (hs0.trans hb1) (by simp; omega) _) (by simp; omega) _⟩
  · have hr : rgt k = true := by
      cases e : rgt k with
      | true => rfl
      | false => rw [hasB_no x y e] at h; cases h
    have hk := (rgt_iff k).1 hr
    have q1 : decide (d < 0) = false := decide_eq_false (by omega)
    have q2 : decide (2 * k < d) = true := decide_eq_true h3
    obtain ⟨hk1, hk2⟩ := hk
    replace h := Lib.hid h
    clear hr
    go_enter Try.func40, Try.ntmps40
    go_wp2_with fail
    rw [← HW.out]
    go_wp2_with (go_at_call 72; (with_reducible refine (Calls.since (by assumption) (has_at h.out _)).mono ?_); rintro e w1 ⟨rfl, hb1⟩)
    have g1 := c2_0 w1 hb1
    have g2 := c2_1 w1 hb1
    exact bodyPost_ret (v := .tuple #[.agg #[.int .i64 0, .int .i64 0], .int .i64 1]) (by simp [results, Try.results40, go_sem, g1, g2]) rfl ⟨rfl, Below.setCell (Below.setCell (hs0.trans hb1) (by simp; omega) _) (by simp; omega) _⟩
set_option maxRecDepth 100000 in
set_option maxHeartbeats 1600000 in
theorem at_yes (k x y d : Int) (dn : Nat) (w : World) (h : hasB k x y = true) (hdn : d = (dn : Int)) (hd : d ≤ 2 * k) : Calls Try.prog 40 #[.agg #[.int .i64 k], .agg #[.int .i64 x, .int .i64 y], .int .i64 d] w fun e w' => e = .returned (.tuple #[.agg #[.int .i64 d, .int .i64 (atV k x y dn)], .int .i64 0]) ∧ Below w.heap.size w w' := by
  subst hdn
  obtain ⟨w0, hw0⟩ : ∃ w0, w0 = ((w.alloc (.cells #[.int .i64 k] 26)).alloc (.cells #[.int .i64 x, .int .i64 y] 24)).alloc (.cells #[.int .i64 0, .int .i64 0] 35) := ⟨_, rfl⟩
  have hs0 : Since w w0 := by rw [hw0]; exact (((Since.refl w).alloc _).alloc _).alloc _
  have wh0 : Whole w0 (w.heap.size) 26 #[.int .i64 k] := by rw [hw0]; exact ((Whole.new w _ _).alloc _).alloc _
  have wh1 : Whole w0 (w.heap.size + 1) 24 #[.int .i64 x, .int .i64 y] := by rw [hw0]; exact ((Whole.new (w.alloc _) _ _).alloc _).at_ (by simp)
  have wh2 : Whole w0 (w.heap.size + 1 + 1) 35 #[.int .i64 0, .int .i64 0] := by rw [hw0]; exact (Whole.new ((w.alloc _).alloc _) _ _).at_ (by simp)
  have HW := Lib.hid hw0
  have c0_0 := box_cell wh0 0 (.int .i64 k) rfl
  have c1_0 := box_cell wh1 0 (.int .i64 x) rfl
  have c1_1 := box_cell wh1 1 (.int .i64 y) rfl
  have c2_0 := box_cell wh2 0 (.int .i64 0) rfl
  have c2_1 := box_cell wh2 1 (.int .i64 0) rfl
  have hsr := Since.refl w0
  have hsd := hsr.drew
  clear hw0
  have hr : rgt k = true := by
    cases e : rgt k with
    | true => rfl
    | false => rw [hasB_no x y e] at h; cases h
  obtain ⟨hk1, hk2⟩ := (rgt_iff k).1 hr
  have q1 : decide ((dn : Int) < 0) = false := decide_eq_false (by omega)
  have q2 : decide (2 * k < (dn : Int)) = false := decide_eq_false (by omega)
  replace h := Lib.hid h
  clear hr
  go_enter Try.func40, Try.ntmps40
  go_wp2_with fail
  rw [← HW.out]
  go_wp2_with (go_at_call 72; (with_reducible refine (Calls.since (by assumption) (has_at h.out _)).mono ?_); rintro e w1 ⟨rfl, hb1⟩)
  have wt := (Since.whole hb1 wh0).alloc (.cells #[.int .i64 0, .int .i64 0] 35)
  have wp := (Since.whole hb1 wh1).alloc (.cells #[.int .i64 0, .int .i64 0] 35)
  have wr0 := (Since.whole hb1 wh2).alloc (.cells #[.int .i64 0, .int .i64 0] 35)
  have wg := Whole.new w1 35 #[.int .i64 0, .int .i64 0]
  have hs : Since w (w1.alloc (.cells #[.int .i64 0, .int .i64 0] 35)) := (hs0.trans hb1).alloc _
  have hlG := (Since.whole hb1 wh2).lt
  obtain ⟨G, hG⟩ : ∃ G, G = w1.heap.size := ⟨_, rfl⟩
  rw [← hG] at hlG wg ⊢
  have u1 : w.heap.size ≠ G := by omega
  have u2 : w.heap.size + 1 ≠ G := by omega
  have u3 : w.heap.size + 1 + 1 ≠ G := by omega
  clear hG c0_0 c1_0 c1_1 c2_0 c2_1 wh0 wh1 wh2 hsr hsd q1 q2
  go_loopw [29] (fun i wr => ∃ n : Nat, i = .int .i64 n ∧ n ≤ dn ∧ Whole wr w.heap.size 26 #[.int .i64 k] ∧ Whole wr (w.heap.size + 1) 24 #[.int .i64 x, .int .i64 y] ∧ Whole wr (w.heap.size + 1 + 1) 35 #[.int .i64 0, .int .i64 0] ∧ Whole wr G 35 #[.int .i64 (n : Int), .int .i64 (atV k x y n)] ∧ Since w wr)
    (fun i _ => dn - (intOf i).toNat)
  case atStart => exact ⟨0, rfl, Nat.zero_le _, wt, wp, wr0, wg, hs⟩
  case round =>
    clear wt wp wr0 wg hs hb1
    obtain ⟨n, rfl, hn, wt, wp, wr0, wg, hs⟩ := hrel
    have ct := but_cell wt u1 0 _ rfl
    have cp1 := but_cell wp u2 0 _ rfl
    have cp2 := but_cell wp u2 1 _ rfl
    have cg1 := box_cell wg 0 _ rfl
    have cg2 := box_cell wg 1 _ rfl
    have fg1 := box_free wg 0
    have fg2 := box_free wg 1
    have hsr := Since.refl wr
    have hbr := (Since.refl wr).but G
    have hsd : Since wr wr.drew := (Since.refl wr).drew
    have hbd : But G wr wr.drew := hsd.but G
    by_cases hlt : n < dn
    · obtain ⟨H, hH⟩ : ∃ H : Int, H = ((n / 2 : Nat) : Int) := ⟨_, rfl⟩
      have eH : IntKind.i64.wrap ((n : Int) / 2) = H := by rw [IntWalk.i64_in _ (by omega)]; omega
      obtain ⟨T, hT⟩ : ∃ T : Int, T = k - 1 - H := ⟨_, rfl⟩
      have eK : IntKind.i64.wrap (k - 1) = k - 1 := IntWalk.i64_in _ (by omega)
      have eT : IntKind.i64.wrap (k - 1 - H) = T := by rw [IntWalk.i64_in _ (by omega)]; omega
      have hT0 : 0 ≤ T := by omega
      have hT1 : T ≤ 16 := by omega
      have HT := Lib.hid hT
      have ha := and1
      have hn32 : (n : Int) < 32 := by omega
      have HH := Lib.hid hH
      have hpar : ((n : Int).tmod 2 == 0) = decide (n % 2 = 0) := by rw [Int.tmod_eq_emod_of_nonneg (by omega), Bool.eq_iff_iff, beq_iff_eq, decide_eq_true_iff]; omega
      have hs1 : atV k x y (n + 1) = 2 * atV k x y n + atH k x y n := rfl
      have HS := Lib.hid hs1
      have hvb := atV_bd k x y n
      have hV := Lib.hid hvb
      have HP := Lib.hid hpar
      obtain ⟨V, hVV⟩ : ∃ V, V = atV k x y n := ⟨_, rfl⟩
      rw [← hVV] at wg cg1 cg2
      have HVV := Lib.hid hVV
      clear hH hs1 hvb hVV hpar hT
      cases hx : ((n : Int).tmod 2 == 0)
      all_goals
        go_wp2_with (go_at_call 61; (with_reducible refine (byX_any _ _).mono ?_); rintro e w' ⟨rfl, rfl⟩)
        obtain ⟨wq, hwq⟩ : ∃ wq, wq = wr.drew := ⟨_, rfl⟩
        refine wp_region_held_drew (S := fun W => But G wr W) (by kernel_rfl) hbd (fun hHeld => ?_)
        have hq : Since wr wq := by rw [hwq]; exact hsd
        rw [← hwq] at hHeld ⊢
        clear hwq hbd hsd
        refine wpAnyH_take (i := 1) (v := ?_) rfl (by kernel_rfl) (by kernel_rfl) (by kernel_rfl) (fun _ _ _ h => h) (Or.inl ⟨by rfl, ?_⟩) (by assumption) ?_
        rotate_left 1
        · (intro W hW; clear hW; go_simp; try with_reducible rfl)
        simp only [Act.put, List.getElem_toArray, List.getElem_cons_succ, List.getElem_cons_zero, List.setIfInBounds_toArray, List.set_cons_zero, List.set_cons_succ]
        refine wpAnyH_take (i := 2) (v := ?_) rfl (by kernel_rfl) (by kernel_rfl) (by kernel_rfl) (fun _ _ _ h => h) (Or.inl ⟨by rfl, ?_⟩) (by assumption) ?_
        rotate_left 1
        · (intro W hW; clear hW; go_simp; try with_reducible rfl)
        simp only [Act.put, List.getElem_toArray, List.getElem_cons_succ, List.getElem_cons_zero, List.setIfInBounds_toArray, List.set_cons_zero, List.set_cons_succ]
        refine wpAnyH_take (i := 3) (v := ?_) rfl (by kernel_rfl) (by kernel_rfl) (by kernel_rfl) (fun _ _ _ h => h) (Or.inl ⟨by rfl, ?_⟩) (by assumption) ?_
        rotate_left 1
        · (intro W hW; skip; go_simp; try with_reducible rfl)
        simp only [Act.put, List.getElem_toArray, List.getElem_cons_succ, List.getElem_cons_zero, List.setIfInBounds_toArray, List.set_cons_zero, List.set_cons_succ]
        refine wpAnyH_take (i := 4) (v := ?_) rfl (by kernel_rfl) (by kernel_rfl) (by kernel_rfl) (fun _ _ _ h => h) (Or.inl ⟨by rfl, ?_⟩) (by assumption) ?_
        rotate_left 1
        · (intro W hW; clear hW; go_simp; try with_reducible rfl)
        simp only [Act.put, List.getElem_toArray, List.getElem_cons_succ, List.getElem_cons_zero, List.setIfInBounds_toArray, List.set_cons_zero, List.set_cons_succ]
        refine wpAnyH_take (i := 5) (v := ?_) rfl (by kernel_rfl) (by kernel_rfl) (by kernel_rfl) (fun _ _ _ h => h) (Or.inl ⟨by rfl, ?_⟩) (by assumption) ?_
        rotate_left 1
        · (intro W hW; clear hW; go_simp; try with_reducible rfl)
        simp only [Act.put, List.getElem_toArray, List.getElem_cons_succ, List.getElem_cons_zero, List.setIfInBounds_toArray, List.set_cons_zero, List.set_cons_succ]
        refine wpAnyH_take (i := 6) (v := ?_) rfl (by kernel_rfl) (by kernel_rfl) (by kernel_rfl) (fun _ _ _ h => h) (Or.inl ⟨by rfl, ?_⟩) (by assumption) ?_
        rotate_left 1
        · (intro W hW; clear hW; go_simp; try with_reducible rfl)
        simp only [Act.put, List.getElem_toArray, List.getElem_cons_succ, List.getElem_cons_zero, List.setIfInBounds_toArray, List.set_cons_zero, List.set_cons_succ]
        refine wpAnyH_take (i := 7) (v := ?_) rfl (by kernel_rfl) (by kernel_rfl) (by kernel_rfl) (fun _ _ _ h => h) (Or.inl ⟨by rfl, ?_⟩) (by assumption) ?_
        rotate_left 1
        · (intro W hW; clear hW; go_simp; try with_reducible rfl)
        simp only [Act.put, List.getElem_toArray, List.getElem_cons_succ, List.getElem_cons_zero, List.setIfInBounds_toArray, List.set_cons_zero, List.set_cons_succ]
        refine wpAnyH_take (i := 8) (v := ?_) rfl (by kernel_rfl) (by kernel_rfl) (by kernel_rfl) (fun _ _ _ h => h) (Or.inl ⟨by rfl, ?_⟩) (by assumption) ?_
        rotate_left 1
        · (intro W hW; clear hW; go_simp; try with_reducible rfl)
        simp only [Act.put, List.getElem_toArray, List.getElem_cons_succ, List.getElem_cons_zero, List.setIfInBounds_toArray, List.set_cons_zero, List.set_cons_succ]
        refine wpAnyH_take (i := 9) (v := ?_) rfl (by kernel_rfl) (by kernel_rfl) (by kernel_rfl) (fun _ _ _ h => h) (Or.inl ⟨by rfl, ?_⟩) (by assumption) ?_
        rotate_left 1
        · (intro W hW; clear hW; go_simp; try with_reducible rfl)
        simp only [Act.put, List.getElem_toArray, List.getElem_cons_succ, List.getElem_cons_zero, List.setIfInBounds_toArray, List.set_cons_zero, List.set_cons_succ]
        refine wpAnyH_ready (rs := [0]) (by kernel_rfl) (by simp) ?_
        refine AllReadyH.cons rfl (fun K hK => ?_) AllReadyH.nil
        go_simp
        skip
        refine hK.out _ _ (hHeld) (fun hHeld => ?_)
        clear hK K
        try simp only [Act.put, List.getElem_toArray, List.getElem_cons_zero, List.setIfInBounds_toArray, List.set_cons_zero, List.set_cons_succ]
        refine wpAnyH_ready (rs := [10]) (by kernel_rfl) (by simp) ?_
        refine AllReadyH.cons rfl (fun K hK => ?_) AllReadyH.nil
        go_simp
        refine (Calls.since hq (with_any _ _ _ _)).mono ?_
        rintro e w2 ⟨rfl, hb2⟩
        go_wp2_with fail
        refine hK.out _ _ (hb2.but _) (fun hHeld => ?_)
        clear hK K
        try simp only [Act.put, List.getElem_toArray, List.getElem_cons_succ, List.getElem_cons_zero, List.setIfInBounds_toArray, List.set_cons_zero, List.set_cons_succ]
        refine wpAnyH_ready (rs := [11]) (by kernel_rfl) (by simp) ?_
        refine AllReadyH.cons rfl (fun K hK => ?_) AllReadyH.nil
        go_simp
        skip
        refine hK.out _ _ (But.set2 hb2 _ _ _ _) (fun hHeld => ?_)
        clear hK K
        try simp only [Act.put, List.getElem_toArray, List.getElem_cons_succ, List.getElem_cons_zero, List.setIfInBounds_toArray, List.set_cons_zero, List.set_cons_succ]
        refine wpAnyH_done (by kernel_rfl) ?_ _
        have hh : atH k x y n = (if decide (n % 2 = 0) = true then x else y) / 2 ^ T.toNat % 2 := by
          unfold atH
          rw [HT.out, HH.out]
          simp only [decide_eq_true_eq]
        rw [← HP.out, hx] at hh
        simp only [Bool.false_eq_true, ↓reduceIte] at hh
        have hb0 := atH_bd k x y n
        rw [hh] at hb0
        have hV2 := hV.out
        have hp2 := p2_32 (n := n) (by omega)
        have hd1 : wthD (n : Int) = ((n + 1 : Nat) : Int) := by rw [wthD_in (by omega) (by omega)]; omega
        have hv1 := or_half (b := V) (by rw [HVV.out]; exact hV2.1) (by rw [HVV.out]; omega) hb0.1 hb0.2
        rw [← hh, HVV.out, ← HS.out] at hv1
        rw [← HVV.out, hh] at hv1
        replace hd1 := Lib.hid hd1
        replace hv1 := Lib.hid hv1
        clear hh hb0 hV2 hp2
        go_wp2
        go_roundw
        case rel =>
          refine ⟨n + 1, by go_num, by omega, ?_, ?_, ?_, ?_, ?_⟩
          · exact ((Since.whole hb2 wt).far (p := ⟨G, 0, none⟩) u1 _).far (p := ⟨G, 1, none⟩) u1 _
          · exact ((Since.whole hb2 wp).far (p := ⟨G, 0, none⟩) u2 _).far (p := ⟨G, 1, none⟩) u2 _
          · exact ((Since.whole hb2 wr0).far (p := ⟨G, 0, none⟩) u3 _).far (p := ⟨G, 1, none⟩) u3 _
          · rw [← hd1.out, ← hv1.out]
            exact ((Since.whole hb2 wg).set_ 0 _).set_ 1 _
          · exact ((hs.trans hb2).setCell (p := ⟨G, 0, none⟩) (by simp; omega) _).setCell (p := ⟨G, 1, none⟩) (by simp; omega) _
        case measure => simp [intOf]; omega
    · obtain rfl : n = dn := by omega
      have r1 := wr0.frozen 0
      have r2 := wr0.frozen 1
      have r3 := wr0.cell 0
      have r4 := wr0.cell 1
      have w1' := (wr0.set_ 0 (.int .i64 (n : Int))).set_ 1 (.int .i64 (atV k x y n))
      have r5 := w1'.cell 0
      have r6 := w1'.cell 1
      clear w1'
      go_wp2
      exact bodyPost_ret (v := .tuple #[.agg #[.int .i64 ((n : Int)), .int .i64 (atV k x y n)], .int .i64 0]) (by simp [results, Try.results40, go_sem, r5, r6]) rfl ⟨rfl, (hs.setCell (p := ⟨w.heap.size + 1 + 1, 0, none⟩) (by simp; omega) _).setCell (p := ⟨w.heap.size + 1 + 1, 1, none⟩) (by simp; omega) _⟩
end Go.Proofs.Ytbbnojfecmocgaa
namespace Go.Proofs.Ytbbnojfecmocgaa
open Go.RowKit
end Go.Proofs.Ytbbnojfecmocgaa
namespace Go.Proofs.Ytbbnojfecmocgaa
open Go.RowKit Go.Shelf
attribute [local go_sem] Oper.semAt_some
theorem whole_from {β : Type} {B b : Nat} {t : TypeId} (hb : b < B) (cs : β → Array Value) : OwnFrom B (fun (s : β) W => Whole W b t (cs s)) :=
  fun _ _ _ _ hs hg hr => (hg.block b hs.lt (fun e => by have := (hr b e.symm).1; omega)).trans hs
theorem keeps_set (B : Nat) (W : World) (a : Addr) (v : Value) : KeepsFrom B W (W.setCell a v) := (KeepsOthers.setCell W a v).from B
theorem KB.set {g : Nat} {A W : World} (h : KB g A W) {p : Addr} (hp : g ≠ p.block) (v : Value) : KB g A (W.setCell p v) := (Below.heap_setCell W p v g hp).trans h
theorem KB.below {g : Nat} {W W' : World} (h : Below W.heap.size W W') (hg : g < W.heap.size) : KB g W W' := h.block g hg
abbrev pA (d b : Int) : Array Value := #[.int .i64 d, .int .i64 b]
/-- How many of the first n agree. -/
def cplN (f g : Nat → Int) : Nat → Nat
  | 0 => 0
  | n + 1 => if cplN f g n = n ∧ f n = g n then n + 1 else cplN f g n
theorem cplN_spec (f g : Nat → Int) : ∀ n, cplN f g n ≤ n ∧ (∀ j, j < cplN f g n → f j = g j) ∧ (cplN f g n = n ∨ f (cplN f g n) ≠ g (cplN f g n))
  | 0 => ⟨Nat.le_refl _, fun j h => absurd h (Nat.not_lt_zero j), .inl rfl⟩
  | n + 1 => by
    obtain ⟨h1, h2, h3⟩ := cplN_spec f g n
    unfold cplN
    split
    · next h =>
      refine ⟨Nat.le_refl _, fun j hj => ?_, .inl rfl⟩
      by_cases e : j = n
      · rw [e]; exact h.2
      · exact h2 j (by omega)
    · next h =>
      refine ⟨by omega, h2, ?_⟩
      rcases h3 with h3 | h3
      · rw [h3]
        exact .inr fun e => h ⟨h3, e⟩
      · exact .inr h3
/-- How many halves p and q begin with alike. -/
def cpl (dp bp dq bq : Int) : Nat := cplN (fun j => bitI dq bq j) (fun j => bitI dp bp j) (cnt dp bp)
end Go.Proofs.Ytbbnojfecmocgaa
namespace Go.Proofs.Ytbbnojfecmocgaa
open Go.RowKit
/-- Which stands ahead. -/
def cmpP (dp bp dq bq : Int) : Int := if fine dp bp = true ∧ fine dq bq = true then cmpI (bitI dp bp (cpl dp bp dq bq)) (bitI dq bq (cpl dp bp dq bq)) else 0
theorem cmpP_yes {dp bp dq bq : Int} (h : fine dp bp = true) (g : fine dq bq = true) : cmpP dp bp dq bq = cmpI (bitI dp bp (cpl dp bp dq bq)) (bitI dq bq (cpl dp bp dq bq)) := if_pos ⟨h, g⟩
end Go.Proofs.Ytbbnojfecmocgaa
namespace Go.Proofs.Ytbbnojfecmocgaa
open Go.RowKit Go.Shelf
attribute [local go_sem] Oper.semAt_some
end Go.Proofs.Ytbbnojfecmocgaa
