/- path.halves: the iterator over a path's halves: what it yields, one by one. path.At: the path of a depth whose zone has the cell. path.Parse: a text read as a path. path.Common: the halves that two paths begin with alike. path.Compare: which stands ahead. path.Print: a path's text. -/
import Derived.Test.YthfhpejpjiaikaaGreatK11
import Derived.RangeFuncNested
import Derived.RangeFuncBound
import Derived.RangeFuncCalls
import Derived.RangeFuncLeaves
import Derived.Shelf.Abstract
import Derived.OwnWalkIn
import Derived.TacticsInMore
import Derived.LoopNIn
import Derived.LoopIn
import Derived.Maps.AppendAt
import Derived.Laws.IdiomStrings
import Derived.Lib.BufferRead
namespace Go.Proofs.YthfhpejpjiaikaaGreat
open Go.RowKit Go.Shelf
attribute [local go_sem] Oper.semAt_some
/-- The first k halves, each behind its number. -/
def ups (d b : Int) (k : Nat) : List (Int × Int) := (List.range k).map fun j : Nat => ((j : Int), bitI d b j)
theorem ups_length (d b : Int) (k : Nat) : (ups d b k).length = k := by simp [ups]
theorem ups_succ (d b : Int) (k : Nat) : ups d b (k + 1) = ups d b k ++ [((k : Int), bitI d b k)] := by simp [ups, List.range_succ]
theorem below_grown {w w' : World} (h : Below w.heap.size w w') : w.grownBy w' none := ⟨h.os, h.tape, h.output, h.size, fun k hk _ => h.block k hk⟩
/-- What yield is handed. -/
abbrev enc2 (x : Int × Int) : Array Value := #[.int .i64 x.1, .int .i64 x.2]
theorem wide_d (n : Nat) : Fence.wide.depth.isSome = true → 1 ≤ n := fun h => by cases h
theorem halves_any (d b : Int) (w : World) : Calls Tryz.prog 69 #[.agg #[.int .i64 d, .int .i64 b]] w fun e w' => e = .returned (.func (.func 97) #[] #[.pointer (some ⟨w.heap.size, 0, none⟩)]) ∧ w' = w.alloc (.cells #[.int .i64 d, .int .i64 b] 23) := by
  have hmf : ∀ (fn : Fn) (first cap : Array Value) (w : World), (Instr.makeFunc fn first cap).run Tryz.prog w = .ok (.func fn first cap) w := fun _ _ _ _ => rfl
  go_enter Tryz.func69, Tryz.ntmps69
  go_wp2
  go_ret
  exact ⟨rfl, rfl⟩
/-- Block g lies as it lay. -/
def KB (g : Nat) (W W' : World) : Prop := W'.heap[g]? = W.heap[g]?
theorem KB.t {g : Nat} {A B C : World} (h : KB g A B) (k : KB g B C) : KB g A C := Eq.trans k h
theorem KB.b {g : Nat} {w : World} (hg : g < w.heap.size) (W : World) (l : Nat) (o o' : Obj) (hl : w.heap.size ≤ l) (_ : W.heap[l]? = some o) (_ : o.isCells = false) (_ : o.isWalk = false) : KB g W (W.putObj l o') :=
  World.putObj_heap_other (by omega)
theorem KB.whole {g : Nat} {t : TypeId} {cs : Array Value} {W W' : World} (k : KB g W W') (h : Whole W g t cs) : Whole W' g t cs := Eq.trans k h
/-- How many halves the iterator has. -/
def cnt (d b : Int) : Nat := if fine d b = true then d.toNat else 0
theorem cnt_yes {d b : Int} (h : fine d b = true) : cnt d b = d.toNat := if_pos h
theorem cnt_no {d b : Int} (h : fine d b = false) : cnt d b = 0 := if_neg (by rw [h]; exact Bool.false_ne_true)
set_option maxRecDepth 100000 in
set_option maxHeartbeats 2000000 in
theorem iter_in (n l g : Nat) (d b : Int) (J Jx : List (Int × Int) → World → Prop)
    (hY : ∀ pre x W, J pre W → pre.length < cnt d b → YieldAt Fence.wide (n - 1) Tryz.prog l (enc2 x) W fun e W' =>
      (e = .returned (.bool true) ∧ J (pre ++ [x]) W' ∧ KB g W W') ∨ (e = .returned (.bool false) ∧ Jx (pre ++ [x]) W'))
    (W : World) (hG : Whole W g 23 #[.int .i64 d, .int .i64 b]) (hJ : AbidesFrom W.heap.size J) (h0 : J [] W) :
    CallsIn Fence.wide n Tryz.prog 97 #[.func (.yield l) #[] #[], .pointer (some ⟨g, 0, none⟩)] W fun e W' => (∃ v, e = .returned v) ∧
      ((∃ ys, ys = ups d b (cnt d b) ∧ J ys W') ∨ (∃ pre, (∃ k, k ≤ cnt d b ∧ pre = ups d b k) ∧ Jx pre W')) := by
  have hg := hG.lt
  cases hf : fine d b with
  | false =>
    rw [cnt_no hf] at hY ⊢
    clear hY
    have c0 : ∀ W', Whole W' g 23 #[.int .i64 d, .int .i64 b] → W'.cell? ⟨g, 0, none⟩ = some (.int .i64 d) := fun W' h => h.cell 0
    have c1 : ∀ W', Whole W' g 23 #[.int .i64 d, .int .i64 b] → W'.cell? ⟨g, 1, none⟩ = some (.int .i64 b) := fun W' h => h.cell 1
    have hfh := Lib.hid hf
    clear hf
    refine callsIn_of_wp Tryz.func97 rfl trivial ?_ rfl
    simp only [Tryz.ntmps97, List.size_toArray, List.length_cons, List.length_nil, Nat.reduceAdd, Nat.reduceSub, Array.replicate_succ, Array.replicate_zero, List.push_toArray, List.append_toArray, List.nil_append, List.cons_append]
    gi_wp2_with (refine ⟨trivial, wide_d _, ?_⟩; gi_at_call 41; refine (callsIn_wide.2 (mayBe_at hfh.out W)).mono ?_; rintro e w1 ⟨rfl, hb1⟩)
    refine bodyPost_ret (results_none rfl _ _ _) rfl ?_
    exact ⟨⟨_, rfl⟩, .inl ⟨_, rfl, hJ [] W w1 none h0 (below_grown hb1) (fun r e => by cases e)⟩⟩
  | true =>
    rw [cnt_yes hf] at hY ⊢
    obtain ⟨hd1, hd2, _, _⟩ := (fine_iff d b).1 hf
    obtain ⟨dn, rfl⟩ := Int.eq_ofNat_of_zero_le hd1
    simp only [Int.toNat_natCast] at hY ⊢
    have hfh := Lib.hid hf
    clear hf hd1
    have c0 : ∀ W', Whole W' g 23 #[.int .i64 (dn : Int), .int .i64 b] → W'.cell? ⟨g, 0, none⟩ = some (.int .i64 (dn : Int)) := fun W' h => h.cell 0
    have c1 : ∀ W', Whole W' g 23 #[.int .i64 (dn : Int), .int .i64 b] → W'.cell? ⟨g, 1, none⟩ = some (.int .i64 b) := fun W' h => h.cell 1
    refine callsIn_of_wp Tryz.func97 rfl trivial ?_ rfl
    simp only [Tryz.ntmps97, List.size_toArray, List.length_cons, List.length_nil, Nat.reduceAdd, Nat.reduceSub, Array.replicate_succ, Array.replicate_zero, List.push_toArray, List.append_toArray, List.nil_append, List.cons_append]
    gi_wp2_with (refine ⟨trivial, wide_d _, ?_⟩; gi_at_call 41; refine (callsIn_wide.2 (mayBe_at hfh.out W)).mono ?_; rintro e w1 ⟨rfl, hb1⟩; have hG1 := hG.below hb1 hg)
    have hJ1 := hJ [] W w1 none h0 (below_grown hb1) (fun r e => by cases e)
    clear hb1 hG
    gi_loopw [9] (fun i wr => ∃ k : Nat, k ≤ dn ∧ i = .int .i64 k ∧ J (ups dn b k) wr ∧ Whole wr g 23 #[.int .i64 (dn : Int), .int .i64 b])
      (fun i _ => dn - (intOf i).toNat)
    case atStart => exact ⟨0, Nat.zero_le _, rfl, hJ1, hG1⟩
    case round =>
      obtain ⟨k, hk, rfl, hJs, hGr⟩ := hrel
      have hlr := hGr.lt
      by_cases hlt : k < dn
      · gi_wp2_with (refine ⟨trivial, wide_d _, ?_⟩; gi_at_call 98; refine (callsIn_wide.2 (bit_any _ _ _ _)).mono ?_; rintro e w2 ⟨rfl, hb2⟩; have hG2 := hGr.below hb2 hlr; obtain ⟨fn, tmps, assign, body, hy, hR⟩ := hY _ ((k : Int), bitI dn b k) w2 (hJ _ wr w2 none hJs (below_grown hb2) (fun r e => by cases e)) (by rw [ups_length]; exact hlt); dsimp only [enc2] at hy)
        refine ⟨wide_d _, ?_⟩
        refine hR.mono ?_
        rintro e W3 (⟨rfl, hJ3, hk3⟩ | ⟨rfl, hJx3⟩)
        · gi_wp2
          go_roundw
          case rel => exact ⟨k + 1, by omega, by simp, by rw [ups_succ]; exact hJ3, hk3.whole hG2⟩
          case measure => simp [intOf]; omega
        · gi_wp2
          refine bodyPost_ret (results_none rfl _ _ _) rfl ?_
          exact ⟨⟨_, rfl⟩, .inr ⟨_, ⟨k + 1, by omega, (ups_succ _ _ _).symm⟩, hJx3⟩⟩
      · obtain rfl : k = dn := by omega
        gi_wp2
        go_end0
        exact ⟨⟨_, rfl⟩, .inl ⟨_, rfl, hJs⟩⟩
/-- The iterator yields all halves of a path, or some first ones; of one that may not be there are none. -/
theorem iter_stops (n g : Nat) (d b : Int) (w : World) (hG : Whole w g 23 #[.int .i64 d, .int .i64 b]) :
    SeqStopsK Fence.wide n Tryz.prog 97 #[.pointer (some ⟨g, 0, none⟩)] enc2 (KB g) (fun ys => ys = ups d b (cnt d b)) (fun pre => ∃ k, k ≤ cnt d b ∧ pre = ups d b k) (cnt d b) w := fun l J Jx W hW hJ _ hY h0 =>
  iter_in n l g d b J Jx hY W (hG.below hW hG.lt) hJ h0
end Go.Proofs.YthfhpejpjiaikaaGreat
namespace Go.Proofs.YthfhpejpjiaikaaGreat
open Go.RowKit
/-- The half i of the cell (x, y). -/
def atH (k x y : Int) (i : Nat) : Int := (if i % 2 = 0 then x else y) / 2 ^ (k - 1 - ((i / 2 : Nat) : Int)).toNat % 2
/-- The first m halves of the cell, as one number. -/
def atV (k x y : Int) : Nat → Int
  | 0 => 0
  | m + 1 => 2 * atV k x y m + atH k x y m
theorem atH_bd (k x y : Int) (i : Nat) : 0 ≤ atH k x y i ∧ atH k x y i ≤ 1 := by unfold atH; omega
end Go.Proofs.YthfhpejpjiaikaaGreat
namespace Go.Proofs.YthfhpejpjiaikaaGreat
open Go.RowKit
end Go.Proofs.YthfhpejpjiaikaaGreat
namespace Go.Proofs.YthfhpejpjiaikaaGreat
open Go.RowKit Go.Shelf
attribute [local go_sem] Oper.semAt_some
theorem whole_from {β : Type} {B b : Nat} {t : TypeId} (hb : b < B) (cs : β → Array Value) : OwnFrom B (fun (s : β) W => Whole W b t (cs s)) :=
  fun _ _ _ _ hs hg hr => (hg.block b hs.lt (fun e => by have := (hr b e.symm).1; omega)).trans hs
theorem keeps_set (B : Nat) (W : World) (a : Addr) (v : Value) : KeepsFrom B W (W.setCell a v) := (KeepsOthers.setCell W a v).from B
theorem KB.set {g : Nat} {A W : World} (h : KB g A W) {p : Addr} (hp : g ≠ p.block) (v : Value) : KB g A (W.setCell p v) := (Below.heap_setCell W p v g hp).trans h
theorem KB.below {g : Nat} {W W' : World} (h : Below W.heap.size W W') (hg : g < W.heap.size) : KB g W W' := h.block g hg
abbrev pA (d b : Int) : Array Value := #[.int .i64 d, .int .i64 b]
end Go.Proofs.YthfhpejpjiaikaaGreat
namespace Go.Proofs.YthfhpejpjiaikaaGreat
open Go.RowKit
end Go.Proofs.YthfhpejpjiaikaaGreat
namespace Go.Proofs.YthfhpejpjiaikaaGreat
open Go.RowKit Go.Shelf
attribute [local go_sem] Oper.semAt_some
/-- A half's digit. -/
def dig (h : Int) : UInt8 := UInt8.ofNat (wrap64 (48 + h) % 256).toNat
abbrev encD (x : Int × Int) : Value := .int .u8 ((dig x.2).toNat : Int)
/-- What lies between two rounds of Print. -/
structure PrI (w : World) (N : Nat) (d b : Int) (pre : List (Int × Int)) (W : World) : Prop where
  row : ∃ v, Boxed W (w.heap.size + 1) 134 v ∧ W.ownsRow N 5 1 v pre.length (pre.map encD) ∧ True
  path : Whole W (w.heap.size + 1 + 1) 23 (pA d b)
  bel : Below w.heap.size w W
theorem PrI.own (w : World) {N : Nat} (d b : Int) (hN : w.heap.size + 1 + 1 < N) : OwnFrom N (PrI w N d b) := fun pre W W' row hs hg hr =>
  ⟨(holdsRow_own N (w.heap.size + 1) 134 5 1 (fun pre : List (Int × Int) => pre.length) (fun pre => pre.map encD) (fun _ _ => True)).from N pre W W' row hs.row hg hr,
   whole_from (B := N) hN (fun _ : Unit => _) () W W' row hs.path hg hr, ownFrom_below (B := N) (Nat.le_refl _) (by omega) () W W' row hs.bel hg hr⟩
end Go.Proofs.YthfhpejpjiaikaaGreat
