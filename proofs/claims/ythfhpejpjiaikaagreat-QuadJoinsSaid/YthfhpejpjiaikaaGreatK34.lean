/- Words for bytes in memory: a slice that reads as bytes, and what the walks of the program's parts share. The plain arithmetic of the sum: one bit, four bits, a byte; nothing of the program. append onto a slice of bytes of the call's own: of a slice's bytes, nil or not, and of a text's. Numbers, lengths and frames as bytes: plain lists; nothing of the program. bytes.Clone, and the law's own Lent, Stays and num. wire.number: what stands first in bytes. What number answers, of a number's own bytes and of any: plain lists. A reader that Open handed out. Numbers and texts out of a reader. The document's own reader: what it holds, and its small functions. wire.Unframe. Readers of both kinds, by what is still to come and the error. gleberef07.cell, RightRec, RightOp, RightAns. glebelaw07's own Rec, Op, Ans, RefRec, RefOp, RefAns, num, long. QuadOrder: lists of records behind Puts and Dels, in whichever order. -/
import Derived.Test.YthfhpejpjiaikaaGreatK02
import Derived.Test.YthfhpejpjiaikaaGreatK04
import Derived.Test.YthfhpejpjiaikaaGreatK09
import Derived.Test.YthfhpejpjiaikaaGreatK11
import Derived.Test.YthfhpejpjiaikaaGreatK14
import Derived.Test.YthfhpejpjiaikaaGreatK25
import Derived.Test.YthfhpejpjiaikaaGreatK33
import Derived.Lib.SlBytesConst
import Derived.WalkMore
import Derived.ScopeJumps
import Derived.Deep.RegionHeld3
import Derived.Laws.IdiomStrings
import Derived.Lib.BufferRead
import Derived.Deep.QuietTactic
import Derived.BigQuiet
import Derived.Deep.Draws
import Derived.Laws.BitsLemmas
import Derived.Laws.Tables
import Derived.Laws.CopyOwn
import Derived.Deep.Upon
import Derived.Deep.AppendLies
import Derived.WalkKit
import Derived.Outline
import Derived.WalkSpells
import Derived.Lib.Hide
import Derived.Laws.BitsAllLaws
namespace Go.Proofs.YthfhpejpjiaikaaGreat
open Go.RowKit
/-- Bytes as cells. -/
def bv (l : List UInt8) : List Value := l.map fun c => .int .u8 (c.toNat : Int)
theorem bv_at {l : List UInt8} {i : Nat} (h : i < l.length) : (bv l)[i]? = some (.int .u8 (l[i].toNat : Int)) := by simp [bv, h]
/-- The slice whose address is A reads as these bytes, and lies below block B. -/
def Rd (w : World) (B : Nat) (A : Option Addr) (l : List UInt8) : Prop :=
  l = [] ∨ ∃ b off, A = some ⟨b, off, none⟩ ∧ b < B ∧ ∀ i, (h : i < l.length) → w.cell? ⟨b, off + i, none⟩ = some (.int .u8 (l[i].toNat : Int))
theorem Rd.keep {w w' : World} {B : Nat} {A : Option Addr} {l : List UInt8} (h : Rd w B A l) (hk : ∀ p : Addr, p.block < B → w'.cell? p = w.cell? p) : Rd w' B A l := by
  rcases h with h | ⟨b, off, hA, hb, hc⟩
  · exact .inl h
  · exact .inr ⟨b, off, hA, hb, fun i hi => (hk _ hb).trans (hc i hi)⟩
theorem Rd.more {w : World} {B B' : Nat} {A : Option Addr} {l : List UInt8} (h : Rd w B A l) (hB : B ≤ B') : Rd w B' A l := by
  rcases h with h | ⟨b, off, hA, hb, hc⟩
  · exact .inl h
  · exact .inr ⟨b, off, hA, by omega, hc⟩
theorem Rd.below {w w' : World} {B C : Nat} {A : Option Addr} {l : List UInt8} (h : Rd w B A l) (hb : Below C w w') (hC : B ≤ C) : Rd w' B A l := h.keep fun _ hp => hb.cell (by omega)
theorem Rd.at_ {w : World} {B : Nat} {A : Option Addr} {l : List UInt8} (h : Rd w B A l) {k : Nat} (hk : k < l.length) :
    ∃ b off, A = some ⟨b, off, none⟩ ∧ b < B ∧ ∀ i, (h : i < l.length) → w.cell? ⟨b, off + i, none⟩ = some (.int .u8 (l[i].toNat : Int)) := by
  rcases h with rfl | h
  · simp at hk
  · exact h
end Go.Proofs.YthfhpejpjiaikaaGreat
namespace Go.Proofs.YthfhpejpjiaikaaGreat.Crc
/-- The polynomial's bits. -/
def poly : Nat := 3988292384
/-- One bit goes through the register. -/
def step (c : Nat) : Nat := if c % 2 = 1 then (c / 2) ^^^ poly else c / 2
end Go.Proofs.YthfhpejpjiaikaaGreat.Crc
namespace Go.Proofs.YthfhpejpjiaikaaGreat
open Go.RowKit
section
variable {P : Program} (w : World)
end
/-- v is a slice of the call's own that holds these bytes. -/
def Own (w : World) (base : Nat) (v : Value) (l : List UInt8) : Prop := w.ownsRow base 5 1 v l.length (bv l)
theorem Own.nil (w : World) (base : Nat) : Own w base (.slice none 0 0) [] := World.ownsRow_nil _ _ _ _
theorem Own.alloc {w : World} {base : Nat} {v : Value} {l : List UInt8} (h : Own w base v l) (o : Obj) : Own (w.alloc o) base v l := World.ownsRow.alloc h o
theorem Own.kept {w w' : World} {base B : Nat} {v : Value} {l : List UInt8} (h : Own w base v l) (hb : Below B w w') (hB : ∀ k, v.ownBlock = some k → k < B) : Own w' base v l := by
  refine ⟨h.1, ?_⟩
  rcases h.2 with hn | ⟨g, cap, cur, rfl, h1, hg, rest⟩
  · exact .inl hn
  · exact .inr ⟨g, cap, cur, rfl, h1, (hb.block g (hB g rfl)).trans hg, rest⟩
theorem Own.below {w w' : World} {base : Nat} {v : Value} {l : List UInt8} (h : Own w base v l) (hb : Below w.heap.size w w') : Own w' base v l := h.kept hb fun k hk => (h.lt k hk).2
/-- What is owned reads as its bytes. -/
theorem Own.form {w : World} {base : Nat} {v : Value} {l : List UInt8} (h : Own w base v l) :
    ∃ A cap, v = .slice A l.length cap ∧ l.length ≤ cap ∧ cap ≤ maxLen ∧ Rd w w.heap.size A l := by
  rcases h.2 with ⟨rfl, hn⟩ | ⟨g, cap, cur, rfl, hb, hg, h1, h2, h3, h4⟩
  · have : l = [] := List.eq_nil_of_length_eq_zero hn
    subst this
    exact ⟨none, 0, rfl, Nat.le_refl _, Nat.zero_le _, .inl rfl⟩
  · refine ⟨some ⟨g, 0, none⟩, cap, rfl, h1, h2, .inr ⟨g, 0, rfl, (Array.getElem?_eq_some_iff.1 hg).1, fun i hi => ?_⟩⟩
    have hc := World.ownsRow.cellAt h i (by omega)
    rw [bv_at hi] at hc
    simpa using hc
/-- A slice of the call's own, its parts by name. -/
structure Has (w : World) (base : Nat) (A : Option Addr) (n c : Nat) (l : List UInt8) : Prop where
  own : Own w base (.slice A n c) l
  len : l.length = n
  cap : n ≤ c
  rd : Rd w w.heap.size A l
theorem Own.has {w : World} {base : Nat} {v : Value} {l : List UInt8} (h : Own w base v l) : ∃ A n c, v = .slice A n c ∧ Has w base A n c l := by
  obtain ⟨A, c, rfl, h1, _, h3⟩ := h.form
  exact ⟨A, l.length, c, rfl, h, rfl, h1, h3⟩
theorem Has.nil (w : World) (base : Nat) : Has w base none 0 0 [] := ⟨Own.nil _ _, rfl, Nat.le_refl _, .inl rfl⟩
theorem Has.below {w w' : World} {base : Nat} {A : Option Addr} {n c : Nat} {l : List UInt8} (h : Has w base A n c l) (hb : Below w.heap.size w w') : Has w' base A n c l :=
  ⟨h.own.below hb, h.len, h.cap, (h.rd.below hb (Nat.le_refl _)).more hb.size⟩
theorem Has.drewN {w : World} {base : Nat} {A : Option Addr} {n c : Nat} {l : List UInt8} (h : Has w base A n c l) (k : Nat) : Has (w.drewN k) base A n c l := ⟨h.own, h.len, h.cap, h.rd⟩
theorem Has.alloc {w : World} {base : Nat} {A : Option Addr} {n c : Nat} {l : List UInt8} (h : Has w base A n c l) (o : Obj) : Has (w.alloc o) base A n c l := h.below ((Below.refl _ _).alloc (Nat.le_refl _) o)
end Go.Proofs.YthfhpejpjiaikaaGreat
namespace Go.Proofs.YthfhpejpjiaikaaGreat
/-- What stands in bytes, the lowest first. -/
def unfix : List UInt8 → Nat
  | [] => 0
  | b :: l => b.toNat + 256 * unfix l
/-- How many bytes of content a frame's head tells. -/
def sz (l : List UInt8) : Nat := unfix ((l.drop 2).take 3)
end Go.Proofs.YthfhpejpjiaikaaGreat
namespace Go.Proofs.YthfhpejpjiaikaaGreat
open Go.RowKit
/-- The first bytes. -/
theorem Rd.pre {w : World} {B : Nat} {A : Option Addr} {l m : List UInt8} (h : Rd w B A (l ++ m)) : Rd w B A l := by
  rcases h with h | ⟨b, off, h1, h2, h3⟩
  · exact .inl (List.append_eq_nil_iff.1 h).1
  · refine .inr ⟨b, off, h1, h2, fun i hi => ?_⟩
    have := h3 i (by simp; omega)
    rwa [List.getElem_append_left hi] at this
end Go.Proofs.YthfhpejpjiaikaaGreat
namespace Go.Proofs.YthfhpejpjiaikaaGreat
open Go.RowKit
/-- What number answers, from the group i on, where n has been read: the number, its bytes, the error. -/
def dec (most : Nat) : Nat → Nat → List UInt8 → Nat × Nat × Int
  | _, _, [] => (0, 0, 20)
  | i, n, c :: r =>
    if most < n + c.toNat % 128 * 128 ^ i then (0, 0, 21)
    else if 0 < i ∧ c.toNat = 0 then (0, 0, 21)
    else if i = 7 ∧ 128 ≤ c.toNat then (0, 0, 21)
    else if c.toNat < 128 then (n + c.toNat % 128 * 128 ^ i, i + 1, 0)
    else dec most (i + 1) (n + c.toNat % 128 * 128 ^ i) r
end Go.Proofs.YthfhpejpjiaikaaGreat
namespace Go.Proofs.YthfhpejpjiaikaaGreat
/-- What Upto answers: the number, its bytes, the error. -/
def up (most : Int) (l : List UInt8) : Nat × Nat × Int :=
  if (dec 9007199254740992 0 0 l).2.2 = 0 ∧ most < ((dec 9007199254740992 0 0 l).1 : Int) then (0, 0, 21) else dec 9007199254740992 0 0 l
/-- What Text answers: the text, how many bytes have gone, the error. -/
def tx (most : Int) (l : List UInt8) : List UInt8 × Nat × Int :=
  if (up most l).2.2 = 0 then
    (if l.length < (up most l).2.1 + (up most l).1 then ([], (up most l).2.1, 20) else ((l.drop (up most l).2.1).take (up most l).1, (up most l).2.1 + (up most l).1, 0))
  else ([], 0, (up most l).2.2)
end Go.Proofs.YthfhpejpjiaikaaGreat
namespace Go.Proofs.YthfhpejpjiaikaaGreat
open Go.RowKit
/-- Only the block g has changed. -/
structure Only (g : Nat) (w w' : World) : Prop where
  os : w'.os = w.os
  tape : w'.tape = w.tape
  output : w'.output = w.output
  size : w'.heap.size = w.heap.size
  block : ∀ k, k ≠ g → w'.heap[k]? = w.heap[k]?
theorem Only.refl (g : Nat) (w : World) : Only g w w := ⟨rfl, rfl, rfl, rfl, fun _ _ => rfl⟩
theorem Only.trans {g : Nat} {a b c : World} (h : Only g a b) (k : Only g b c) : Only g a c :=
  ⟨k.os.trans h.os, k.tape.trans h.tape, k.output.trans h.output, k.size.trans h.size, fun i hi => (k.block i hi).trans (h.block i hi)⟩
theorem Only.set_ (g i : Nat) (w : World) (u : Value) : Only g w (w.setCell ⟨g, i, none⟩ u) :=
  ⟨rfl, rfl, rfl, by simp [World.setCell], fun k hk => Below.heap_setCell w ⟨g, i, none⟩ u k hk⟩
theorem Only.drew {g : Nat} {a w : World} (h : Only g a w) : Only g a w.drew := ⟨h.os, h.tape, h.output, h.size, h.block⟩
theorem Only.below {g B : Nat} {w w' : World} (h : Only g w w') (hg : B ≤ g) : Below B w w' :=
  ⟨h.os, h.tape, h.output, Nat.le_of_eq h.size.symm, fun k hk => h.block k (by omega)⟩
theorem Only.cell {g : Nat} {w w' : World} (h : Only g w w') {p : Addr} (hp : p.block ≠ g) : w'.cell? p = w.cell? p := by
  have := h.block p.block hp
  unfold World.cell?
  rw [this]
section
variable {w : World} {base g : Nat} {A : Option Addr} {n c : Nat} {l : List UInt8} {e : Int}
end
end Go.Proofs.YthfhpejpjiaikaaGreat
namespace Go.Proofs.YthfhpejpjiaikaaGreat
open Go.RowKit
theorem Rd.drop {w : World} {B b off : Nat} {l : List UInt8} (h : Rd w B (some ⟨b, off, none⟩) l) (k : Nat) : Rd w B (some ⟨b, off + k, none⟩) (l.drop k) := by
  rcases h with rfl | ⟨b', off', he, hb, hc⟩
  · exact .inl (by simp)
  · injection he with he
    injection he with e1 e2
    subst e1; subst e2
    refine .inr ⟨b, off + k, rfl, hb, fun i hi => ?_⟩
    rw [List.length_drop] at hi
    rw [Nat.add_assoc, hc (k + i) (by omega)]
    simp
theorem Rd.take {w : World} {B : Nat} {A : Option Addr} {l : List UInt8} (h : Rd w B A l) (k : Nat) : Rd w B A (l.take k) := by
  rw [← List.take_append_drop k l] at h
  exact h.pre
section
variable {w : World} {base g : Nat} {A : Option Addr} {n c : Nat} {l : List UInt8} {e : Int}
end
end Go.Proofs.YthfhpejpjiaikaaGreat
namespace Go.Proofs.YthfhpejpjiaikaaGreat
open Go.RowKit
theorem Only.drewN {g : Nat} {a w : World} (h : Only g a w) (m : Nat) : Only g a (w.drewN m) := ⟨h.os, h.tape, h.output, h.size, h.block⟩
section
variable {w w' : World} {B q : Nat} {A : Option Addr} {n c : Nat} {b : List UInt8} {k : Nat} {e : Int}
end
end Go.Proofs.YthfhpejpjiaikaaGreat
namespace Go.Proofs.YthfhpejpjiaikaaGreat
open Go.RowKit
/-- A cut of what reads as bytes. -/
theorem Rd.cut {w : World} {B b off : Nat} {l : List UInt8} (h : ∀ i, (h : i < l.length) → w.cell? ⟨b, off + i, none⟩ = some (.int .u8 (l[i].toNat : Int))) (hb : b < B) (i j : Nat) : Rd w B (some ⟨b, off + i, none⟩) ((l.drop i).take j) := by
  refine .inr ⟨b, off + i, rfl, hb, fun k hk => ?_⟩
  have hk2 : i + k < l.length := by
    have := hk
    rw [List.length_take, List.length_drop] at this
    omega
  have := h (i + k) hk2
  rw [Nat.add_assoc, this]
  simp
section
variable (b off n c : Nat) (l : List UInt8) (w : World) (hcell : ∀ i, (h : i < l.length) → w.cell? ⟨b, off + i, none⟩ = some (.int .u8 (l[i].toNat : Int))) (hb : b < w.heap.size) (hn : l.length = n) (hc : n ≤ c) (h5 : 5 ≤ n) (hl : n ≤ 1000000)
include hcell hb hn hc h5 hl
end
end Go.Proofs.YthfhpejpjiaikaaGreat
namespace Go.Proofs.YthfhpejpjiaikaaGreat
open Go.RowKit
set_option linter.unusedVariables false
/-- What is still to come, and the error. -/
abbrev RSt := List UInt8 × Int
section
variable {F : Nat → Prop} {w w' : World} {base g B q n c : Nat} {A : Option Addr} {b : List UInt8} {s s1 : RSt}
theorem Only.off (h : Only g w w') : Off (fun b => b = g) w w' := ⟨h.os, h.tape, h.output, Nat.le_of_eq h.size.symm, fun b _ hb => h.block b hb⟩
theorem Off.cellAt (h : Off F w w') {p : Addr} (hp : p.block < w.heap.size) (hf : ¬ F p.block) : w'.cell? p = w.cell? p := by
  have := h.block p.block hp hf
  unfold World.cell?
  rw [this]
end
end Go.Proofs.YthfhpejpjiaikaaGreat
namespace Go.Proofs.YthfhpejpjiaikaaGreat
open Go.RowKit
set_option linter.unusedVariables false
theorem refCell_at {x y : Int} {r : Bool} (h : hasB 16 x y = r) (w : World) : Calls Tryz.prog 71 #[.agg #[.int .i64 x, .int .i64 y]] w fun e w' => e = .returned (.bool r) ∧ Below w.heap.size w w' := by
  have hi := hasB_iff 16 x y
  rw [side16, h] at hi
  have hbx : Below w.heap.size w (w.alloc (.cells #[.int .i64 x, .int .i64 y] 50)) := (Since.refl w).alloc _
  by_cases g16 : 0 ≤ x
  · by_cases g17 : x < 65536
    · by_cases g18 : 0 ≤ y
      · by_cases g19 : y < 65536
        · obtain rfl : r = true := hi.2 ⟨by omega, by omega, by omega, by omega⟩
          clear hi h
          go_enter Tryz.func71, Tryz.ntmps71
          go_wp2
          go_ret
          exact ⟨rfl, hbx⟩
        · obtain rfl : r = false := by cases r with | false => rfl | true => exact absurd (hi.1 rfl) (by omega)
          clear hi h
          go_enter Tryz.func71, Tryz.ntmps71
          go_wp2
          go_ret
          exact ⟨rfl, hbx⟩
      · obtain rfl : r = false := by cases r with | false => rfl | true => exact absurd (hi.1 rfl) (by omega)
        clear hi h
        go_enter Tryz.func71, Tryz.ntmps71
        go_wp2
        go_ret
        exact ⟨rfl, hbx⟩
    · obtain rfl : r = false := by cases r with | false => rfl | true => exact absurd (hi.1 rfl) (by omega)
      clear hi h
      go_enter Tryz.func71, Tryz.ntmps71
      go_wp2
      go_ret
      exact ⟨rfl, hbx⟩
  · obtain rfl : r = false := by cases r with | false => rfl | true => exact absurd (hi.1 rfl) (by omega)
    clear hi h
    go_enter Tryz.func71, Tryz.ntmps71
    go_wp2
    go_ret
    exact ⟨rfl, hbx⟩
set_option maxRecDepth 100000 in
set_option maxHeartbeats 3200000 in
theorem refRightRec_at {x y : Int} {key val : ByteArray} {ver : Int} {r : Bool} (h : recB x y key val ver = r) (w : World) :
    Calls Tryz.prog 40 #[.agg #[.int .i64 x, .int .i64 y, .string key, .string val, .int .i64 ver]] w fun e w' => e = .returned (.bool r) ∧ Below w.heap.size w w' := by
  obtain ⟨w0, hw0⟩ : ∃ w0, w0 = w.alloc (.cells #[.int .i64 x, .int .i64 y, .string key, .string val, .int .i64 ver] 52) := ⟨_, rfl⟩
  have hs0 : Since w w0 := by rw [hw0]; exact (Since.refl w).alloc _
  have wh0 : Whole w0 (w.heap.size) 52 #[.int .i64 x, .int .i64 y, .string key, .string val, .int .i64 ver] := by rw [hw0]; exact Whole.new w _ _
  have HW := Lib.hid hw0
  have c0_0 := box_cell wh0 0 (.int .i64 x) rfl
  have c0_1 := box_cell wh0 1 (.int .i64 y) rfl
  have c0_2 := box_cell wh0 2 (.string key) rfl
  have c0_3 := box_cell wh0 3 (.string val) rfl
  have c0_4 := box_cell wh0 4 (.int .i64 ver) rfl
  have hsr := Since.refl w0
  have hsd := hsr.drew
  clear hw0 wh0
  cases hc : (hasB 16 x y) with
  | false =>
    obtain rfl : r = false := by rw [← h]; simp only [recB, keyB, valB, bet]; simp [*]
    clear h
    go_enter Tryz.func40, Tryz.ntmps40
    go_wp2_with fail
    rw [← HW.out]
    go_wp2_with (first | (go_at_call 71; (with_reducible refine (Calls.since (by assumption) (refCell_at (by assumption) _)).mono ?_); rintro e w1 ⟨rfl, hb1⟩) | fail)
    go_ret
    exact ⟨by first | rfl | simp [*], hs0.trans (by assumption)⟩
  | true =>
    by_cases g15 : 1 ≤ (key.size : Int)
    · by_cases g16 : (key.size : Int) ≤ 16
      · by_cases g17 : (val.size : Int) ≤ 32
        · by_cases g18 : 1 ≤ ver
          · by_cases g19 : ver ≤ 1099511627776
            · obtain rfl : r = true := by rw [← h]; simp only [recB, keyB, valB, bet]; simp [*]
              clear h
              go_enter Tryz.func40, Tryz.ntmps40
              go_wp2_with fail
              rw [← HW.out]
              go_wp2_with (first | (go_at_call 71; (with_reducible refine (Calls.since (by assumption) (refCell_at (by assumption) _)).mono ?_); rintro e w1 ⟨rfl, hb1⟩) | fail)
              go_ret
              exact ⟨by first | rfl | simp [*], hs0.trans (by assumption)⟩
            · obtain rfl : r = false := by rw [← h]; simp only [recB, keyB, valB, bet]; simp [*]
              clear h
              go_enter Tryz.func40, Tryz.ntmps40
              go_wp2_with fail
              rw [← HW.out]
              go_wp2_with (first | (go_at_call 71; (with_reducible refine (Calls.since (by assumption) (refCell_at (by assumption) _)).mono ?_); rintro e w1 ⟨rfl, hb1⟩) | fail)
              go_ret
              exact ⟨by first | rfl | simp [*], hs0.trans (by assumption)⟩
          · obtain rfl : r = false := by rw [← h]; simp only [recB, keyB, valB, bet]; simp [*]
            clear h
            go_enter Tryz.func40, Tryz.ntmps40
            go_wp2_with fail
            rw [← HW.out]
            go_wp2_with (first | (go_at_call 71; (with_reducible refine (Calls.since (by assumption) (refCell_at (by assumption) _)).mono ?_); rintro e w1 ⟨rfl, hb1⟩) | fail)
            go_ret
            exact ⟨by first | rfl | simp [*], hs0.trans (by assumption)⟩
        · obtain rfl : r = false := by rw [← h]; simp only [recB, keyB, valB, bet]; simp [*]
          clear h
          go_enter Tryz.func40, Tryz.ntmps40
          go_wp2_with fail
          rw [← HW.out]
          go_wp2_with (first | (go_at_call 71; (with_reducible refine (Calls.since (by assumption) (refCell_at (by assumption) _)).mono ?_); rintro e w1 ⟨rfl, hb1⟩) | fail)
          go_ret
          exact ⟨by first | rfl | simp [*], hs0.trans (by assumption)⟩
      · obtain rfl : r = false := by rw [← h]; simp only [recB, keyB, valB, bet]; simp [*]
        clear h
        go_enter Tryz.func40, Tryz.ntmps40
        go_wp2_with fail
        rw [← HW.out]
        go_wp2_with (first | (go_at_call 71; (with_reducible refine (Calls.since (by assumption) (refCell_at (by assumption) _)).mono ?_); rintro e w1 ⟨rfl, hb1⟩) | fail)
        go_ret
        exact ⟨by first | rfl | simp [*], hs0.trans (by assumption)⟩
    · obtain rfl : r = false := by rw [← h]; simp only [recB, keyB, valB, bet]; simp [*]
      clear h
      go_enter Tryz.func40, Tryz.ntmps40
      go_wp2_with fail
      rw [← HW.out]
      go_wp2_with (first | (go_at_call 71; (with_reducible refine (Calls.since (by assumption) (refCell_at (by assumption) _)).mono ?_); rintro e w1 ⟨rfl, hb1⟩) | fail)
      go_ret
      exact ⟨by first | rfl | simp [*], hs0.trans (by assumption)⟩
end Go.Proofs.YthfhpejpjiaikaaGreat
namespace Go.Proofs.YthfhpejpjiaikaaGreat
open Go.RowKit
set_option linter.unusedVariables false
theorem lawRefRec_any (x : Int) (y : Int) (key : ByteArray) (val : ByteArray) (ver : Int) (w : World) : Calls Tryz.prog 67 #[.agg #[.int .i64 x, .int .i64 y, .string key, .string val, .int .i64 ver]] w fun e w' => e = .returned (.agg #[.int .i64 x, .int .i64 y, .string key, .string val, .int .i64 ver]) ∧ Below w.heap.size w w' := by
  go_enter Tryz.func67, Tryz.ntmps67
  go_wp2
  exact bodyPost_ret (results_cell_row rfl _ _ (w.heap.size + 1) 52 _ (0, 0) _ rfl ((Whole.new (w.alloc _) _ _).at_ (by simp)) Tryz.underlying52 rfl (by kernel_rfl)) rfl ⟨rfl, ((Since.refl w).alloc _).alloc _⟩
end Go.Proofs.YthfhpejpjiaikaaGreat
namespace Go.Proofs.YthfhpejpjiaikaaGreat
open Go.RowKit
set_option linter.unusedVariables false
theorem sortQ_nil : SortQ [] := List.Pairwise.nil
theorem ListE.lent {α : Type} {enc : α → List Value} {n B : Nat} {W : World} {v : Value} {l : List α} (h : ListE enc n B W v l) : LentE enc n B W v l := by
  rcases h with ⟨rfl, rfl⟩ | ⟨g, cap, rfl, hlt, hc⟩
  · exact ⟨none, 0, rfl, .inl rfl⟩
  · exact ⟨_, cap, rfl, .inr ⟨g, 0, rfl, hlt, fun i hi j u hu => by rw [Nat.zero_add]; exact hc i hi j u hu⟩⟩
theorem ListE.root {α : Type} {enc : α → List Value} {n B : Nat} {W : World} {a : Option Addr} {len cap : Nat} {l : List α} (h : ListE enc n B W (.slice a len cap) l) {i : Nat} (hi : i < l.length) : ∃ g, a = some ⟨g, 0, none⟩ ∧ g < B := by
  rcases h with ⟨rfl, _⟩ | ⟨g, c, e, hlt, _⟩
  · exact absurd hi (Nat.not_lt_zero i)
  · injection e with e1
    exact ⟨g, e1, hlt⟩
/-- Two trees of one zone, apart from each other; F1, F2: where their blocks lie. -/
def TwoT (F1 F2 : Nat → Prop) (g g2 : Nat) (k d b : Int) (T U : List Rq) (W : World) : Prop :=
  ∃ q q2, TreeO g q k d b T W ∧ TreeO g2 q2 k d b U W ∧ (∀ c ∈ g :: q.bl, F1 c) ∧ (∀ c ∈ g2 :: q2.bl, F2 c) ∧ ∀ c ∈ g :: q.bl, c ∉ g2 :: q2.bl
section
variable {F1 F2 : Nat → Prop} {g g2 : Nat} {k d b : Int} {T U : List Rq} {W W' : World}
theorem TwoT.since (h : TwoT F1 F2 g g2 k d b T U W) (hs : Since W W') : TwoT F1 F2 g g2 k d b T U W' := by
  obtain ⟨q, q2, h1, h2, h3⟩ := h
  exact ⟨q, q2, h1.since hs, h2.since hs, h3⟩
theorem TwoT.mono {G1 G2 : Nat → Prop} (h : TwoT F1 F2 g g2 k d b T U W) (n1 : ∀ c, F1 c → G1 c) (n2 : ∀ c, F2 c → G2 c) : TwoT G1 G2 g g2 k d b T U W := by
  obtain ⟨q, q2, h1, h2, h3, h4, h5⟩ := h
  exact ⟨q, q2, h1, h2, fun c hc => n1 c (h3 c hc), fun c hc => n2 c (h4 c hc), h5⟩
theorem TwoT.off {F : Nat → Prop} (h : TwoT F1 F2 g g2 k d b T U W) (ho : Off F W W') (n1 : ∀ c, F c → ¬ F1 c) (n2 : ∀ c, F c → ¬ F2 c) : TwoT F1 F2 g g2 k d b T U W' := by
  obtain ⟨q, q2, h1, h2, h3, h4, h5⟩ := h
  exact ⟨q, q2, h1.keep (fun c hc => ho.block c (h1.lt c hc) (fun z => n1 c z (h3 c hc))), h2.keep (fun c hc => ho.block c (h2.lt c hc) (fun z => n2 c z (h4 c hc))), h3, h4, h5⟩
end
end Go.Proofs.YthfhpejpjiaikaaGreat
