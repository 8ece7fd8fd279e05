/- The document's own reader: what it holds, and its small functions. -/
import Derived.Test.YtbgfjkgpekkciaaK10
namespace Go.Proofs.Ytbgfjkgpekkciaa
open Go.RowKit
/-- The block q holds the document's reader: these bytes, this place, this error. -/
structure RRd (w : World) (B q : Nat) (A : Option Addr) (n c : Nat) (b : List UInt8) (k : Nat) (e : Int) : Prop where
  whole : Whole w q 37 #[.slice A n c, .int .i64 (k : Int), .int .i64 e]
  rd : Rd w B A b
  len : b.length = n
  cap : n ≤ c
  le : k ≤ n
  lie : B ≤ q
theorem Only.drewN {g : Nat} {a w : World} (h : Only g a w) (m : Nat) : Only g a (w.drewN m) := ⟨h.os, h.tape, h.output, h.size, h.block⟩
theorem Rdr.drewN {w : World} {base g : Nat} {A : Option Addr} {n c : Nat} {l : List UInt8} {e : Int} (h : Rdr w base g A n c l e) (m : Nat) : Rdr (w.drewN m) base g A n c l e := ⟨h.whole, h.rd, h.len, h.cap, h.lie, h.form⟩
section
variable {w w' : World} {B q : Nat} {A : Option Addr} {n c : Nat} {b : List UInt8} {k : Nat} {e : Int}
theorem RRd.drewN (h : RRd w B q A n c b k e) (m : Nat) : RRd (w.drewN m) B q A n c b k e := ⟨h.whole, h.rd, h.len, h.cap, h.le, h.lie⟩
theorem RRd.fail (h : RRd w B q A n c b k e) (x : Int) : RRd (w.setCell ⟨q, 2, none⟩ (.int .i64 x)) B q A n c b k x :=
  ⟨h.whole.set_ 2 _, h.rd.keep fun p hp => World.cell?_setCell_other w _ _ _ (fun e => by subst e; exact absurd (Nat.lt_of_lt_of_le hp h.lie) (Nat.lt_irrefl _)), h.len, h.cap, h.le, h.lie⟩
theorem RRd.go (h : RRd w B q A n c b k e) (j : Nat) (hj : j ≤ n) : RRd (w.setCell ⟨q, 1, none⟩ (.int .i64 (j : Int))) B q A n c b j e :=
  ⟨h.whole.set_ 1 _, h.rd.keep fun p hp => World.cell?_setCell_other w _ _ _ (fun e => by subst e; exact absurd (Nat.lt_of_lt_of_le hp h.lie) (Nat.lt_irrefl _)), h.len, h.cap, hj, h.lie⟩
theorem RRd.c0 (h : RRd w B q A n c b k e) : w.cell? ⟨q, 0, none⟩ = some (.slice A n c) := h.whole.cell 0
theorem RRd.c1 (h : RRd w B q A n c b k e) : w.cell? ⟨q, 1, none⟩ = some (.int .i64 (k : Int)) := h.whole.cell 1
theorem RRd.c2 (h : RRd w B q A n c b k e) : w.cell? ⟨q, 2, none⟩ = some (.int .i64 e) := h.whole.cell 2
theorem ropen_any (A : Option Addr) (n c B : Nat) (b : List UInt8) (w : World) (h : Rd w B A b) (hB : B ≤ w.heap.size) (hn : b.length = n) (hc : n ≤ c) :
    Calls Try.prog 9 #[.slice A n c] w fun e w' => e = .returned (.pointer (some ⟨w.heap.size, 0, none⟩)) ∧ RRd w' B w.heap.size A n c b 0 0 ∧ Below w.heap.size w w' := by
  have HH := Lib.hid h
  clear h
  go_enter Try.func9, Try.ntmps9
  go_wp2
  go_ret
  exact ⟨rfl, ⟨Whole.new _ _ _, HH.out.keep fun p hp => World.cell?_alloc_lt w _ p (by omega), hn, hc, Nat.zero_le _, hB⟩, (Below.refl _ w).alloc (Nat.le_refl _) _⟩
theorem rfail_good (h : RRd w B q A n c b k 0) (x : Int) : Calls Try.prog 44 #[.pointer (some ⟨q, 0, none⟩), .int .i64 x] w fun e w' => e = .returned (.tuple #[]) ∧ w' = w.setCell ⟨q, 2, none⟩ (.int .i64 x) := by
  have c2 := h.c2
  have f2 : w.frozen? ⟨q, 2, none⟩ = false := h.whole.frozen 2
  clear h
  go_enter Try.func44, Try.ntmps44
  go_wp2
  go_end0
  exact ⟨rfl, rfl⟩
theorem rfail_dead (h : RRd w B q A n c b k e) (he : e ≠ 0) (x : Int) : Calls Try.prog 44 #[.pointer (some ⟨q, 0, none⟩), .int .i64 x] w fun e w' => e = .returned (.tuple #[]) ∧ w = w' := by
  have c2 := h.c2
  have hb : (e == 0) = false := by rw [beq_eq_false_iff_ne]; exact he
  clear h he
  go_enter Try.func44, Try.ntmps44
  go_wp2
  go_end0
  exact ⟨rfl, rfl⟩
/-- Left: what is still to come, 0 behind an error. -/
def leftOf (m : Nat) (e : Int) : Int := if e = 0 then (m : Int) else 0
set_option maxRecDepth 100000 in
theorem rleft_any (h : RRd w B q A n c b k e) (hn : n ≤ 1000000) : Calls Try.prog 15 #[.pointer (some ⟨q, 0, none⟩)] w fun x w' => x = .returned (.int .i64 (leftOf (n - k) e)) ∧ ∃ m, w' = w.drewN m := by
  have c0 := h.c0
  have c1 := h.c1
  have c2 := h.c2
  have hk := h.le
  unfold leftOf
  clear h
  by_cases he : e = 0
  · rw [if_pos he]
    subst he
    have e1 : IntKind.i64.wrap ((n : Int) - (k : Int)) = ((n - k : Nat) : Int) := by rw [IntWalk.i64_in _ (by omega)]; omega
    obtain ⟨d, hd⟩ : ∃ d, d = n - k := ⟨_, rfl⟩
    rw [← hd] at e1 ⊢
    clear hd hk
    go_enter Try.func15, Try.ntmps15
    go_wp2
    go_quiet (fail)
    go_wp2
    go_ret
    exact ⟨rfl, _, rfl⟩
  · rw [if_neg he]
    have hb : (e != 0) = true := by rw [bne_iff_ne]; exact he
    clear he hk
    go_enter Try.func15, Try.ntmps15
    go_wp2
    go_ret
    exact ⟨rfl, 0, rfl⟩
end
end Go.Proofs.Ytbgfjkgpekkciaa
