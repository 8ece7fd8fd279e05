/- A reader that Open handed out. -/
import Derived.Test.YtggcdbanmgpnaaaDec
namespace Go.Proofs.Ytggcdbanmgpnaaa
open Go.RowKit
/-- The block g holds a reader that has these bytes still to come, and this error. -/
structure Rdr (w : World) (base g : Nat) (A : Option Addr) (n c : Nat) (l : List UInt8) (e : Int) : Prop where
  whole : Whole w g 57 #[.bool true, .slice A n c, .int .i64 e]
  rd : Rd w g A l
  len : l.length = n
  cap : n ≤ c
  lie : base ≤ g
  form : (A = none ∧ n = 0 ∧ c = 0) ∨ ∃ b off, A = some ⟨b, off, none⟩
theorem Rdr.below {w w' : World} {base g : Nat} {A : Option Addr} {n c : Nat} {l : List UInt8} {e : Int} (h : Rdr w base g A n c l e) (hb : Below w.heap.size w w') : Rdr w' base g A n c l e :=
  ⟨h.whole.below hb h.whole.lt, h.rd.keep fun _ hp => hb.cell (by have := h.whole.lt; omega), h.len, h.cap, h.lie, h.form⟩
theorem open_any (A : Option Addr) (n c : Nat) (l : List UInt8) (w : World) (h : Rd w w.heap.size A l) (hn : l.length = n) (hl : n ≤ 1000000000) :
    Calls Try.prog 24 #[.slice A n c] w fun e w' => ∃ g A' n' c', e = .returned (.pointer (some ⟨g, 0, none⟩)) ∧ Rdr w' w.heap.size g A' n' c' l 0 ∧ Below w.heap.size w w' := by
  go_enter Try.func24, Try.ntmps24
  go_wp2_with fail
  refine (clone_any A n c l w h hn hl).mono ?_
  rintro e w1 ⟨A1, n1, c1, rfl, h1, hb1⟩
  have hs1 := hb1.size
  go_wp2_with fail
  go_ret
  refine ⟨_, A1, n1, c1, rfl, ⟨Whole.new _ _ _, ?_, h1.len, h1.cap, hs1, ?_⟩, hb1.alloc hs1 _⟩
  · exact h1.rd.keep fun p hp => World.cell?_alloc_lt w1 _ p hp
  · rcases h1.own.2 with ⟨h, _⟩ | ⟨g, cap, cur, h, _⟩
    · injection h with e1 e2 e3
      exact .inl ⟨e1, e2, e3⟩
    · injection h with e1 e2 e3
      exact .inr ⟨g, 0, e1⟩
section
variable {w : World} {base g : Nat} {A : Option Addr} {n c : Nat} {l : List UInt8} {e : Int}
theorem made_err (h : Rdr w base g A n c l e) : Calls Try.prog 29 #[.pointer (some ⟨g, 0, none⟩)] w fun x w' => x = .returned (.int .i64 e) ∧ w = w' := by
  have c0 : w.cell? ⟨g, 0, none⟩ = some (.bool true) := h.whole.cell 0
  have c2 : w.cell? ⟨g, 2, none⟩ = some (.int .i64 e) := h.whole.cell 2
  clear h
  go_enter Try.func29, Try.ntmps29
  go_wp2
  go_ret
  exact ⟨rfl, rfl⟩
theorem Rdr.fail (h : Rdr w base g A n c l e) (k : Int) : Rdr (w.setCell ⟨g, 2, none⟩ (.int .i64 k)) base g A n c l k :=
  ⟨h.whole.set_ 2 _, h.rd.keep fun p hp => World.cell?_setCell_other w _ _ _ (fun e => by subst e; exact absurd hp (Nat.lt_irrefl _)), h.len, h.cap, h.lie, h.form⟩
theorem made_fail (h : Rdr w base g A n c l 0) (k : Int) : Calls Try.prog 30 #[.pointer (some ⟨g, 0, none⟩), .int .i64 k] w fun x w' => x = .returned (.tuple #[]) ∧ w' = w.setCell ⟨g, 2, none⟩ (.int .i64 k) := by
  have c2 : w.cell? ⟨g, 2, none⟩ = some (.int .i64 0) := h.whole.cell 2
  have f2 : w.frozen? ⟨g, 2, none⟩ = false := h.whole.frozen 2
  go_enter Try.func30, Try.ntmps30
  go_wp2_with (go_at_call 29; (with_reducible refine (made_err h).mono ?_); rintro e w' ⟨rfl, rfl⟩)
  go_end0
  exact ⟨rfl, rfl⟩
theorem made_left (h : Rdr w base g A n c l e) : Calls Try.prog 28 #[.pointer (some ⟨g, 0, none⟩)] w fun x w' => x = .returned (.int .i64 (if e = 0 then (n : Int) else 0)) ∧ w = w' := by
  have c1 : w.cell? ⟨g, 1, none⟩ = some (.slice A n c) := h.whole.cell 1
  by_cases he : e = 0
  · rw [if_pos he]
    subst he
    go_enter Try.func28, Try.ntmps28
    go_wp2_with (go_at_call 29; (with_reducible refine (made_err h).mono ?_); rintro e w' ⟨rfl, rfl⟩)
    go_ret
    exact ⟨rfl, rfl⟩
  · rw [if_neg he]
    have hb : (e != 0) = true := by rw [bne_iff_ne]; exact he
    clear he
    go_enter Try.func28, Try.ntmps28
    go_wp2_with (go_at_call 29; (with_reducible refine (made_err h).mono ?_); rintro e w' ⟨rfl, rfl⟩)
    go_ret
    exact ⟨rfl, rfl⟩
theorem made_done (h : Rdr w base g A 0 c l 0) : Calls Try.prog 27 #[.pointer (some ⟨g, 0, none⟩)] w fun x w' => x = .returned (.int .i64 0) ∧ w = w' := by
  have c1 : w.cell? ⟨g, 1, none⟩ = some (.slice A 0 c) := h.whole.cell 1
  go_enter Try.func27, Try.ntmps27
  go_wp2_with (go_at_call 29; (with_reducible refine (made_err h).mono ?_); rintro e w' ⟨rfl, rfl⟩)
  go_ret
  exact ⟨rfl, rfl⟩
end
end Go.Proofs.Ytggcdbanmgpnaaa
