/- A reader that Open handed out. -/
import Derived.Test.YtbgfjkgpekkciaaK14
namespace Go.Proofs.Ytbgfjkgpekkciaa
open Go.RowKit
/-- The block g holds a reader that has these bytes still to come, and this error. -/
structure Rdr (w : World) (base g : Nat) (A : Option Addr) (n c : Nat) (l : List UInt8) (e : Int) : Prop where
  whole : Whole w g 63 #[.bool true, .slice A n c, .int .i64 e]
  rd : Rd w g A l
  len : l.length = n
  cap : n ≤ c
  lie : base ≤ g
  form : (A = none ∧ n = 0 ∧ c = 0) ∨ ∃ b off, A = some ⟨b, off, none⟩
theorem Rdr.below {w w' : World} {base g : Nat} {A : Option Addr} {n c : Nat} {l : List UInt8} {e : Int} (h : Rdr w base g A n c l e) (hb : Below w.heap.size w w') : Rdr w' base g A n c l e :=
  ⟨h.whole.below hb h.whole.lt, h.rd.keep fun _ hp => hb.cell (by have := h.whole.lt; omega), h.len, h.cap, h.lie, h.form⟩
/-- Only the block g has changed. -/
structure Only (g : Nat) (w w' : World) : Prop where
  os : w'.os = w.os
  tape : w'.tape = w.tape
  output : w'.output = w.output
  size : w'.heap.size = w.heap.size
  block : ∀ k, k ≠ g → w'.heap[k]? = w.heap[k]?
theorem Only.refl (g : Nat) (w : World) : Only g w w := ⟨rfl, rfl, rfl, rfl, fun _ _ => rfl⟩
theorem Only.trans {g : Nat} {a b c : World} (h : Only g a b) (k : Only g b c) : Only g a c :=
  ⟨k.os.trans h.os, k.tape.trans h.tape, k.output.trans h.output, k.size.trans h.size, fun i hi => (k.block i hi).trans (h.block i hi)⟩
theorem Only.set_ (g i : Nat) (w : World) (u : Value) : Only g w (w.setCell ⟨g, i, none⟩ u) :=
  ⟨rfl, rfl, rfl, by simp [World.setCell], fun k hk => Below.heap_setCell w ⟨g, i, none⟩ u k hk⟩
theorem Only.drew {g : Nat} {a w : World} (h : Only g a w) : Only g a w.drew := ⟨h.os, h.tape, h.output, h.size, h.block⟩
theorem Only.below {g B : Nat} {w w' : World} (h : Only g w w') (hg : B ≤ g) : Below B w w' :=
  ⟨h.os, h.tape, h.output, Nat.le_of_eq h.size.symm, fun k hk => h.block k (by omega)⟩
theorem Only.cell {g : Nat} {w w' : World} (h : Only g w w') {p : Addr} (hp : p.block ≠ g) : w'.cell? p = w.cell? p := by
  have := h.block p.block hp
  unfold World.cell?
  rw [this]
theorem open_any (A : Option Addr) (n c : Nat) (l : List UInt8) (w : World) (h : Rd w w.heap.size A l) (hn : l.length = n) (hl : n ≤ 1000000000) :
    Calls Try.prog 8 #[.slice A n c] w fun e w' => ∃ g A' n' c', e = .returned (.pointer (some ⟨g, 0, none⟩)) ∧ Rdr w' w.heap.size g A' n' c' l 0 ∧ Below w.heap.size w w' := by
  go_enter Try.func8, Try.ntmps8
  go_wp2_with fail
  refine (wclone_any A n c l w h hn hl).mono ?_
  rintro e w1 ⟨A1, n1, c1, rfl, h1, hb1⟩
  have hs1 := hb1.size
  go_wp2_with fail
  go_ret
  refine ⟨_, A1, n1, c1, rfl, ⟨Whole.new _ _ _, ?_, h1.len, h1.cap, hs1, ?_⟩, hb1.alloc hs1 _⟩
  · exact h1.rd.keep fun p hp => World.cell?_alloc_lt w1 _ p hp
  · rcases h1.own.2 with ⟨h, _⟩ | ⟨g, cap, cur, h, _⟩
    · injection h with e1 e2 e3
      exact .inl ⟨e1, e2, e3⟩
    · injection h with e1 e2 e3
      exact .inr ⟨g, 0, e1⟩
section
variable {w : World} {base g : Nat} {A : Option Addr} {n c : Nat} {l : List UInt8} {e : Int}
theorem Rdr.fail (h : Rdr w base g A n c l e) (k : Int) : Rdr (w.setCell ⟨g, 2, none⟩ (.int .i64 k)) base g A n c l k :=
  ⟨h.whole.set_ 2 _, h.rd.keep fun p hp => World.cell?_setCell_other w _ _ _ (fun e => by subst e; exact absurd hp (Nat.lt_irrefl _)), h.len, h.cap, h.lie, h.form⟩
end
end Go.Proofs.Ytbgfjkgpekkciaa
