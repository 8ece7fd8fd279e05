/- wire.number: what stands first in bytes. wire.Text and gleberef01.Text. What number answers, of a number's own bytes and of any: plain lists. A reader that Open handed out. -/
import Derived.Test.YtimmnmidhjbanaaDoorK11
import Derived.WalkMore
import Derived.ScopeJumps
namespace Go.Proofs.YtimmnmidhjbanaaDoor
open Go.RowKit
/-- What number answers, from the group i on, where n has been read: the number, its bytes, the error. -/
def dec (most : Nat) : Nat → Nat → List UInt8 → Nat × Nat × Int
  | _, _, [] => (0, 0, 20)
  | i, n, c :: r =>
    if most < n + c.toNat % 128 * 128 ^ i then (0, 0, 21)
    else if 0 < i ∧ c.toNat = 0 then (0, 0, 21)
    else if i = 7 ∧ 128 ≤ c.toNat then (0, 0, 21)
    else if c.toNat < 128 then (n + c.toNat % 128 * 128 ^ i, i + 1, 0)
    else dec most (i + 1) (n + c.toNat % 128 * 128 ^ i) r
end Go.Proofs.YtimmnmidhjbanaaDoor
namespace Go.Proofs.YtimmnmidhjbanaaDoor
open Go.RowKit
def textB (l : List UInt8) : List UInt8 := numB l.length ++ l
set_option maxRecDepth 100000 in
theorem text_good (s : ByteArray) (w : World) (h : (s.size : Int) ≤ 131072) :
    Calls Tryd.prog 95 #[.string s] w (SliceNumPost w.heap.size (textB s.data.toList) 0 w) := by
  have hsz := Lib.hid (show s.data.toList.length = s.size by simp)
  go_enter Tryd.func95, Tryd.ntmps95
  go_wp2_with fail
  refine (appendNum_at w.heap.size none 0 0 [] _ w (Has.nil _ _) (Nat.le_refl _) (by omega) (by omega) (by omega)).mono ?_
  rintro e w1 ⟨A1, n1, c1, rfl, h1, hb1⟩
  have hs1 := hb1.size
  have hl1 : (([] ++ numB ((s.size : Int)).toNat) : List UInt8).length ≤ 9 := by
    rw [List.nil_append]
    exact numB_le (by omega)
  go_wp2_with (at_builtin; refine wpList_grow _ rfl (.tmp 9) (.tmp 10) _ rfl w.heap.size _ _ rfl h1.own _ s.data.toList rfl (src_of_text _ s) (by rw [hsz.out]; omega) hs1 ?_; intro A2 n2 c2 w2 h2 hb2)
  go_ret2
  refine ⟨A2, n2, c2, rfl, ?_, hb1.trans hb2⟩
  have e : ((s.size : Int)).toNat = s.data.toList.length := by rw [hsz.out]; simp
  rw [e] at h2
  exact h2
set_option maxRecDepth 100000 in
theorem refText_any (s : ByteArray) (w : World) (h : (s.size : Int) ≤ 131072) :
    Calls Tryd.prog 72 #[.string s] w (SlicePost w.heap.size (textB s.data.toList) w) := by
  have hsz := Lib.hid (show s.data.toList.length = s.size by simp)
  go_enter Tryd.func72, Tryd.ntmps72
  go_wp2_with fail
  refine (refNum_any _ w).mono ?_
  rintro e w1 ⟨v1, rfl, h1, hb1⟩
  have hs1 := hb1.size
  have e1 : numL (s.size : Int) = numB s.data.toList.length := by
    unfold numL
    rw [if_pos (by omega), hsz.out]
    rfl
  rw [e1] at h1
  have hl1 : (numB s.data.toList.length).length ≤ 9 := numB_le (by rw [hsz.out]; omega)
  clear e1
  go_wp2_with (at_builtin; refine wpList_grow _ rfl (.tmp 5) (.tmp 6) _ rfl w.heap.size _ _ rfl h1 _ s.data.toList rfl (src_of_text _ s) (by have := hsz.out; omega) hs1 ?_; intro A2 n2 c2 w2 h2 hb2)
  go_ret
  exact ⟨A2, n2, c2, rfl, h2, hb1.trans hb2⟩
end Go.Proofs.YtimmnmidhjbanaaDoor
namespace Go.Proofs.YtimmnmidhjbanaaDoor
/-- What Upto answers: the number, its bytes, the error. -/
def up (most : Int) (l : List UInt8) : Nat × Nat × Int :=
  if (dec 9007199254740992 0 0 l).2.2 = 0 ∧ most < ((dec 9007199254740992 0 0 l).1 : Int) then (0, 0, 21) else dec 9007199254740992 0 0 l
/-- What Text answers: the text, how many bytes have gone, the error. -/
def tx (most : Int) (l : List UInt8) : List UInt8 × Nat × Int :=
  if (up most l).2.2 = 0 then
    (if l.length < (up most l).2.1 + (up most l).1 then ([], (up most l).2.1, 20) else ((l.drop (up most l).2.1).take (up most l).1, (up most l).2.1 + (up most l).1, 0))
  else ([], 0, (up most l).2.2)
end Go.Proofs.YtimmnmidhjbanaaDoor
namespace Go.Proofs.YtimmnmidhjbanaaDoor
open Go.RowKit
/-- The block g holds a reader that has these bytes still to come, and this error. -/
structure Rdr (w : World) (base g : Nat) (A : Option Addr) (n c : Nat) (l : List UInt8) (e : Int) : Prop where
  whole : Whole w g 89 #[.bool true, .slice A n c, .int .i64 e]
  rd : Rd w g A l
  len : l.length = n
  cap : n ≤ c
  lie : base ≤ g
  form : (A = none ∧ n = 0 ∧ c = 0) ∨ ∃ b off, A = some ⟨b, off, none⟩
theorem Rdr.below {w w' : World} {base g : Nat} {A : Option Addr} {n c : Nat} {l : List UInt8} {e : Int} (h : Rdr w base g A n c l e) (hb : Below w.heap.size w w') : Rdr w' base g A n c l e :=
  ⟨h.whole.below hb h.whole.lt, h.rd.keep fun _ hp => hb.cell (by have := h.whole.lt; omega), h.len, h.cap, h.lie, h.form⟩
/-- Only the block g has changed. -/
structure Only (g : Nat) (w w' : World) : Prop where
  os : w'.os = w.os
  tape : w'.tape = w.tape
  output : w'.output = w.output
  size : w'.heap.size = w.heap.size
  block : ∀ k, k ≠ g → w'.heap[k]? = w.heap[k]?
theorem Only.refl (g : Nat) (w : World) : Only g w w := ⟨rfl, rfl, rfl, rfl, fun _ _ => rfl⟩
theorem Only.trans {g : Nat} {a b c : World} (h : Only g a b) (k : Only g b c) : Only g a c :=
  ⟨k.os.trans h.os, k.tape.trans h.tape, k.output.trans h.output, k.size.trans h.size, fun i hi => (k.block i hi).trans (h.block i hi)⟩
theorem Only.set_ (g i : Nat) (w : World) (u : Value) : Only g w (w.setCell ⟨g, i, none⟩ u) :=
  ⟨rfl, rfl, rfl, by simp [World.setCell], fun k hk => Below.heap_setCell w ⟨g, i, none⟩ u k hk⟩
theorem Only.drew {g : Nat} {a w : World} (h : Only g a w) : Only g a w.drew := ⟨h.os, h.tape, h.output, h.size, h.block⟩
theorem Only.below {g B : Nat} {w w' : World} (h : Only g w w') (hg : B ≤ g) : Below B w w' :=
  ⟨h.os, h.tape, h.output, Nat.le_of_eq h.size.symm, fun k hk => h.block k (by omega)⟩
theorem Only.cell {g : Nat} {w w' : World} (h : Only g w w') {p : Addr} (hp : p.block ≠ g) : w'.cell? p = w.cell? p := by
  have := h.block p.block hp
  unfold World.cell?
  rw [this]
theorem open_any (A : Option Addr) (n c : Nat) (l : List UInt8) (w : World) (h : Rd w w.heap.size A l) (hn : l.length = n) (hl : n ≤ 1000000000) :
    Calls Tryd.prog 29 #[.slice A n c] w fun e w' => ∃ g A' n' c', e = .returned (.pointer (some ⟨g, 0, none⟩)) ∧ Rdr w' w.heap.size g A' n' c' l 0 ∧ Below w.heap.size w w' := by
  go_enter Tryd.func29, Tryd.ntmps29
  go_wp2_with fail
  refine (wclone_any A n c l w h hn hl).mono ?_
  rintro e w1 ⟨A1, n1, c1, rfl, h1, hb1⟩
  have hs1 := hb1.size
  go_wp2_with fail
  go_ret
  refine ⟨_, A1, n1, c1, rfl, ⟨Whole.new _ _ _, ?_, h1.len, h1.cap, hs1, ?_⟩, hb1.alloc hs1 _⟩
  · exact h1.rd.keep fun p hp => World.cell?_alloc_lt w1 _ p hp
  · rcases h1.own.2 with ⟨h, _⟩ | ⟨g, cap, cur, h, _⟩
    · injection h with e1 e2 e3
      exact .inl ⟨e1, e2, e3⟩
    · injection h with e1 e2 e3
      exact .inr ⟨g, 0, e1⟩
section
variable {w : World} {base g : Nat} {A : Option Addr} {n c : Nat} {l : List UInt8} {e : Int}
theorem Rdr.fail (h : Rdr w base g A n c l e) (k : Int) : Rdr (w.setCell ⟨g, 2, none⟩ (.int .i64 k)) base g A n c l k :=
  ⟨h.whole.set_ 2 _, h.rd.keep fun p hp => World.cell?_setCell_other w _ _ _ (fun e => by subst e; exact absurd hp (Nat.lt_irrefl _)), h.len, h.cap, h.lie, h.form⟩
end
end Go.Proofs.YtimmnmidhjbanaaDoor
