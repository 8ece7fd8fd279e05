/- The document's own reader: what it holds, and its small functions. The document's own reader: Upto and Text. Both readers, call by call, in the same words. -/
import Derived.Test.YtimmnmidhjbanaaDoorK16
import Derived.Test.YtimmnmidhjbanaaDoorK17
import Derived.Test.YtimmnmidhjbanaaDoorK30
import Derived.Lib.SlBytesConst
import Derived.Deep.RegionHeld3
namespace Go.Proofs.YtimmnmidhjbanaaDoor
open Go.RowKit
/-- The block q holds the document's reader: these bytes, this place, this error. -/
structure RRd (w : World) (B q : Nat) (A : Option Addr) (n c : Nat) (b : List UInt8) (k : Nat) (e : Int) : Prop where
  whole : Whole w q 64 #[.slice A n c, .int .i64 (k : Int), .int .i64 e]
  rd : Rd w B A b
  len : b.length = n
  cap : n ≤ c
  le : k ≤ n
  lie : B ≤ q
theorem Only.drewN {g : Nat} {a w : World} (h : Only g a w) (m : Nat) : Only g a (w.drewN m) := ⟨h.os, h.tape, h.output, h.size, h.block⟩
theorem Rdr.drewN {w : World} {base g : Nat} {A : Option Addr} {n c : Nat} {l : List UInt8} {e : Int} (h : Rdr w base g A n c l e) (m : Nat) : Rdr (w.drewN m) base g A n c l e := ⟨h.whole, h.rd, h.len, h.cap, h.lie, h.form⟩
section
variable {w w' : World} {B q : Nat} {A : Option Addr} {n c : Nat} {b : List UInt8} {k : Nat} {e : Int}
theorem RRd.drewN (h : RRd w B q A n c b k e) (m : Nat) : RRd (w.drewN m) B q A n c b k e := ⟨h.whole, h.rd, h.len, h.cap, h.le, h.lie⟩
theorem RRd.fail (h : RRd w B q A n c b k e) (x : Int) : RRd (w.setCell ⟨q, 2, none⟩ (.int .i64 x)) B q A n c b k x :=
  ⟨h.whole.set_ 2 _, h.rd.keep fun p hp => World.cell?_setCell_other w _ _ _ (fun e => by subst e; exact absurd (Nat.lt_of_lt_of_le hp h.lie) (Nat.lt_irrefl _)), h.len, h.cap, h.le, h.lie⟩
theorem RRd.c0 (h : RRd w B q A n c b k e) : w.cell? ⟨q, 0, none⟩ = some (.slice A n c) := h.whole.cell 0
theorem RRd.c1 (h : RRd w B q A n c b k e) : w.cell? ⟨q, 1, none⟩ = some (.int .i64 (k : Int)) := h.whole.cell 1
theorem RRd.c2 (h : RRd w B q A n c b k e) : w.cell? ⟨q, 2, none⟩ = some (.int .i64 e) := h.whole.cell 2
/-- Left: what is still to come, 0 behind an error. -/
def leftOf (m : Nat) (e : Int) : Int := if e = 0 then (m : Int) else 0
end
end Go.Proofs.YtimmnmidhjbanaaDoor
namespace Go.Proofs.YtimmnmidhjbanaaDoor
open Go.RowKit
/-- Where a slice of bytes that came in may lie. -/
def Seen (A : Option Addr) (n c : Nat) : Prop := (A = none ∧ n = 0 ∧ c = 0) ∨ ∃ ad, A = some ad ∧ (c = 0 ∨ ∃ g off, ad = ⟨g, off, none⟩)
section
variable {w : World} {B q : Nat} {A : Option Addr} {n c : Nat} {b : List UInt8} {k : Nat} {e : Int}
end
end Go.Proofs.YtimmnmidhjbanaaDoor
namespace Go.Proofs.YtimmnmidhjbanaaDoor
open Go.RowKit
/-- What a call of the program's reader answers, and what it leaves. -/
def WPost (w : World) (base g : Nat) (x : Value) (l' : List UInt8) (e' : Int) (y : Ending) (w' : World) : Prop :=
  y = .returned x ∧ ∃ A' n' c', Rdr w' base g A' n' c' l' e' ∧ Only g w w'
/-- Num, Upto and Text of a reader that may have an error: answer, bytes gone, error. -/
def numR (l : List UInt8) (e : Int) : Nat × Nat × Int := if e = 0 then dec 9007199254740992 0 0 l else (0, 0, e)
def upR (most : Int) (l : List UInt8) (e : Int) : Nat × Nat × Int := if e = 0 then up most l else (0, 0, e)
def txR (most : Int) (l : List UInt8) (e : Int) : List UInt8 × Nat × Int := if e = 0 then tx most l else ([], 0, e)
def failR (e x : Int) : Int := if e = 0 then x else e
section
variable {w : World} {base g : Nat} {A : Option Addr} {n c : Nat} {l : List UInt8} {e : Int}
theorem wupto (h : Rdr w base g A n c l e) (most : Int) :
    Calls Tryd.prog 63 #[.pointer (some ⟨g, 0, none⟩), .int .i64 most] w (WPost w base g (.int .i64 ((upR most l e).1 : Int)) (l.drop (upR most l e).2.1) (upR most l e).2.2) := by
  unfold upR
  by_cases he : e = 0
  · rw [if_pos he]
    subst he
    refine (made_upto h most).mono ?_
    rintro x w' ⟨A', n', c', rfl, h1, ho⟩
    exact ⟨rfl, A', n', c', h1, ho⟩
  · rw [if_neg he]
    have hb : (e != 0) = true := by rw [bne_iff_ne]; exact he
    clear he
    go_enter Tryd.func63, Tryd.ntmps63
    go_wp2_with (go_at_call 33; (with_reducible refine (made_err h).mono ?_); rintro e w' ⟨rfl, rfl⟩)
    go_ret
    exact ⟨rfl, A, n, c, h, Only.refl _ _⟩
theorem wnum (h : Rdr w base g A n c l e) :
    Calls Tryd.prog 64 #[.pointer (some ⟨g, 0, none⟩)] w (WPost w base g (.int .i64 ((numR l e).1 : Int)) (l.drop (numR l e).2.1) (numR l e).2.2) := by
  have U := wupto h 9007199254740992
  have e1 : upR 9007199254740992 l e = numR l e := by unfold upR numR; rw [up_most]
  rw [e1] at U
  have UH := Lib.hid U
  clear U
  go_enter Tryd.func64, Tryd.ntmps64
  go_wp2_with (go_at_call 63; (with_reducible refine UH.out.mono ?_); rintro e w1 ⟨rfl, A1, n1, c1, h1, hb1⟩)
  go_ret
  exact ⟨rfl, A1, n1, c1, h1, hb1⟩
theorem wtext (h : Rdr w base g A n c l e) (most : Int) :
    Calls Tryd.prog 98 #[.pointer (some ⟨g, 0, none⟩), .int .i64 most] w (WPost w base g (.string ⟨(txR most l e).1.toArray⟩) (l.drop (txR most l e).2.1) (txR most l e).2.2) := by
  unfold txR
  by_cases he : e = 0
  · rw [if_pos he]
    subst he
    refine (made_text h most).mono ?_
    rintro x w' ⟨A', n', c', rfl, h1, ho⟩
    exact ⟨rfl, A', n', c', h1, ho⟩
  · rw [if_neg he]
    have U := wupto h most
    unfold upR at U
    rw [if_neg he] at U
    have UH := Lib.hid U
    have HE := Lib.hid he
    have hb : (e != 0) = true := by rw [bne_iff_ne]; exact he
    clear he U
    go_enter Tryd.func98, Tryd.ntmps98
    go_wp2_with fail
    refine UH.out.mono ?_
    rintro y w1 ⟨rfl, A1, n1, c1, h1, hb1⟩
    have LF : Calls Tryd.prog 34 #[.pointer (some ⟨g, 0, none⟩)] w1 fun x w' => x = .returned (.int .i64 0) ∧ w1 = w' := by
      have := made_left h1
      rw [if_neg HE.out] at this
      exact this
    have LH := Lib.hid LF
    clear LF
    go_wp2_with (first
      | (go_at_call 34; (with_reducible refine LH.out.mono ?_); rintro e w' ⟨rfl, rfl⟩)
      | (go_at_call 33; (with_reducible refine (made_err h1).mono ?_); rintro e w' ⟨rfl, rfl⟩))
    go_ret
    exact ⟨rfl, A1, n1, c1, h1, hb1⟩
theorem wfail (h : Rdr w base g A n c l e) (x : Int) :
    Calls Tryd.prog 81 #[.pointer (some ⟨g, 0, none⟩), .int .i64 x] w (WPost w base g (.tuple #[]) l (failR e x)) := by
  unfold failR
  by_cases he : e = 0
  · rw [if_pos he]
    subst he
    refine (made_fail h x).mono ?_
    rintro y w' ⟨rfl, rfl⟩
    exact ⟨rfl, A, n, c, h.fail x, Only.set_ _ _ _ _⟩
  · rw [if_neg he]
    refine (dead_fail h he x).mono ?_
    rintro y w' ⟨rfl, rfl⟩
    exact ⟨rfl, A, n, c, h, Only.refl _ _⟩
theorem wleft (h : Rdr w base g A n c l e) : Calls Tryd.prog 34 #[.pointer (some ⟨g, 0, none⟩)] w fun x w' => x = .returned (.int .i64 (leftOf l.length e)) ∧ w' = w := by
  refine (made_left h).mono ?_
  rintro y w' ⟨rfl, rfl⟩
  exact ⟨by rw [h.len]; rfl, rfl⟩
end
section
variable {w : World} {B q : Nat} {A : Option Addr} {n c : Nat} {b l : List UInt8} {k : Nat} {e : Int}
/-- The document's reader, whose bytes still to come are l. -/
structure RAt (w : World) (B q : Nat) (A : Option Addr) (n c : Nat) (b : List UInt8) (k : Nat) (l : List UInt8) (e : Int) : Prop where
  rd : RRd w B q A n c b k e
  at_ : e = 0 → b.drop k = l
  small : n ≤ 5000
  form : Seen A n c
theorem RAt.drewN (h : RAt w B q A n c b k l e) (m : Nat) : RAt (w.drewN m) B q A n c b k l e := ⟨h.rd.drewN m, h.at_, h.small, h.form⟩
theorem RAt.len (h : RAt w B q A n c b k l e) (he : e = 0) : n - k = l.length := by
  rw [← h.at_ he, List.length_drop, h.rd.len]
end
end Go.Proofs.YtimmnmidhjbanaaDoor
