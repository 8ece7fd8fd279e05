/- The document's own reader: what it holds, and its small functions. Both readers, call by call, in the same words. -/
import Derived.Test.YtbgfjkgpekkciaaDoorK05
import Derived.Test.YtbgfjkgpekkciaaDoorK06
import Derived.Test.YtbgfjkgpekkciaaDoorK13
import Derived.Lib.SlBytesConst
import Derived.Deep.RegionHeld3
namespace Go.Proofs.YtbgfjkgpekkciaaDoor
open Go.RowKit
theorem Only.drewN {g : Nat} {a w : World} (h : Only g a w) (m : Nat) : Only g a (w.drewN m) := ⟨h.os, h.tape, h.output, h.size, h.block⟩
theorem Rdr.drewN {w : World} {base g : Nat} {A : Option Addr} {n c : Nat} {l : List UInt8} {e : Int} (h : Rdr w base g A n c l e) (m : Nat) : Rdr (w.drewN m) base g A n c l e := ⟨h.whole, h.rd, h.len, h.cap, h.lie, h.form⟩
section
variable {w w' : World} {B q : Nat} {A : Option Addr} {n c : Nat} {b : List UInt8} {k : Nat} {e : Int}
/-- Left: what is still to come, 0 behind an error. -/
def leftOf (m : Nat) (e : Int) : Int := if e = 0 then (m : Int) else 0
/-- Done: the error, or whether all was read. -/
def doneOf (m : Nat) (e : Int) : Int := if e = 0 then (if m = 0 then 0 else 21) else e
end
end Go.Proofs.YtbgfjkgpekkciaaDoor
namespace Go.Proofs.YtbgfjkgpekkciaaDoor
open Go.RowKit
/-- What a call of the program's reader answers, and what it leaves. -/
def WPost (w : World) (base g : Nat) (x : Value) (l' : List UInt8) (e' : Int) (y : Ending) (w' : World) : Prop :=
  y = .returned x ∧ ∃ A' n' c', Rdr w' base g A' n' c' l' e' ∧ Only g w w'
/-- Num, Upto and Text of a reader that may have an error: answer, bytes gone, error. -/
def numR (l : List UInt8) (e : Int) : Nat × Nat × Int := if e = 0 then dec 9007199254740992 0 0 l else (0, 0, e)
def upR (most : Int) (l : List UInt8) (e : Int) : Nat × Nat × Int := if e = 0 then up most l else (0, 0, e)
def txR (most : Int) (l : List UInt8) (e : Int) : List UInt8 × Nat × Int := if e = 0 then tx most l else ([], 0, e)
def failR (e x : Int) : Int := if e = 0 then x else e
section
variable {w : World} {base g : Nat} {A : Option Addr} {n c : Nat} {l : List UInt8} {e : Int}
theorem wupto (h : Rdr w base g A n c l e) (most : Int) :
    Calls Tryd.prog 48 #[.pointer (some ⟨g, 0, none⟩), .int .i64 most] w (WPost w base g (.int .i64 ((upR most l e).1 : Int)) (l.drop (upR most l e).2.1) (upR most l e).2.2) := by
  unfold upR
  by_cases he : e = 0
  · rw [if_pos he]
    subst he
    refine (made_upto h most).mono ?_
    rintro x w' ⟨A', n', c', rfl, h1, ho⟩
    exact ⟨rfl, A', n', c', h1, ho⟩
  · rw [if_neg he]
    have hb : (e != 0) = true := by rw [bne_iff_ne]; exact he
    clear he
    go_enter Tryd.func48, Tryd.ntmps48
    go_wp2_with (go_at_call 38; (with_reducible refine (made_err h).mono ?_); rintro e w' ⟨rfl, rfl⟩)
    go_ret
    exact ⟨rfl, A, n, c, h, Only.refl _ _⟩
theorem wnum (h : Rdr w base g A n c l e) :
    Calls Tryd.prog 54 #[.pointer (some ⟨g, 0, none⟩)] w (WPost w base g (.int .i64 ((numR l e).1 : Int)) (l.drop (numR l e).2.1) (numR l e).2.2) := by
  have U := wupto h 9007199254740992
  have e1 : upR 9007199254740992 l e = numR l e := by unfold upR numR; rw [up_most]
  rw [e1] at U
  have UH := Lib.hid U
  clear U
  go_enter Tryd.func54, Tryd.ntmps54
  go_wp2_with (go_at_call 48; (with_reducible refine UH.out.mono ?_); rintro e w1 ⟨rfl, A1, n1, c1, h1, hb1⟩)
  go_ret
  exact ⟨rfl, A1, n1, c1, h1, hb1⟩
theorem wtext (h : Rdr w base g A n c l e) (most : Int) :
    Calls Tryd.prog 61 #[.pointer (some ⟨g, 0, none⟩), .int .i64 most] w (WPost w base g (.string ⟨(txR most l e).1.toArray⟩) (l.drop (txR most l e).2.1) (txR most l e).2.2) := by
  unfold txR
  by_cases he : e = 0
  · rw [if_pos he]
    subst he
    refine (made_text h most).mono ?_
    rintro x w' ⟨A', n', c', rfl, h1, ho⟩
    exact ⟨rfl, A', n', c', h1, ho⟩
  · rw [if_neg he]
    have U := wupto h most
    unfold upR at U
    rw [if_neg he] at U
    have UH := Lib.hid U
    have HE := Lib.hid he
    have hb : (e != 0) = true := by rw [bne_iff_ne]; exact he
    clear he U
    go_enter Tryd.func61, Tryd.ntmps61
    go_wp2_with fail
    refine UH.out.mono ?_
    rintro y w1 ⟨rfl, A1, n1, c1, h1, hb1⟩
    have LF : Calls Tryd.prog 25 #[.pointer (some ⟨g, 0, none⟩)] w1 fun x w' => x = .returned (.int .i64 0) ∧ w1 = w' := by
      have := made_left h1
      rw [if_neg HE.out] at this
      exact this
    have LH := Lib.hid LF
    clear LF
    go_wp2_with (first
      | (go_at_call 25; (with_reducible refine LH.out.mono ?_); rintro e w' ⟨rfl, rfl⟩)
      | (go_at_call 38; (with_reducible refine (made_err h1).mono ?_); rintro e w' ⟨rfl, rfl⟩))
    go_ret
    exact ⟨rfl, A1, n1, c1, h1, hb1⟩
theorem wfail (h : Rdr w base g A n c l e) (x : Int) :
    Calls Tryd.prog 53 #[.pointer (some ⟨g, 0, none⟩), .int .i64 x] w (WPost w base g (.tuple #[]) l (failR e x)) := by
  unfold failR
  by_cases he : e = 0
  · rw [if_pos he]
    subst he
    refine (made_fail h x).mono ?_
    rintro y w' ⟨rfl, rfl⟩
    exact ⟨rfl, A, n, c, h.fail x, Only.set_ _ _ _ _⟩
  · rw [if_neg he]
    refine (dead_fail h he x).mono ?_
    rintro y w' ⟨rfl, rfl⟩
    exact ⟨rfl, A, n, c, h, Only.refl _ _⟩
theorem wleft (h : Rdr w base g A n c l e) : Calls Tryd.prog 25 #[.pointer (some ⟨g, 0, none⟩)] w fun x w' => x = .returned (.int .i64 (leftOf l.length e)) ∧ w' = w := by
  refine (made_left h).mono ?_
  rintro y w' ⟨rfl, rfl⟩
  exact ⟨by rw [h.len]; rfl, rfl⟩
theorem wdone (h : Rdr w base g A n c l e) : Calls Tryd.prog 24 #[.pointer (some ⟨g, 0, none⟩)] w fun x w' => x = .returned (.int .i64 (doneOf l.length e)) ∧ w' = w := by
  have c1 : w.cell? ⟨g, 1, none⟩ = some (.slice A n c) := h.whole.cell 1
  rw [h.len]
  unfold doneOf
  by_cases he : e = 0
  · subst he
    rw [if_pos rfl]
    by_cases h0 : n = 0
    · rw [if_pos h0]
      subst h0
      go_enter Tryd.func24, Tryd.ntmps24
      go_wp2_with (go_at_call 38; (with_reducible refine (made_err h).mono ?_); rintro e w' ⟨rfl, rfl⟩)
      go_ret
      exact ⟨rfl, rfl⟩
    · rw [if_neg h0]
      have i0 : (0 : Int) < (n : Int) := by omega
      clear h0
      go_enter Tryd.func24, Tryd.ntmps24
      go_wp2_with (go_at_call 38; (with_reducible refine (made_err h).mono ?_); rintro e w' ⟨rfl, rfl⟩)
      go_ret
      exact ⟨rfl, rfl⟩
  · rw [if_neg he]
    have hb : (e != 0) = true := by rw [bne_iff_ne]; exact he
    clear he
    go_enter Tryd.func24, Tryd.ntmps24
    go_wp2_with (go_at_call 38; (with_reducible refine (made_err h).mono ?_); rintro e w' ⟨rfl, rfl⟩)
    go_ret
    exact ⟨rfl, rfl⟩
end
section
variable {w : World} {B q : Nat} {A : Option Addr} {n c : Nat} {b l : List UInt8} {k : Nat} {e : Int}
end
end Go.Proofs.YtbgfjkgpekkciaaDoor
