/- wire.Frame. -/
import Derived.Test.YthgcmcdacejelaaDoorUSum3
import Derived.Test.YthgcmcdacejelaaDoorUNum2
import Derived.Test.YthgcmcdacejelaaDoorUFix
namespace Go.Proofs.YthgcmcdacejelaaDoor
open Go.RowKit
/-- A call that hands back a slice of its own that holds l. -/
def SlicePost (base : Nat) (l : List UInt8) (w : World) (e : Ending) (w' : World) : Prop := ∃ A n c, e = .returned (.slice A n c) ∧ Has w' base A n c l ∧ Below base w w'
/-- .. and a number beside it. -/
def SliceNumPost (base : Nat) (l : List UInt8) (k : Int) (w : World) (e : Ending) (w' : World) : Prop := ∃ A n c, e = .returned (.tuple #[.slice A n c, .int .i64 k]) ∧ Has w' base A n c l ∧ Below base w w'
theorem appendNum_at (base : Nat) (A : Option Addr) (n c : Nat) (l0 : List UInt8) (N : Int) (w : World) (h : Has w base A n c l0) (hbase : base ≤ w.heap.size) (hl : n ≤ 1000000000) (hN : 0 ≤ N) (hM : N ≤ 9223372036854775807) :
    Calls Tryd.prog 80 #[.slice A n c, .int .i64 N] w (SlicePost base (l0 ++ numB N.toNat) w) := by
  obtain ⟨N, rfl⟩ := Int.eq_ofNat_of_zero_le hN
  refine (appendNum_any base _ l0 N w h.own hbase (by rw [h.len]; exact hl) (by omega)).mono ?_
  rintro e w' ⟨v', rfl, h1, h2⟩
  obtain ⟨A', n', c', rfl, h3⟩ := h1.has
  exact ⟨A', n', c', rfl, h3, h2⟩
/-- What Frame tells. -/
def frameE (kind : Int) (l : List UInt8) : Int := if 0 ≤ kind ∧ kind ≤ 255 then (if l.length ≤ 131072 then 0 else 6) else 1
def frameL (kind : Int) (l : List UInt8) : List UInt8 := if 0 ≤ kind ∧ kind ≤ 255 then (if l.length ≤ 131072 then frameB kind.toNat l else []) else []
end Go.Proofs.YthgcmcdacejelaaDoor
