/- Numbers and texts out of a reader. -/
import Derived.Test.YtbgfjkgpekkciaaK12
import Derived.Test.YtbgfjkgpekkciaaK15
namespace Go.Proofs.Ytbgfjkgpekkciaa
open Go.RowKit
theorem Rd.drop {w : World} {B b off : Nat} {l : List UInt8} (h : Rd w B (some ⟨b, off, none⟩) l) (k : Nat) : Rd w B (some ⟨b, off + k, none⟩) (l.drop k) := by
  rcases h with rfl | ⟨b', off', he, hb, hc⟩
  · exact .inl (by simp)
  · injection he with he
    injection he with e1 e2
    subst e1; subst e2
    refine .inr ⟨b, off + k, rfl, hb, fun i hi => ?_⟩
    rw [List.length_drop] at hi
    rw [Nat.add_assoc, hc (k + i) (by omega)]
    simp
theorem Rd.take {w : World} {B : Nat} {A : Option Addr} {l : List UInt8} (h : Rd w B A l) (k : Nat) : Rd w B A (l.take k) := by
  rw [← List.take_append_drop k l] at h
  exact h.pre
section
variable {w : World} {base g : Nat} {A : Option Addr} {n c : Nat} {l : List UInt8} {e : Int}
/-- The rest is set behind k bytes. -/
theorem Rdr.rest (h : Rdr w base g A n c l e) (k : Nat) (hk : k ≤ n) {A' : Option Addr} (hr : Rd w g A' (l.drop k)) (hf : (A' = none ∧ n - k = 0 ∧ c - k = 0) ∨ ∃ b off, A' = some ⟨b, off, none⟩) :
    Rdr (w.setCell ⟨g, 1, none⟩ (.slice A' (n - k) (c - k))) base g A' (n - k) (c - k) (l.drop k) e :=
  ⟨h.whole.set_ 1 _, hr.keep fun p hp => World.cell?_setCell_other w _ _ _ (fun e => by subst e; exact absurd hp (Nat.lt_irrefl _)), by rw [List.length_drop, h.len], by have := h.cap; omega, h.lie, hf⟩
end
end Go.Proofs.Ytbgfjkgpekkciaa
