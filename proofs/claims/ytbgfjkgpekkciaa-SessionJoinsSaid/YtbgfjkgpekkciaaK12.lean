/- bytes.Clone, and the law's own Lent, Stays and num. -/
import Derived.Test.YtbgfjkgpekkciaaK11
import Derived.Laws.IdiomStrings
import Derived.Lib.BufferRead
import Derived.Deep.QuietTactic
import Derived.BigQuiet
import Derived.Deep.Draws
namespace Go.Proofs.Ytbgfjkgpekkciaa
open Go.RowKit
theorem Rd.none_nil {w : World} {B : Nat} {l : List UInt8} (h : Rd w B none l) : l = [] := by
  rcases h with h | ⟨b, off, h, _⟩
  · exact h
  · cases h
/-- The first bytes. -/
theorem Rd.pre {w : World} {B : Nat} {A : Option Addr} {l m : List UInt8} (h : Rd w B A (l ++ m)) : Rd w B A l := by
  rcases h with h | ⟨b, off, h1, h2, h3⟩
  · exact .inl (List.append_eq_nil_iff.1 h).1
  · refine .inr ⟨b, off, h1, h2, fun i hi => ?_⟩
    have := h3 i (by simp; omega)
    rwa [List.getElem_append_left hi] at this
theorem clone_nil (n c : Nat) (w : World) : Calls Try.prog 27 #[.slice none n c] w fun e w' => e = .returned (.slice none 0 0) ∧ w = w' := by
  have hq := fun n c w => Lib.run_eql_slice_nil (P := Try.prog) w 22 5 none n c 0 0 Try.underlying22
  go_enter Try.func27, Try.ntmps27
  go_wp2
  go_ret
  exact ⟨rfl, rfl⟩
set_option maxRecDepth 100000 in
theorem clone_some (ad : Addr) (n c : Nat) (l : List UInt8) (w : World) (h : Rd w w.heap.size (some ad) l) (hn : l.length = n) (hl : n ≤ 1000000000) :
    Calls Try.prog 27 #[.slice (some ad) n c] w (SlicePost w.heap.size l w) := by
  have hq := fun n c w => Lib.run_eql_slice_nil (P := Try.prog) w 22 5 (some ad) n c 0 0 Try.underlying22
  have HN := Lib.hid hn
  clear hn
  go_enter Try.func27, Try.ntmps27
  go_wp2_with (at_builtin; refine wpList_grow _ rfl (.tmp 5) (.tmp 6) _ rfl w.heap.size _ [] rfl (own_lit w w.heap.size _ [] rfl (by simp) (Nat.le_refl _)) _ l rfl (src_at n c (h.below ((Below.refl _ _).alloc (Nat.le_refl _) _) (Nat.le_refl _)) HN.out) (by rw [HN.out]; simp; omega) (by simp) ?_; intro A1 n1 c1 w1 h1 hb1)
  go_ret
  exact ⟨A1, n1, c1, rfl, h1, ((Below.refl _ _).alloc (Nat.le_refl _) _).trans hb1⟩
theorem wclone_any (A : Option Addr) (n c : Nat) (l : List UInt8) (w : World) (h : Rd w w.heap.size A l) (hn : l.length = n) (hl : n ≤ 1000000000) :
    Calls Try.prog 27 #[.slice A n c] w (SlicePost w.heap.size l w) := by
  rcases A with _ | ad
  · refine (clone_nil n c w).mono ?_
    rintro e w' ⟨rfl, rfl⟩
    rw [h.none_nil]
    exact ⟨none, 0, 0, rfl, Has.nil _ _, Below.refl _ _⟩
  · exact clone_some ad n c l w h hn hl
end Go.Proofs.Ytbgfjkgpekkciaa
