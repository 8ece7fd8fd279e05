/- wire.Frame. bytes.Clone, and the law's own Lent, Stays and num. -/
import Derived.Test.YtimmnmidhjbanaaDoorK07
import Derived.Test.YtimmnmidhjbanaaDoorK09
import Derived.Test.YtimmnmidhjbanaaDoorK10
import Derived.Laws.IdiomStrings
import Derived.Lib.BufferRead
import Derived.Deep.QuietTactic
import Derived.BigQuiet
import Derived.Deep.Draws
import Derived.Laws.BitsLemmas
import Derived.Laws.Tables
import Derived.Laws.CopyOwn
namespace Go.Proofs.YtimmnmidhjbanaaDoor
open Go.RowKit
/-- A call that hands back a slice of its own that holds l. -/
def SlicePost (base : Nat) (l : List UInt8) (w : World) (e : Ending) (w' : World) : Prop := ∃ A n c, e = .returned (.slice A n c) ∧ Has w' base A n c l ∧ Below base w w'
/-- .. and a number beside it. -/
def SliceNumPost (base : Nat) (l : List UInt8) (k : Int) (w : World) (e : Ending) (w' : World) : Prop := ∃ A n c, e = .returned (.tuple #[.slice A n c, .int .i64 k]) ∧ Has w' base A n c l ∧ Below base w w'
theorem appendNum_at (base : Nat) (A : Option Addr) (n c : Nat) (l0 : List UInt8) (N : Int) (w : World) (h : Has w base A n c l0) (hbase : base ≤ w.heap.size) (hl : n ≤ 1000000000) (hN : 0 ≤ N) (hM : N ≤ 9223372036854775807) :
    Calls Tryd.prog 84 #[.slice A n c, .int .i64 N] w (SlicePost base (l0 ++ numB N.toNat) w) := by
  obtain ⟨N, rfl⟩ := Int.eq_ofNat_of_zero_le hN
  refine (appendNum_any base _ l0 N w h.own hbase (by rw [h.len]; exact hl) (by omega)).mono ?_
  rintro e w' ⟨v', rfl, h1, h2⟩
  obtain ⟨A', n', c', rfl, h3⟩ := h1.has
  exact ⟨A', n', c', rfl, h3, h2⟩
end Go.Proofs.YtimmnmidhjbanaaDoor
namespace Go.Proofs.YtimmnmidhjbanaaDoor
open Go.RowKit
/-- A slice's bytes as a text. -/
theorem text_of (w : World) {B : Nat} {A : Option Addr} {l : List UInt8} (n c : Nat) (h : Rd w B A l) (hn : l.length = n) :
    (convert 31 9 (.slice A n c)).run Tryd.prog w = .ok (.string ⟨l.toArray⟩) w := by
  subst hn
  rcases A with _ | ad
  · have hl : l = [] := by
      rcases h with h | ⟨b, off, h, _⟩
      · exact h
      · cases h
    subst hl
    exact Lib.run_convert_nil_bytes w _ _ 5 c Tryd.underlying31 Tryd.underlying5 Tryd.underlying9
  · refine run_convert_bytes_back w _ _ 5 ad c l Tryd.underlying31 Tryd.underlying5 Tryd.underlying9 fun j hj => ?_
    obtain ⟨b, off, he, _, hc⟩ := h.at_ hj
    injection he with he
    subst he
    rw [Addr.add_lit]
    exact hc j hj
theorem Rd.none_nil {w : World} {B : Nat} {l : List UInt8} (h : Rd w B none l) : l = [] := by
  rcases h with h | ⟨b, off, h, _⟩
  · exact h
  · cases h
/-- The first bytes. -/
theorem Rd.pre {w : World} {B : Nat} {A : Option Addr} {l m : List UInt8} (h : Rd w B A (l ++ m)) : Rd w B A l := by
  rcases h with h | ⟨b, off, h1, h2, h3⟩
  · exact .inl (List.append_eq_nil_iff.1 h).1
  · refine .inr ⟨b, off, h1, h2, fun i hi => ?_⟩
    have := h3 i (by simp; omega)
    rwa [List.getElem_append_left hi] at this
theorem Has.some_ {w : World} {base : Nat} {A : Option Addr} {n c : Nat} {l : List UInt8} (h : Has w base A n c l) (hn : 0 < n) : ∃ g, A = some ⟨g, 0, none⟩ ∧ base ≤ g ∧ g < w.heap.size := by
  have h1 := h.own
  unfold Own at h1
  rw [h.len] at h1
  obtain ⟨g, cap, hv, hb, hlt⟩ := h1.form hn
  injection hv with hA
  exact ⟨g, hA, hb, hlt⟩
theorem clone_nil (n c : Nat) (w : World) : Calls Tryd.prog 57 #[.slice none n c] w fun e w' => e = .returned (.slice none 0 0) ∧ w = w' := by
  have hq := fun n c w => Lib.run_eql_slice_nil (P := Tryd.prog) w 31 5 none n c 0 0 Tryd.underlying31
  go_enter Tryd.func57, Tryd.ntmps57
  go_wp2
  go_ret
  exact ⟨rfl, rfl⟩
set_option maxRecDepth 100000 in
theorem clone_some (ad : Addr) (n c : Nat) (l : List UInt8) (w : World) (h : Rd w w.heap.size (some ad) l) (hn : l.length = n) (hl : n ≤ 1000000000) :
    Calls Tryd.prog 57 #[.slice (some ad) n c] w (SlicePost w.heap.size l w) := by
  have hq := fun n c w => Lib.run_eql_slice_nil (P := Tryd.prog) w 31 5 (some ad) n c 0 0 Tryd.underlying31
  have HN := Lib.hid hn
  clear hn
  go_enter Tryd.func57, Tryd.ntmps57
  go_wp2_with (at_builtin; refine wpList_grow _ rfl (.tmp 5) (.tmp 6) _ rfl w.heap.size _ [] rfl (own_lit w w.heap.size _ [] rfl (by simp) (Nat.le_refl _)) _ l rfl (src_at n c (h.below ((Below.refl _ _).alloc (Nat.le_refl _) _) (Nat.le_refl _)) HN.out) (by rw [HN.out]; simp; omega) (by simp) ?_; intro A1 n1 c1 w1 h1 hb1)
  go_ret
  exact ⟨A1, n1, c1, rfl, h1, ((Below.refl _ _).alloc (Nat.le_refl _) _).trans hb1⟩
theorem wclone_any (A : Option Addr) (n c : Nat) (l : List UInt8) (w : World) (h : Rd w w.heap.size A l) (hn : l.length = n) (hl : n ≤ 1000000000) :
    Calls Tryd.prog 57 #[.slice A n c] w (SlicePost w.heap.size l w) := by
  rcases A with _ | ad
  · refine (clone_nil n c w).mono ?_
    rintro e w' ⟨rfl, rfl⟩
    rw [h.none_nil]
    exact ⟨none, 0, 0, rfl, Has.nil _ _, Below.refl _ _⟩
  · exact clone_some ad n c l w h hn hl
end Go.Proofs.YtimmnmidhjbanaaDoor
