/- Numbers, lengths and frames as bytes: plain lists; nothing of the program. wire.appendNum and gleberef01.Num: a number's bytes. wire.Frame. bytes.Clone, and the law's own Lent, Stays and num. -/
import Derived.Test.YtbgfjkgpekkciaaK01
import Derived.Test.YtbgfjkgpekkciaaK06
import Derived.Laws.IdiomStrings
import Derived.Lib.BufferRead
import Derived.Deep.QuietTactic
import Derived.BigQuiet
import Derived.Deep.Draws
import Derived.Laws.BitsLemmas
import Derived.Laws.Tables
import Derived.Laws.CopyOwn
namespace Go.Proofs.Ytbgfjkgpekkciaa
/-- A number's bytes: seven bits each, the lowest first. -/
def numB (n : Nat) : List UInt8 := if n < 128 then [UInt8.ofNat n] else UInt8.ofNat (n % 128 + 128) :: numB (n / 128)
termination_by n
decreasing_by omega
theorem numB_small {n : Nat} (h : n < 128) : numB n = [UInt8.ofNat n] := by rw [numB, if_pos h]
theorem numB_great {n : Nat} (h : ¬ n < 128) : numB n = UInt8.ofNat (n % 128 + 128) :: numB (n / 128) := by rw [numB, if_neg h]
theorem ofNat_toNat {n : Nat} (h : n < 256) : (UInt8.ofNat n).toNat = n := by
  simp only [UInt8.toNat_ofNat']
  exact Nat.mod_eq_of_lt (by omega)
end Go.Proofs.Ytbgfjkgpekkciaa
namespace Go.Proofs.Ytbgfjkgpekkciaa
open Go.RowKit
theorem ofi64 (n : Nat) (h : n < 9223372036854775808) : (BitVec.ofInt 64 (n : Int)).toNat = n := by
  rw [BitVec.ofInt_natCast, BitVec.toNat_ofNat]; exact Nat.mod_eq_of_lt (by omega)
end Go.Proofs.Ytbgfjkgpekkciaa
namespace Go.Proofs.Ytbgfjkgpekkciaa
open Go.RowKit
/-- A call that hands back a slice of its own that holds l. -/
def SlicePost (base : Nat) (l : List UInt8) (w : World) (e : Ending) (w' : World) : Prop := ∃ A n c, e = .returned (.slice A n c) ∧ Has w' base A n c l ∧ Below base w w'
end Go.Proofs.Ytbgfjkgpekkciaa
namespace Go.Proofs.Ytbgfjkgpekkciaa
open Go.RowKit
/-- A slice's bytes as a text. -/
theorem text_of (w : World) {B : Nat} {A : Option Addr} {l : List UInt8} (n c : Nat) (h : Rd w B A l) (hn : l.length = n) :
    (convert 22 9 (.slice A n c)).run Try.prog w = .ok (.string ⟨l.toArray⟩) w := by
  subst hn
  rcases A with _ | ad
  · have hl : l = [] := by
      rcases h with h | ⟨b, off, h, _⟩
      · exact h
      · cases h
    subst hl
    exact Lib.run_convert_nil_bytes w _ _ 5 c Try.underlying22 Try.underlying5 Try.underlying9
  · refine run_convert_bytes_back w _ _ 5 ad c l Try.underlying22 Try.underlying5 Try.underlying9 fun j hj => ?_
    obtain ⟨b, off, he, _, hc⟩ := h.at_ hj
    injection he with he
    subst he
    rw [Addr.add_lit]
    exact hc j hj
theorem Rd.none_nil {w : World} {B : Nat} {l : List UInt8} (h : Rd w B none l) : l = [] := by
  rcases h with h | ⟨b, off, h, _⟩
  · exact h
  · cases h
/-- The first bytes. -/
theorem Rd.pre {w : World} {B : Nat} {A : Option Addr} {l m : List UInt8} (h : Rd w B A (l ++ m)) : Rd w B A l := by
  rcases h with h | ⟨b, off, h1, h2, h3⟩
  · exact .inl (List.append_eq_nil_iff.1 h).1
  · refine .inr ⟨b, off, h1, h2, fun i hi => ?_⟩
    have := h3 i (by simp; omega)
    rwa [List.getElem_append_left hi] at this
theorem Has.some_ {w : World} {base : Nat} {A : Option Addr} {n c : Nat} {l : List UInt8} (h : Has w base A n c l) (hn : 0 < n) : ∃ g, A = some ⟨g, 0, none⟩ ∧ base ≤ g ∧ g < w.heap.size := by
  have h1 := h.own
  unfold Own at h1
  rw [h.len] at h1
  obtain ⟨g, cap, hv, hb, hlt⟩ := h1.form hn
  injection hv with hA
  exact ⟨g, hA, hb, hlt⟩
theorem clone_nil (n c : Nat) (w : World) : Calls Try.prog 27 #[.slice none n c] w fun e w' => e = .returned (.slice none 0 0) ∧ w = w' := by
  have hq := fun n c w => Lib.run_eql_slice_nil (P := Try.prog) w 22 5 none n c 0 0 Try.underlying22
  go_enter Try.func27, Try.ntmps27
  go_wp2
  go_ret
  exact ⟨rfl, rfl⟩
set_option maxRecDepth 100000 in
theorem clone_some (ad : Addr) (n c : Nat) (l : List UInt8) (w : World) (h : Rd w w.heap.size (some ad) l) (hn : l.length = n) (hl : n ≤ 1000000000) :
    Calls Try.prog 27 #[.slice (some ad) n c] w (SlicePost w.heap.size l w) := by
  have hq := fun n c w => Lib.run_eql_slice_nil (P := Try.prog) w 22 5 (some ad) n c 0 0 Try.underlying22
  have HN := Lib.hid hn
  clear hn
  go_enter Try.func27, Try.ntmps27
  go_wp2_with (at_builtin; refine wpList_grow _ rfl (.tmp 5) (.tmp 6) _ rfl w.heap.size _ [] rfl (own_lit w w.heap.size _ [] rfl (by simp) (Nat.le_refl _)) _ l rfl (src_at n c (h.below ((Below.refl _ _).alloc (Nat.le_refl _) _) (Nat.le_refl _)) HN.out) (by rw [HN.out]; simp; omega) (by simp) ?_; intro A1 n1 c1 w1 h1 hb1)
  go_ret
  exact ⟨A1, n1, c1, rfl, h1, ((Below.refl _ _).alloc (Nat.le_refl _) _).trans hb1⟩
theorem wclone_any (A : Option Addr) (n c : Nat) (l : List UInt8) (w : World) (h : Rd w w.heap.size A l) (hn : l.length = n) (hl : n ≤ 1000000000) :
    Calls Try.prog 27 #[.slice A n c] w (SlicePost w.heap.size l w) := by
  rcases A with _ | ad
  · refine (clone_nil n c w).mono ?_
    rintro e w' ⟨rfl, rfl⟩
    rw [h.none_nil]
    exact ⟨none, 0, 0, rfl, Has.nil _ _, Below.refl _ _⟩
  · exact clone_some ad n c l w h hn hl
theorem cells_lent : (#[.int .u8 71, .int .u8 72] : Array Value) = (bv [71, 72]).toArray := rfl
/-- What Lent hands back: the bytes, and two more behind them. -/
def LentPost (l : List UInt8) (n : Nat) (w : World) (e : Ending) (w' : World) : Prop :=
  ∃ g c, e = .returned (.slice (some ⟨g, 0, none⟩) n c) ∧ Has w' w.heap.size (some ⟨g, 0, none⟩) (n + 2) c (l ++ [71, 72]) ∧ w.heap.size ≤ g ∧ g < w'.heap.size ∧ Below w.heap.size w w'
set_option maxRecDepth 100000 in
theorem lent_any (A : Option Addr) (n c : Nat) (l : List UInt8) (w : World) (h : Rd w w.heap.size A l) (hn : l.length = n) (hl : n ≤ 1000000000) :
    Calls Try.prog 7 #[.slice A n c] w (LentPost l n w) := by
  have HN := Lib.hid hn
  clear hn
  go_enter Try.func7, Try.ntmps7
  go_wp2_with (first
    | (at_builtin; refine wpList_grow _ rfl (.tmp 4) (.tmp 5) _ rfl w.heap.size _ [] rfl (own_lit w w.heap.size _ [] rfl (by simp) (Nat.le_refl _)) _ l rfl (src_at n c (h.below ((Below.refl _ _).alloc (Nat.le_refl _) _) (Nat.le_refl _)) HN.out) (by rw [HN.out]; simp; omega) (by simp) ?_; intro A1 n1 c1 w1 h1 hb1)
    | (at_builtin; refine wpList_grow _ rfl (.tmp 6) (.tmp 7) _ rfl w.heap.size _ _ rfl (h1.own.alloc _) _ [71, 72] rfl (src_of_rd 2 (rd_block [71, 72] cells_lent)) (by simp [HN.out]; omega) (by have := hb1.size; simp at this ⊢; omega) ?_; intro A2 n2 c2 w2 h2 hb2; obtain ⟨g, rfl, hg1, hg2⟩ := h2.some_ (by have := h2.len; simp at this; omega); have hcap : (n : Int) ≤ c2 := (by have := h2.len; have := h2.cap; have := HN.out; simp at *; omega)))
  go_ret
  have hb3 : Below w.heap.size w w1 := ((Below.refl _ _).alloc (Nat.le_refl _) _).trans hb1
  refine ⟨g, c2, rfl, ?_, hg1, hg2, (hb3.alloc hb3.size _).trans hb2⟩
  have e2 : n2 = n + 2 := by have := h2.len; have := HN.out; simp at *; omega
  rw [← e2]
  exact h2
end Go.Proofs.Ytbgfjkgpekkciaa
