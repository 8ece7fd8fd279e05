/- bytes.Clone, and the law's own Lent, Stays and num. -/
import Derived.Test.YthgcmcdacejelaaDoorUFrame
import Derived.Laws.IdiomStrings
import Derived.Lib.BufferRead
import Derived.Deep.QuietTactic
import Derived.BigQuiet
import Derived.Deep.Draws
namespace Go.Proofs.YthgcmcdacejelaaDoor
open Go.RowKit
/-- A slice's bytes as a text. -/
theorem text_of (w : World) {B : Nat} {A : Option Addr} {l : List UInt8} (n c : Nat) (h : Rd w B A l) (hn : l.length = n) :
    (convert 32 9 (.slice A n c)).run Tryd.prog w = .ok (.string ⟨l.toArray⟩) w := by
  subst hn
  rcases A with _ | ad
  · have hl : l = [] := by
      rcases h with h | ⟨b, off, h, _⟩
      · exact h
      · cases h
    subst hl
    exact Lib.run_convert_nil_bytes w _ _ 5 c Tryd.underlying32 Tryd.underlying5 Tryd.underlying9
  · refine run_convert_bytes_back w _ _ 5 ad c l Tryd.underlying32 Tryd.underlying5 Tryd.underlying9 fun j hj => ?_
    obtain ⟨b, off, he, _, hc⟩ := h.at_ hj
    injection he with he
    subst he
    rw [Addr.add_lit]
    exact hc j hj
theorem Rd.none_nil {w : World} {B : Nat} {l : List UInt8} (h : Rd w B none l) : l = [] := by
  rcases h with h | ⟨b, off, h, _⟩
  · exact h
  · cases h
/-- The first bytes. -/
theorem Rd.pre {w : World} {B : Nat} {A : Option Addr} {l m : List UInt8} (h : Rd w B A (l ++ m)) : Rd w B A l := by
  rcases h with h | ⟨b, off, h1, h2, h3⟩
  · exact .inl (List.append_eq_nil_iff.1 h).1
  · refine .inr ⟨b, off, h1, h2, fun i hi => ?_⟩
    have := h3 i (by simp; omega)
    rwa [List.getElem_append_left hi] at this
theorem Has.some_ {w : World} {base : Nat} {A : Option Addr} {n c : Nat} {l : List UInt8} (h : Has w base A n c l) (hn : 0 < n) : ∃ g, A = some ⟨g, 0, none⟩ ∧ base ≤ g ∧ g < w.heap.size := by
  have h1 := h.own
  unfold Own at h1
  rw [h.len] at h1
  obtain ⟨g, cap, hv, hb, hlt⟩ := h1.form hn
  injection hv with hA
  exact ⟨g, hA, hb, hlt⟩
theorem clone_nil (n c : Nat) (w : World) : Calls Tryd.prog 60 #[.slice none n c] w fun e w' => e = .returned (.slice none 0 0) ∧ w = w' := by
  have hq := fun n c w => Lib.run_eql_slice_nil (P := Tryd.prog) w 32 5 none n c 0 0 Tryd.underlying32
  go_enter Tryd.func60, Tryd.ntmps60
  go_wp2
  go_ret
  exact ⟨rfl, rfl⟩
set_option maxRecDepth 100000 in
theorem clone_some (ad : Addr) (n c : Nat) (l : List UInt8) (w : World) (h : Rd w w.heap.size (some ad) l) (hn : l.length = n) (hl : n ≤ 1000000000) :
    Calls Tryd.prog 60 #[.slice (some ad) n c] w (SlicePost w.heap.size l w) := by
  have hq := fun n c w => Lib.run_eql_slice_nil (P := Tryd.prog) w 32 5 (some ad) n c 0 0 Tryd.underlying32
  have HN := Lib.hid hn
  clear hn
  go_enter Tryd.func60, Tryd.ntmps60
  go_wp2_with (at_builtin; refine wpList_grow _ rfl (.tmp 5) (.tmp 6) _ rfl w.heap.size _ [] rfl (own_lit w w.heap.size _ [] rfl (by simp) (Nat.le_refl _)) _ l rfl (src_at n c (h.below ((Below.refl _ _).alloc (Nat.le_refl _) _) (Nat.le_refl _)) HN.out) (by rw [HN.out]; simp; omega) (by simp) ?_; intro A1 n1 c1 w1 h1 hb1)
  go_ret
  exact ⟨A1, n1, c1, rfl, h1, ((Below.refl _ _).alloc (Nat.le_refl _) _).trans hb1⟩
theorem wclone_any (A : Option Addr) (n c : Nat) (l : List UInt8) (w : World) (h : Rd w w.heap.size A l) (hn : l.length = n) (hl : n ≤ 1000000000) :
    Calls Tryd.prog 60 #[.slice A n c] w (SlicePost w.heap.size l w) := by
  rcases A with _ | ad
  · refine (clone_nil n c w).mono ?_
    rintro e w' ⟨rfl, rfl⟩
    rw [h.none_nil]
    exact ⟨none, 0, 0, rfl, Has.nil _ _, Below.refl _ _⟩
  · exact clone_some ad n c l w h hn hl
theorem cells_lent : (#[.int .u8 71, .int .u8 72] : Array Value) = (bv [71, 72]).toArray := rfl
/-- What Lent hands back: the bytes, and two more behind them. -/
def LentPost (l : List UInt8) (n : Nat) (w : World) (e : Ending) (w' : World) : Prop :=
  ∃ g c, e = .returned (.slice (some ⟨g, 0, none⟩) n c) ∧ Has w' w.heap.size (some ⟨g, 0, none⟩) (n + 2) c (l ++ [71, 72]) ∧ w.heap.size ≤ g ∧ g < w'.heap.size ∧ Below w.heap.size w w'
set_option maxRecDepth 100000 in
theorem lent_any (A : Option Addr) (n c : Nat) (l : List UInt8) (w : World) (h : Rd w w.heap.size A l) (hn : l.length = n) (hl : n ≤ 1000000000) :
    Calls Tryd.prog 27 #[.slice A n c] w (LentPost l n w) := by
  have HN := Lib.hid hn
  clear hn
  go_enter Tryd.func27, Tryd.ntmps27
  go_wp2_with (first
    | (at_builtin; refine wpList_grow _ rfl (.tmp 4) (.tmp 5) _ rfl w.heap.size _ [] rfl (own_lit w w.heap.size _ [] rfl (by simp) (Nat.le_refl _)) _ l rfl (src_at n c (h.below ((Below.refl _ _).alloc (Nat.le_refl _) _) (Nat.le_refl _)) HN.out) (by rw [HN.out]; simp; omega) (by simp) ?_; intro A1 n1 c1 w1 h1 hb1)
    | (at_builtin; refine wpList_grow _ rfl (.tmp 6) (.tmp 7) _ rfl w.heap.size _ _ rfl (h1.own.alloc _) _ [71, 72] rfl (src_of_rd 2 (rd_block [71, 72] cells_lent)) (by simp [HN.out]; omega) (by have := hb1.size; simp at this ⊢; omega) ?_; intro A2 n2 c2 w2 h2 hb2; obtain ⟨g, rfl, hg1, hg2⟩ := h2.some_ (by have := h2.len; simp at this; omega); have hcap : (n : Int) ≤ c2 := (by have := h2.len; have := h2.cap; have := HN.out; simp at *; omega)))
  go_ret
  have hb3 : Below w.heap.size w w1 := ((Below.refl _ _).alloc (Nat.le_refl _) _).trans hb1
  refine ⟨g, c2, rfl, ?_, hg1, hg2, (hb3.alloc hb3.size _).trans hb2⟩
  have e2 : n2 = n + 2 := by have := h2.len; have := HN.out; simp at *; omega
  rw [← e2]
  exact h2
end Go.Proofs.YthgcmcdacejelaaDoor
