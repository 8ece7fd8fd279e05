/- Numbers, lengths and frames as bytes: plain lists; nothing of the program. wire.appendNum and gleberef01.Num: a number's bytes. gleberef01.Num, wire.Num, wire.appendFixed, wire.fixed. wire.Frame. bytes.Clone, and the law's own Lent, Stays and num. -/
import Derived.Test.YtimmnmidhjbanaaDoorK02
import Derived.Test.YtimmnmidhjbanaaDoorK10
import Derived.Laws.IdiomStrings
import Derived.Lib.BufferRead
import Derived.Deep.QuietTactic
import Derived.BigQuiet
import Derived.Deep.Draws
import Derived.Laws.BitsLemmas
import Derived.Laws.Tables
import Derived.Laws.CopyOwn
namespace Go.Proofs.YtimmnmidhjbanaaDoor
/-- A number's bytes: seven bits each, the lowest first. -/
def numB (n : Nat) : List UInt8 := if n < 128 then [UInt8.ofNat n] else UInt8.ofNat (n % 128 + 128) :: numB (n / 128)
termination_by n
decreasing_by omega
theorem numB_small {n : Nat} (h : n < 128) : numB n = [UInt8.ofNat n] := by rw [numB, if_pos h]
theorem numB_great {n : Nat} (h : ¬ n < 128) : numB n = UInt8.ofNat (n % 128 + 128) :: numB (n / 128) := by rw [numB, if_neg h]
theorem numB_length (k : Nat) : ∀ n : Nat, n < 128 ^ (k + 1) → (numB n).length ≤ k + 1 := by
  induction k with
  | zero => intro n h; rw [numB_small (by simpa using h)]; simp
  | succ k ih =>
    intro n h
    by_cases h1 : n < 128
    · rw [numB_small h1]; simp
    · rw [numB_great h1, List.length_cons]
      have := ih (n / 128) (by rw [Nat.pow_succ] at h; omega)
      omega
theorem numB_le {n : Nat} (h : n ≤ 9223372036854775807) : (numB n).length ≤ 9 := numB_length 8 n (by
  have : (128 : Nat) ^ (8 + 1) = 9223372036854775808 := by rfl
  omega)
theorem numB_pos (n : Nat) : 0 < (numB n).length := by
  by_cases h : n < 128
  · rw [numB_small h]; simp
  · rw [numB_great h]; simp
theorem ofNat_toNat {n : Nat} (h : n < 256) : (UInt8.ofNat n).toNat = n := by
  simp only [UInt8.toNat_ofNat']
  exact Nat.mod_eq_of_lt (by omega)
end Go.Proofs.YtimmnmidhjbanaaDoor
namespace Go.Proofs.YtimmnmidhjbanaaDoor
open Go.RowKit
theorem ofi64 (n : Nat) (h : n < 9223372036854775808) : (BitVec.ofInt 64 (n : Int)).toNat = n := by
  rw [BitVec.ofInt_natCast, BitVec.toNat_ofNat]; exact Nat.mod_eq_of_lt (by omega)
theorem and127 (m : Nat) (h : m < 9223372036854775808) : bits .and .i64 (m : Int) 127 = ((m % 128 : Nat) : Int) := by
  show IntKind.i64.wrap ((BitVec.ofInt 64 (m : Int) &&& BitVec.ofInt 64 ((127 : Nat) : Int)).toNat : Int) = _
  rw [BitVec.toNat_and, ofi64 m h, ofi64 127 (by omega), nat_mask7, IntKind.wrap_i64]
  omega
theorem or128 (q : Nat) (h : q < 128) : bits .or .i64 (q : Int) 128 = ((q + 128 : Nat) : Int) := by
  have e : q ||| 128 = q + 128 := by
    have h1 := nat_join 7 128 q (by omega) (by omega)
    rw [Nat.or_comm] at h1
    omega
  show IntKind.i64.wrap ((BitVec.ofInt 64 (q : Int) ||| BitVec.ofInt 64 ((128 : Nat) : Int)).toNat : Int) = _
  rw [BitVec.toNat_or, ofi64 q (by omega), ofi64 128 (by omega), e, IntKind.wrap_i64]
  omega
theorem byte_eq {p : Nat} (h : p < 256) : (p : Int) = ((UInt8.ofNat p).toNat : Int) := by rw [ofNat_toNat h]
set_option maxRecDepth 100000 in
set_option maxHeartbeats 400000 in
theorem appendNum_any (base : Nat) (v : Value) (l0 : List UInt8) (N : Nat) (w : World) (hown0 : Own w base v l0) (hbase : base ≤ w.heap.size) (hl : l0.length ≤ 1000000000) (hN : N ≤ 9223372036854775807) :
    Calls Tryd.prog 84 #[v, .int .i64 (N : Int)] w fun e w' => ∃ v', e = .returned v' ∧ Own w' base v' (l0 ++ numB N) ∧ Below base w w' := by
  have hNl := numB_le hN
  have HN := Lib.hid hN
  clear hN
  go_enter Tryd.func84, Tryd.ntmps84
  go_wp2
  go_loopw [0, 1] (fun s r wr => ∃ (l : List UInt8) (m : Nat), r = .int .i64 (m : Int) ∧ m ≤ N ∧ l ++ numB m = l0 ++ numB N ∧ Own wr base s l ∧ base ≤ wr.heap.size ∧ Below base w wr) (fun _ r _ => (intOf r).toNat)
  case atStart => exact ⟨l0, N, rfl, Nat.le_refl _, rfl, hown0, hbase, Below.refl _ _⟩
  case round =>
    obtain ⟨l, m, rfl, hm, heq, hown, hbs, hb⟩ := hrel
    have hlen : l.length + (numB m).length = l0.length + (numB N).length := by rw [← List.length_append, heq, List.length_append]
    have hll : l.length ≤ 1000000010 := by omega
    by_cases hlt : m < 128
    · have HP := Lib.hid (byte_eq (p := m) (by omega))
      rw [numB_small hlt] at heq
      have HE := Lib.hid heq
      clear heq hlen hNl hown0
      go_wp2_with (at_builtin; refine wpList_app _ rfl (.tmp 16) (.tmp 19) _ rfl base _ l rfl (hown.alloc _) _ [UInt8.ofNat m] rfl (src_of_rd 1 (rd_one _ HP.out)) (by simp only [List.length_cons, List.length_nil]; omega) (by simp; omega) ?_; intro v1 w1 hown1 hb1)
      refine bodyPost_ret (v := v1) (by simp [results, Tryd.results84, go_sem]) rfl ⟨v1, rfl, ?_, (hb.alloc hbs _).trans hb1⟩
      rw [← HE.out]
      exact hown1
    · obtain ⟨q, hq⟩ : ∃ q, q = m % 128 := ⟨_, rfl⟩
      have hql : q < 128 := by omega
      have e1 : bits .and .i64 (m : Int) 127 = (q : Int) := by rw [hq]; exact and127 m (by have := HN.out; omega)
      obtain ⟨p, hp⟩ : ∃ p, p = q + 128 := ⟨_, rfl⟩
      have hpl : p < 256 := by omega
      have e2 : bits .or .i64 (q : Int) 128 = (p : Int) := by rw [hp]; exact or128 q hql
      rw [numB_great hlt, ← hq, ← hp] at heq
      have HP := Lib.hid (byte_eq (p := p) hpl)
      have HE := Lib.hid heq
      clear heq hlen hNl hown0 hq hp
      go_wp2_with (at_builtin; refine wpList_app _ rfl (.tmp 7) (.tmp 12) _ rfl base _ l rfl (hown.alloc _) _ [UInt8.ofNat p] rfl (src_of_rd 1 (rd_one _ HP.out)) (by simp only [List.length_cons, List.length_nil]; omega) (by simp; omega) ?_; intro v1 w1 hown1 hb1)
      go_roundw
      case rel => exact ⟨l ++ [UInt8.ofNat p], m / 128, by go_num, by omega, by rw [← HE.out, List.append_assoc]; rfl, hown1, Nat.le_trans (by simp; omega) hb1.size, (hb.alloc hbs _).trans hb1⟩
      case measure => simp [intOf]; omega
end Go.Proofs.YtimmnmidhjbanaaDoor
namespace Go.Proofs.YtimmnmidhjbanaaDoor
open Go.RowKit
/-- The bytes of a number that may be; nothing of another one. -/
def numL (n : Int) : List UInt8 := if 0 ≤ n ∧ n ≤ 9007199254740992 then numB n.toNat else []
def numE (n : Int) : Int := if 0 ≤ n ∧ n ≤ 9007199254740992 then 0 else 1
/-- What wire.Num answers. -/
def NumPost (n : Int) (w : World) (e : Ending) (w' : World) : Prop := ∃ v', e = .returned (.tuple #[v', .int .i64 (numE n)]) ∧ Own w' w.heap.size v' (numL n) ∧ Below w.heap.size w w'
set_option maxRecDepth 100000 in
theorem num_any (n : Int) (w : World) : Calls Tryd.prog 68 #[.int .i64 n] w (NumPost n w) := by
  by_cases h0 : n < 0
  · have he := Lib.hid (show numE n = 1 by unfold numE; rw [if_neg (by omega)])
    have hl := Lib.hid (show numL n = [] by unfold numL; rw [if_neg (by omega)])
    go_enter Tryd.func68, Tryd.ntmps68
    go_wp2
    go_ret2
    exact ⟨.slice none 0 0, by rw [he.out]; rfl, by rw [hl.out]; exact Own.nil _ _, Below.refl _ _⟩
  · by_cases h1 : 9007199254740992 < n
    · have h2 : 0 ≤ n := by omega
      have he := Lib.hid (show numE n = 1 by unfold numE; rw [if_neg (by omega)])
      have hl := Lib.hid (show numL n = [] by unfold numL; rw [if_neg (by omega)])
      go_enter Tryd.func68, Tryd.ntmps68
      go_wp2
      go_ret2
      exact ⟨.slice none 0 0, by rw [he.out]; rfl, by rw [hl.out]; exact Own.nil _ _, Below.refl _ _⟩
    · have h2 : 0 ≤ n := by omega
      obtain ⟨N, rfl⟩ := Int.eq_ofNat_of_zero_le h2
      have h3 : (N : Int) ≤ 9007199254740992 := by omega
      have he := Lib.hid (show numE (N : Int) = 0 by unfold numE; rw [if_pos (by omega)])
      have hl := Lib.hid (show numL (N : Int) = numB N by unfold numL; rw [if_pos (by omega)]; rfl)
      go_enter Tryd.func68, Tryd.ntmps68
      go_wp2_with (go_at_call 84; refine (appendNum_any w.heap.size _ [] N _ (Own.nil _ _) (Nat.le_refl _) (by simp) (by omega)).mono ?_; rintro e w1 ⟨v1, rfl, hown1, hb1⟩)
      go_ret2
      exact ⟨v1, by rw [he.out]; rfl, by rw [hl.out]; exact hown1, hb1⟩
end Go.Proofs.YtimmnmidhjbanaaDoor
namespace Go.Proofs.YtimmnmidhjbanaaDoor
open Go.RowKit
/-- A call that hands back a slice of its own that holds l. -/
def SlicePost (base : Nat) (l : List UInt8) (w : World) (e : Ending) (w' : World) : Prop := ∃ A n c, e = .returned (.slice A n c) ∧ Has w' base A n c l ∧ Below base w w'
/-- .. and a number beside it. -/
def SliceNumPost (base : Nat) (l : List UInt8) (k : Int) (w : World) (e : Ending) (w' : World) : Prop := ∃ A n c, e = .returned (.tuple #[.slice A n c, .int .i64 k]) ∧ Has w' base A n c l ∧ Below base w w'
theorem appendNum_at (base : Nat) (A : Option Addr) (n c : Nat) (l0 : List UInt8) (N : Int) (w : World) (h : Has w base A n c l0) (hbase : base ≤ w.heap.size) (hl : n ≤ 1000000000) (hN : 0 ≤ N) (hM : N ≤ 9223372036854775807) :
    Calls Tryd.prog 84 #[.slice A n c, .int .i64 N] w (SlicePost base (l0 ++ numB N.toNat) w) := by
  obtain ⟨N, rfl⟩ := Int.eq_ofNat_of_zero_le hN
  refine (appendNum_any base _ l0 N w h.own hbase (by rw [h.len]; exact hl) (by omega)).mono ?_
  rintro e w' ⟨v', rfl, h1, h2⟩
  obtain ⟨A', n', c', rfl, h3⟩ := h1.has
  exact ⟨A', n', c', rfl, h3, h2⟩
end Go.Proofs.YtimmnmidhjbanaaDoor
namespace Go.Proofs.YtimmnmidhjbanaaDoor
open Go.RowKit
/-- A slice's bytes as a text. -/
theorem text_of (w : World) {B : Nat} {A : Option Addr} {l : List UInt8} (n c : Nat) (h : Rd w B A l) (hn : l.length = n) :
    (convert 31 9 (.slice A n c)).run Tryd.prog w = .ok (.string ⟨l.toArray⟩) w := by
  subst hn
  rcases A with _ | ad
  · have hl : l = [] := by
      rcases h with h | ⟨b, off, h, _⟩
      · exact h
      · cases h
    subst hl
    exact Lib.run_convert_nil_bytes w _ _ 5 c Tryd.underlying31 Tryd.underlying5 Tryd.underlying9
  · refine run_convert_bytes_back w _ _ 5 ad c l Tryd.underlying31 Tryd.underlying5 Tryd.underlying9 fun j hj => ?_
    obtain ⟨b, off, he, _, hc⟩ := h.at_ hj
    injection he with he
    subst he
    rw [Addr.add_lit]
    exact hc j hj
theorem Rd.none_nil {w : World} {B : Nat} {l : List UInt8} (h : Rd w B none l) : l = [] := by
  rcases h with h | ⟨b, off, h, _⟩
  · exact h
  · cases h
/-- The first bytes. -/
theorem Rd.pre {w : World} {B : Nat} {A : Option Addr} {l m : List UInt8} (h : Rd w B A (l ++ m)) : Rd w B A l := by
  rcases h with h | ⟨b, off, h1, h2, h3⟩
  · exact .inl (List.append_eq_nil_iff.1 h).1
  · refine .inr ⟨b, off, h1, h2, fun i hi => ?_⟩
    have := h3 i (by simp; omega)
    rwa [List.getElem_append_left hi] at this
theorem Has.some_ {w : World} {base : Nat} {A : Option Addr} {n c : Nat} {l : List UInt8} (h : Has w base A n c l) (hn : 0 < n) : ∃ g, A = some ⟨g, 0, none⟩ ∧ base ≤ g ∧ g < w.heap.size := by
  have h1 := h.own
  unfold Own at h1
  rw [h.len] at h1
  obtain ⟨g, cap, hv, hb, hlt⟩ := h1.form hn
  injection hv with hA
  exact ⟨g, hA, hb, hlt⟩
theorem clone_nil (n c : Nat) (w : World) : Calls Tryd.prog 57 #[.slice none n c] w fun e w' => e = .returned (.slice none 0 0) ∧ w = w' := by
  have hq := fun n c w => Lib.run_eql_slice_nil (P := Tryd.prog) w 31 5 none n c 0 0 Tryd.underlying31
  go_enter Tryd.func57, Tryd.ntmps57
  go_wp2
  go_ret
  exact ⟨rfl, rfl⟩
set_option maxRecDepth 100000 in
theorem clone_some (ad : Addr) (n c : Nat) (l : List UInt8) (w : World) (h : Rd w w.heap.size (some ad) l) (hn : l.length = n) (hl : n ≤ 1000000000) :
    Calls Tryd.prog 57 #[.slice (some ad) n c] w (SlicePost w.heap.size l w) := by
  have hq := fun n c w => Lib.run_eql_slice_nil (P := Tryd.prog) w 31 5 (some ad) n c 0 0 Tryd.underlying31
  have HN := Lib.hid hn
  clear hn
  go_enter Tryd.func57, Tryd.ntmps57
  go_wp2_with (at_builtin; refine wpList_grow _ rfl (.tmp 5) (.tmp 6) _ rfl w.heap.size _ [] rfl (own_lit w w.heap.size _ [] rfl (by simp) (Nat.le_refl _)) _ l rfl (src_at n c (h.below ((Below.refl _ _).alloc (Nat.le_refl _) _) (Nat.le_refl _)) HN.out) (by rw [HN.out]; simp; omega) (by simp) ?_; intro A1 n1 c1 w1 h1 hb1)
  go_ret
  exact ⟨A1, n1, c1, rfl, h1, ((Below.refl _ _).alloc (Nat.le_refl _) _).trans hb1⟩
theorem wclone_any (A : Option Addr) (n c : Nat) (l : List UInt8) (w : World) (h : Rd w w.heap.size A l) (hn : l.length = n) (hl : n ≤ 1000000000) :
    Calls Tryd.prog 57 #[.slice A n c] w (SlicePost w.heap.size l w) := by
  rcases A with _ | ad
  · refine (clone_nil n c w).mono ?_
    rintro e w' ⟨rfl, rfl⟩
    rw [h.none_nil]
    exact ⟨none, 0, 0, rfl, Has.nil _ _, Below.refl _ _⟩
  · exact clone_some ad n c l w h hn hl
theorem cells_lent : (#[.int .u8 71, .int .u8 72] : Array Value) = (bv [71, 72]).toArray := rfl
/-- What Lent hands back: the bytes, and two more behind them. -/
def LentPost (l : List UInt8) (n : Nat) (w : World) (e : Ending) (w' : World) : Prop :=
  ∃ g c, e = .returned (.slice (some ⟨g, 0, none⟩) n c) ∧ Has w' w.heap.size (some ⟨g, 0, none⟩) (n + 2) c (l ++ [71, 72]) ∧ w.heap.size ≤ g ∧ g < w'.heap.size ∧ Below w.heap.size w w'
set_option maxRecDepth 100000 in
theorem lent_any (A : Option Addr) (n c : Nat) (l : List UInt8) (w : World) (h : Rd w w.heap.size A l) (hn : l.length = n) (hl : n ≤ 1000000000) :
    Calls Tryd.prog 28 #[.slice A n c] w (LentPost l n w) := by
  have HN := Lib.hid hn
  clear hn
  go_enter Tryd.func28, Tryd.ntmps28
  go_wp2_with (first
    | (at_builtin; refine wpList_grow _ rfl (.tmp 4) (.tmp 5) _ rfl w.heap.size _ [] rfl (own_lit w w.heap.size _ [] rfl (by simp) (Nat.le_refl _)) _ l rfl (src_at n c (h.below ((Below.refl _ _).alloc (Nat.le_refl _) _) (Nat.le_refl _)) HN.out) (by rw [HN.out]; simp; omega) (by simp) ?_; intro A1 n1 c1 w1 h1 hb1)
    | (at_builtin; refine wpList_grow _ rfl (.tmp 6) (.tmp 7) _ rfl w.heap.size _ _ rfl (h1.own.alloc _) _ [71, 72] rfl (src_of_rd 2 (rd_block [71, 72] cells_lent)) (by simp [HN.out]; omega) (by have := hb1.size; simp at this ⊢; omega) ?_; intro A2 n2 c2 w2 h2 hb2; obtain ⟨g, rfl, hg1, hg2⟩ := h2.some_ (by have := h2.len; simp at this; omega); have hcap : (n : Int) ≤ c2 := (by have := h2.len; have := h2.cap; have := HN.out; simp at *; omega)))
  go_ret
  have hb3 : Below w.heap.size w w1 := ((Below.refl _ _).alloc (Nat.le_refl _) _).trans hb1
  refine ⟨g, c2, rfl, ?_, hg1, hg2, (hb3.alloc hb3.size _).trans hb2⟩
  have e2 : n2 = n + 2 := by have := h2.len; have := HN.out; simp at *; omega
  rw [← e2]
  exact h2
end Go.Proofs.YtimmnmidhjbanaaDoor
