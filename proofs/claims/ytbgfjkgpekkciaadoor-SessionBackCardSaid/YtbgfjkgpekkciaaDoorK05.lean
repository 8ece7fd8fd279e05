/- Numbers, lengths and frames as bytes: plain lists; nothing of the program. wire.appendNum and gleberef01.Num: a number's bytes. gleberef01.Num, wire.Num, wire.appendFixed, wire.fixed. -/
import Derived.Test.YtbgfjkgpekkciaaDoorK04
namespace Go.Proofs.YtbgfjkgpekkciaaDoor
/-- A number's bytes: seven bits each, the lowest first. -/
def numB (n : Nat) : List UInt8 := if n < 128 then [UInt8.ofNat n] else UInt8.ofNat (n % 128 + 128) :: numB (n / 128)
termination_by n
decreasing_by omega
theorem numB_small {n : Nat} (h : n < 128) : numB n = [UInt8.ofNat n] := by rw [numB, if_pos h]
theorem numB_great {n : Nat} (h : ¬ n < 128) : numB n = UInt8.ofNat (n % 128 + 128) :: numB (n / 128) := by rw [numB, if_neg h]
theorem numB_length (k : Nat) : ∀ n : Nat, n < 128 ^ (k + 1) → (numB n).length ≤ k + 1 := by
  induction k with
  | zero => intro n h; rw [numB_small (by simpa using h)]; simp
  | succ k ih =>
    intro n h
    by_cases h1 : n < 128
    · rw [numB_small h1]; simp
    · rw [numB_great h1, List.length_cons]
      have := ih (n / 128) (by rw [Nat.pow_succ] at h; omega)
      omega
theorem numB_le {n : Nat} (h : n ≤ 9223372036854775807) : (numB n).length ≤ 9 := numB_length 8 n (by
  have : (128 : Nat) ^ (8 + 1) = 9223372036854775808 := by rfl
  omega)
theorem numB_pos (n : Nat) : 0 < (numB n).length := by
  by_cases h : n < 128
  · rw [numB_small h]; simp
  · rw [numB_great h]; simp
theorem ofNat_toNat {n : Nat} (h : n < 256) : (UInt8.ofNat n).toNat = n := by
  simp only [UInt8.toNat_ofNat']
  exact Nat.mod_eq_of_lt (by omega)
end Go.Proofs.YtbgfjkgpekkciaaDoor
namespace Go.Proofs.YtbgfjkgpekkciaaDoor
open Go.RowKit
theorem ofi64 (n : Nat) (h : n < 9223372036854775808) : (BitVec.ofInt 64 (n : Int)).toNat = n := by
  rw [BitVec.ofInt_natCast, BitVec.toNat_ofNat]; exact Nat.mod_eq_of_lt (by omega)
theorem and127 (m : Nat) (h : m < 9223372036854775808) : bits .and .i64 (m : Int) 127 = ((m % 128 : Nat) : Int) := by
  show IntKind.i64.wrap ((BitVec.ofInt 64 (m : Int) &&& BitVec.ofInt 64 ((127 : Nat) : Int)).toNat : Int) = _
  rw [BitVec.toNat_and, ofi64 m h, ofi64 127 (by omega), nat_mask7, IntKind.wrap_i64]
  omega
theorem or128 (q : Nat) (h : q < 128) : bits .or .i64 (q : Int) 128 = ((q + 128 : Nat) : Int) := by
  have e : q ||| 128 = q + 128 := by
    have h1 := nat_join 7 128 q (by omega) (by omega)
    rw [Nat.or_comm] at h1
    omega
  show IntKind.i64.wrap ((BitVec.ofInt 64 (q : Int) ||| BitVec.ofInt 64 ((128 : Nat) : Int)).toNat : Int) = _
  rw [BitVec.toNat_or, ofi64 q (by omega), ofi64 128 (by omega), e, IntKind.wrap_i64]
  omega
theorem byte_eq {p : Nat} (h : p < 256) : (p : Int) = ((UInt8.ofNat p).toNat : Int) := by rw [ofNat_toNat h]
set_option maxRecDepth 100000 in
set_option maxHeartbeats 400000 in
theorem appendNum_any (base : Nat) (v : Value) (l0 : List UInt8) (N : Nat) (w : World) (hown0 : Own w base v l0) (hbase : base ≤ w.heap.size) (hl : l0.length ≤ 1000000000) (hN : N ≤ 9223372036854775807) :
    Calls Tryd.prog 50 #[v, .int .i64 (N : Int)] w fun e w' => ∃ v', e = .returned v' ∧ Own w' base v' (l0 ++ numB N) ∧ Below base w w' := by
  have hNl := numB_le hN
  have HN := Lib.hid hN
  clear hN
  go_enter Tryd.func50, Tryd.ntmps50
  go_wp2
  go_loopw [0, 1] (fun s r wr => ∃ (l : List UInt8) (m : Nat), r = .int .i64 (m : Int) ∧ m ≤ N ∧ l ++ numB m = l0 ++ numB N ∧ Own wr base s l ∧ base ≤ wr.heap.size ∧ Below base w wr) (fun _ r _ => (intOf r).toNat)
  case atStart => exact ⟨l0, N, rfl, Nat.le_refl _, rfl, hown0, hbase, Below.refl _ _⟩
  case round =>
    obtain ⟨l, m, rfl, hm, heq, hown, hbs, hb⟩ := hrel
    have hlen : l.length + (numB m).length = l0.length + (numB N).length := by rw [← List.length_append, heq, List.length_append]
    have hll : l.length ≤ 1000000010 := by omega
    by_cases hlt : m < 128
    · have HP := Lib.hid (byte_eq (p := m) (by omega))
      rw [numB_small hlt] at heq
      have HE := Lib.hid heq
      clear heq hlen hNl hown0
      go_wp2_with (at_builtin; refine wpList_app _ rfl (.tmp 16) (.tmp 19) _ rfl base _ l rfl (hown.alloc _) _ [UInt8.ofNat m] rfl (src_of_rd 1 (rd_one _ HP.out)) (by simp only [List.length_cons, List.length_nil]; omega) (by simp; omega) ?_; intro v1 w1 hown1 hb1)
      refine bodyPost_ret (v := v1) (by simp [results, Tryd.results50, go_sem]) rfl ⟨v1, rfl, ?_, (hb.alloc hbs _).trans hb1⟩
      rw [← HE.out]
      exact hown1
    · obtain ⟨q, hq⟩ : ∃ q, q = m % 128 := ⟨_, rfl⟩
      have hql : q < 128 := by omega
      have e1 : bits .and .i64 (m : Int) 127 = (q : Int) := by rw [hq]; exact and127 m (by have := HN.out; omega)
      obtain ⟨p, hp⟩ : ∃ p, p = q + 128 := ⟨_, rfl⟩
      have hpl : p < 256 := by omega
      have e2 : bits .or .i64 (q : Int) 128 = (p : Int) := by rw [hp]; exact or128 q hql
      rw [numB_great hlt, ← hq, ← hp] at heq
      have HP := Lib.hid (byte_eq (p := p) hpl)
      have HE := Lib.hid heq
      clear heq hlen hNl hown0 hq hp
      go_wp2_with (at_builtin; refine wpList_app _ rfl (.tmp 7) (.tmp 12) _ rfl base _ l rfl (hown.alloc _) _ [UInt8.ofNat p] rfl (src_of_rd 1 (rd_one _ HP.out)) (by simp only [List.length_cons, List.length_nil]; omega) (by simp; omega) ?_; intro v1 w1 hown1 hb1)
      go_roundw
      case rel => exact ⟨l ++ [UInt8.ofNat p], m / 128, by go_num, by omega, by rw [← HE.out, List.append_assoc]; rfl, hown1, Nat.le_trans (by simp; omega) hb1.size, (hb.alloc hbs _).trans hb1⟩
      case measure => simp [intOf]; omega
end Go.Proofs.YtbgfjkgpekkciaaDoor
namespace Go.Proofs.YtbgfjkgpekkciaaDoor
open Go.RowKit
/-- The bytes of a number that may be; nothing of another one. -/
def numL (n : Int) : List UInt8 := if 0 ≤ n ∧ n ≤ 9007199254740992 then numB n.toNat else []
def numE (n : Int) : Int := if 0 ≤ n ∧ n ≤ 9007199254740992 then 0 else 1
set_option maxRecDepth 100000 in
set_option maxHeartbeats 400000 in
theorem refNum_good (N : Nat) (w : World) (hN : (N : Int) ≤ 9007199254740992) :
    Calls Tryd.prog 33 #[.int .i64 (N : Int)] w fun e w' => ∃ v', e = .returned v' ∧ Own w' w.heap.size v' (numB N) ∧ Below w.heap.size w w' := by
  have hNl : (numB N).length ≤ 9 := numB_le (by omega)
  have hN0 : (0 : Int) ≤ (N : Int) := by omega
  go_enter Tryd.func33, Tryd.ntmps33
  go_wp2
  have HN := Lib.hid hN
  clear hN hN0
  go_loopw [0, 3] (fun r s wr => ∃ (l : List UInt8) (m : Nat), r = .int .i64 (m : Int) ∧ m ≤ N ∧ l ++ numB m = numB N ∧ Own wr w.heap.size s l ∧ Below w.heap.size w wr) (fun r _ _ => (intOf r).toNat)
  case atStart => exact ⟨[], N, rfl, Nat.le_refl _, rfl, Own.nil _ _, Below.refl _ _⟩
  case round =>
    obtain ⟨l, m, rfl, hm, heq, hown, hb⟩ := hrel
    have hbs := hb.size
    have hlen : l.length + (numB m).length = (numB N).length := by rw [← List.length_append, heq]
    have hll : l.length ≤ 9 := by omega
    by_cases hlt : m < 128
    · have HP := Lib.hid (byte_eq (p := m) (by omega))
      rw [numB_small hlt] at heq
      have HE := Lib.hid heq
      clear heq hlen hNl
      go_wp2_with (at_builtin; refine wpList_app _ rfl (.tmp 21) (.tmp 24) _ rfl w.heap.size _ l rfl (hown.alloc _) _ [UInt8.ofNat m] rfl (src_of_rd 1 (rd_one _ HP.out)) (by simp only [List.length_cons, List.length_nil]; omega) (by simp; omega) ?_; intro v1 w1 hown1 hb1)
      refine bodyPost_ret (v := v1) (by simp [results, Tryd.results33, go_sem]) rfl ⟨v1, rfl, ?_, (hb.alloc hbs _).trans hb1⟩
      rw [← HE.out]
      exact hown1
    · obtain ⟨p, hp⟩ : ∃ p, p = m % 128 + 128 := ⟨_, rfl⟩
      have hpl : p < 256 := by omega
      have e2 : 128 + (m : Int) % 128 = (p : Int) := by omega
      rw [numB_great hlt, ← hp] at heq
      have HP := Lib.hid (byte_eq (p := p) hpl)
      have HE := Lib.hid heq
      clear heq hlen hNl hp
      go_wp2_with (at_builtin; refine wpList_app _ rfl (.tmp 12) (.tmp 17) _ rfl w.heap.size _ l rfl (hown.alloc _) _ [UInt8.ofNat p] rfl (src_of_rd 1 (rd_one _ HP.out)) (by simp only [List.length_cons, List.length_nil]; omega) (by simp; omega) ?_; intro v1 w1 hown1 hb1)
      go_roundw
      case rel => exact ⟨l ++ [UInt8.ofNat p], m / 128, by go_num, by omega, by rw [← HE.out, List.append_assoc]; rfl, hown1, (hb.alloc hbs _).trans hb1⟩
      case measure => simp [intOf]; omega
theorem refNum_low (n : Int) (w : World) (h : n < 0) : Calls Tryd.prog 33 #[.int .i64 n] w fun e w' => e = .returned (.slice none 0 0) ∧ w = w' := by
  go_enter Tryd.func33, Tryd.ntmps33
  go_wp2
  go_ret
  exact ⟨rfl, rfl⟩
theorem refNum_high (n : Int) (w : World) (h0 : 0 ≤ n) (h : 9007199254740992 < n) : Calls Tryd.prog 33 #[.int .i64 n] w fun e w' => e = .returned (.slice none 0 0) ∧ w = w' := by
  go_enter Tryd.func33, Tryd.ntmps33
  go_wp2
  go_ret
  exact ⟨rfl, rfl⟩
theorem refNum_any (n : Int) (w : World) :
    Calls Tryd.prog 33 #[.int .i64 n] w fun e w' => ∃ v', e = .returned v' ∧ Own w' w.heap.size v' (numL n) ∧ Below w.heap.size w w' := by
  unfold numL
  by_cases h0 : n < 0
  · rw [if_neg (by omega)]
    refine (refNum_low n w h0).mono ?_
    rintro e w' ⟨rfl, rfl⟩
    exact ⟨_, rfl, Own.nil _ _, Below.refl _ _⟩
  · by_cases h1 : 9007199254740992 < n
    · rw [if_neg (by omega)]
      refine (refNum_high n w (by omega) h1).mono ?_
      rintro e w' ⟨rfl, rfl⟩
      exact ⟨_, rfl, Own.nil _ _, Below.refl _ _⟩
    · rw [if_pos (by omega)]
      obtain ⟨N, rfl⟩ := Int.eq_ofNat_of_zero_le (show 0 ≤ n by omega)
      exact refNum_good N w (by omega)
/-- What wire.Num answers. -/
def NumPost (n : Int) (w : World) (e : Ending) (w' : World) : Prop := ∃ v', e = .returned (.tuple #[v', .int .i64 (numE n)]) ∧ Own w' w.heap.size v' (numL n) ∧ Below w.heap.size w w'
set_option maxRecDepth 100000 in
theorem num_any (n : Int) (w : World) : Calls Tryd.prog 44 #[.int .i64 n] w (NumPost n w) := by
  by_cases h0 : n < 0
  · have he := Lib.hid (show numE n = 1 by unfold numE; rw [if_neg (by omega)])
    have hl := Lib.hid (show numL n = [] by unfold numL; rw [if_neg (by omega)])
    go_enter Tryd.func44, Tryd.ntmps44
    go_wp2
    go_ret2
    exact ⟨.slice none 0 0, by rw [he.out]; rfl, by rw [hl.out]; exact Own.nil _ _, Below.refl _ _⟩
  · by_cases h1 : 9007199254740992 < n
    · have h2 : 0 ≤ n := by omega
      have he := Lib.hid (show numE n = 1 by unfold numE; rw [if_neg (by omega)])
      have hl := Lib.hid (show numL n = [] by unfold numL; rw [if_neg (by omega)])
      go_enter Tryd.func44, Tryd.ntmps44
      go_wp2
      go_ret2
      exact ⟨.slice none 0 0, by rw [he.out]; rfl, by rw [hl.out]; exact Own.nil _ _, Below.refl _ _⟩
    · have h2 : 0 ≤ n := by omega
      obtain ⟨N, rfl⟩ := Int.eq_ofNat_of_zero_le h2
      have h3 : (N : Int) ≤ 9007199254740992 := by omega
      have he := Lib.hid (show numE (N : Int) = 0 by unfold numE; rw [if_pos (by omega)])
      have hl := Lib.hid (show numL (N : Int) = numB N by unfold numL; rw [if_pos (by omega)]; rfl)
      go_enter Tryd.func44, Tryd.ntmps44
      go_wp2_with (go_at_call 50; refine (appendNum_any w.heap.size _ [] N _ (Own.nil _ _) (Nat.le_refl _) (by simp) (by omega)).mono ?_; rintro e w1 ⟨v1, rfl, hown1, hb1⟩)
      go_ret2
      exact ⟨v1, by rw [he.out]; rfl, by rw [hl.out]; exact hown1, hb1⟩
end Go.Proofs.YtbgfjkgpekkciaaDoor
