/- Lists of numbers in memory: In, SameList, slices.Index, Contains, Equal. -/
import Derived.Test.YtimmnmidhjbanaaDoorK03
import Derived.Test.YtimmnmidhjbanaaDoorK14
import Derived.Test.YtimmnmidhjbanaaDoorK15
import Derived.Test.YtimmnmidhjbanaaDoorK17
namespace Go.Proofs.YtimmnmidhjbanaaDoor
open Go.RowKit
set_option linter.unusedVariables false
set_option linter.unusedSimpArgs false
def encZ (k : Int) : List Value := [.int .i64 k]
theorem encZ_len (k : Int) : (encZ k).length = 1 := rfl
theorem encZ_one (k : Int) : ∀ u ∈ encZ k, u.oneCell' = true := by intro u hu; simp [encZ] at hu; subst hu; rfl
theorem infoZ : (Tryd.prog.info? 3).map (fun i => (i.zero, i.size, i.bytes)) = some (some (.int .i64 0), 1, 8) := by kernel_rfl
section
variable {B B' : Nat} {w W W' : World} {v : Value} {l m : List Int}
/-- A list of numbers that lies there, below B, at whatever place. -/
def LZ (B : Nat) (W : World) (v : Value) (l : List Int) : Prop := LentE encZ 1 B W v l ∧ (∀ n c, v = .slice none n c → c = 0) ∧ ∀ a n c, v = .slice a n c → n ≤ c
theorem LZ.since (h : LZ B W v l) (hs : Since W W') (hB : B ≤ W.heap.size) : LZ B W' v l := ⟨LentE.since h.1 hs hB, h.2⟩
theorem LZ.below (h : LZ B W v l) (hs : Below B' W W') (hB : B ≤ B') : LZ B W' v l := ⟨LentE.below h.1 hs hB, h.2⟩
theorem LZ.mono (h : LZ B W v l) (hB : B ≤ B') : LZ B' W v l := by
  obtain ⟨⟨a, cap, e, h⟩, hz⟩ := h
  exact ⟨⟨a, cap, e, h.imp id fun ⟨b, off, h1, h2, h3⟩ => ⟨b, off, h1, Nat.lt_of_lt_of_le h2 hB, h3⟩⟩, hz⟩
theorem LZ.nil (B : Nat) (W : World) : LZ B W (.slice none 0 0) [] := ⟨⟨none, 0, rfl, .inl rfl⟩, fun n c e => by injection e with _ _ e; exact e.symm, fun a n c e => by injection e with _ e1 e2; omega⟩
/-- Its form: an address, and its cells. -/
theorem LZ.form (h : LZ B W v l) : ∃ a cap, v = .slice a l.length cap ∧ (l.length = 0 ∨ ∃ b off, a = some ⟨b, off, none⟩ ∧ b < B ∧ ∀ i x, l[i]? = some x → W.cell? ⟨b, off + i, none⟩ = some (.int .i64 x)) := by
  obtain ⟨⟨a, cap, e, h⟩, -⟩ := h
  refine ⟨a, cap, e, h.imp id fun ⟨b, off, h1, h2, h3⟩ => ⟨b, off, h1, h2, fun i x hx => ?_⟩⟩
  obtain ⟨hi, rfl⟩ := List.getElem?_eq_some_iff.1 hx
  have := h3 i hi 0 _ rfl
  rwa [Nat.mul_one, Nat.add_zero] at this
theorem LZ.of {a : Option Addr} {cap : Nat} (hz : a = none → cap = 0) (hc : l.length ≤ cap) (h : l.length = 0 ∨ ∃ b off, a = some ⟨b, off, none⟩ ∧ b < B ∧ ∀ i x, l[i]? = some x → W.cell? ⟨b, off + i, none⟩ = some (.int .i64 x)) : LZ B W (.slice a l.length cap) l := by
  refine ⟨⟨a, cap, rfl, h.imp id fun ⟨b, off, h1, h2, h3⟩ => ⟨b, off, h1, h2, fun i hi j u hu => ?_⟩⟩, fun n c e => by injection e with e1 e2 e3; rw [← e3]; exact hz e1, fun a n c e => by injection e with e1 e2 e3; omega⟩
  match j with
  | 0 =>
    simp [encZ] at hu
    subst hu
    rw [Nat.mul_one, Nat.add_zero]
    exact h3 i _ (List.getElem?_eq_getElem hi)
  | j + 1 => simp [encZ] at hu
/-- The cells of one of which the place is known. -/
theorem LZ.cellsAt {b off n cap : Nat} (h : LZ B W (.slice (some ⟨b, off, none⟩) n cap) l) {k : Nat} {z : Int} (hz : l[k]? = some z) : W.cell? ⟨b, off + k, none⟩ = some (.int .i64 z) := by
  obtain ⟨a', c', e, hh⟩ := h.form
  injection e with e1 e2 e3
  subst e1
  rcases hh with h0 | ⟨b2, off2, e4, _, h5⟩
  · have := (List.getElem?_eq_some_iff.1 hz).1
    omega
  · injection e4 with e4
    injection e4 with e5 e6
    subst e5; subst e6
    exact h5 k z hz
theorem LZ.addr {a : Option Addr} {n cap : Nat} (h : LZ B W (.slice a n cap) l) (hn : 0 < l.length) : ∃ b off, a = some ⟨b, off, none⟩ ∧ b < B := by
  obtain ⟨a', c', e, hh⟩ := h.form
  injection e with e1 e2 e3
  subst e1
  obtain ⟨b1, off, rfl, h1, _⟩ := hh.resolve_left (by omega)
  exact ⟨b1, off, rfl, h1⟩
theorem LZ.part (h : LZ B W v l) : PartE encZ W v l := by
  obtain ⟨a, cap, rfl, hh⟩ := h.form
  cases a with
  | none =>
    have h0 : l.length = 0 := by
      rcases hh with h0 | ⟨b, off, e, _⟩
      · exact h0
      · cases e
    have hl0 : l = [] := List.eq_nil_of_length_eq_zero h0
    subst hl0
    rw [h.2.1 _ _ rfl]
    exact .inl ⟨rfl, rfl⟩
  | some ad =>
    refine .inr ⟨ad, cap, rfl, fun j u hu => ?_⟩
    have e : (l.flatMap encZ) = l.map (Value.int .i64) := by
      clear hh h hu
      induction l with
      | nil => rfl
      | cons x l ih => rw [List.flatMap_cons, ih]; rfl
    rw [e, List.getElem?_map] at hu
    cases hx : l[j]? with
    | none => rw [hx] at hu; cases hu
    | some z =>
      rw [hx] at hu
      injection hu with hu
      subst hu
      obtain ⟨b, off, e1, _, h5⟩ := hh.resolve_left (by have := (List.getElem?_eq_some_iff.1 hx).1; omega)
      injection e1 with e1
      subst e1
      rw [Addr.add_lit]
      exact h5 j z hx
/-- A row of the call's own. -/
def RZ (W : World) (base : Nat) (v : Value) (l : List Int) : Prop := RowE encZ 1 W base 3 v l
theorem RZ.lz {base : Nat} (h : RZ W base v l) : LZ W.heap.size W v l := by
  have hcp : ∀ a n c, v = .slice a n c → n ≤ c := by
    intro a n c e
    rcases h.2 with ⟨rfl, h0⟩ | ⟨g, cap, cur, rfl, _, _, hnc, _, _, _⟩
    · injection e with e1 e2 e3; omega
    · injection e with e1 e2 e3; omega
  rcases RowE.list encZ_len h with ⟨rfl, rfl⟩ | ⟨g, cap, rfl, hlt, hc⟩
  · exact LZ.nil _ _
  · refine LZ.of (fun e => by cases e) (hcp _ _ _ rfl) (.inr ⟨g, 0, rfl, hlt, fun i x hx => ?_⟩)
    obtain ⟨hi, rfl⟩ := List.getElem?_eq_some_iff.1 hx
    have := hc i hi 0 _ rfl
    rw [Nat.zero_add]
    rwa [Nat.mul_one, Nat.add_zero] at this
theorem LZ.cap_ {a : Option Addr} {n cap : Nat} (h : LZ B W (.slice a n cap) l) : n ≤ cap := h.2.2 _ _ _ rfl
theorem LZ.len {a : Option Addr} {n cap : Nat} (h : LZ B W (.slice a n cap) l) : l.length = n := by
  obtain ⟨a', cap', e, _⟩ := h.form
  injection e with e1 e2 e3
  exact e2.symm
theorem RZ.since {base : Nat} (h : RZ W base v l) (hs : Since W W') : RZ W' base v l := RowE.since h hs
theorem RZ.mono {base base' : Nat} (h : RZ W base v l) (hb : base' ≤ base) : RZ W base' v l := RowE.mono h hb
theorem RZ.nil (W : World) (base : Nat) : RZ W base (.slice none 0 0) [] := RowE.nil _ _ _
/-- The first ones of it. -/
theorem LZ.take {a : Option Addr} {n cap : Nat} (h : LZ B W (.slice a n cap) l) (k : Nat) (hk : k ≤ l.length) : LZ B W (.slice a k cap) (l.take k) := by
  obtain ⟨a', cap', e, hh⟩ := h.form
  injection e with e1 e2 e3
  subst e1; subst e3
  have hl : (l.take k).length = k := by rw [List.length_take]; omega
  have := LZ.of (B := B) (W := W) (l := l.take k) (a := a) (cap := cap) (fun e => h.2.1 n cap (by rw [e])) (by have := h.cap_; have := h.len; omega) (by
    rcases hh with h | ⟨b, off, h1, h2, h3⟩
    · exact .inl (by rw [hl]; omega)
    · refine .inr ⟨b, off, h1, h2, fun i x hx => h3 i x ?_⟩
      rw [List.getElem?_take] at hx
      split at hx
      · exact hx
      · cases hx)
  rwa [hl] at this
end
theorem node_at {n : Int} {r : Bool} (h : nodeB n = r) (w : World) : Calls Tryd.prog 49 #[.int .i64 n] w fun e w' => e = .returned (.bool r) ∧ w = w' := by
  have hi := nodeB_iff n
  rw [h] at hi
  by_cases g1 : 0 ≤ n
  · by_cases g2 : n < 8
    · obtain rfl : r = true := hi.2 ⟨g1, g2⟩
      clear hi h
      go_enter Tryd.func49, Tryd.ntmps49
      go_wp2
      go_ret
      exact ⟨rfl, rfl⟩
    · obtain rfl : r = false := by cases r with | false => rfl | true => exact absurd (hi.1 rfl) (by omega)
      clear hi h
      go_enter Tryd.func49, Tryd.ntmps49
      go_wp2
      go_ret
      exact ⟨rfl, rfl⟩
  · obtain rfl : r = false := by cases r with | false => rfl | true => exact absurd (hi.1 rfl) (by omega)
    clear hi h
    go_enter Tryd.func49, Tryd.ntmps49
    go_wp2
    go_ret
    exact ⟨rfl, rfl⟩
theorem isNode_at {n : Int} {r : Bool} (h : nodeB n = r) (w : World) : Calls Tryd.prog 51 #[.int .i64 n] w fun e w' => e = .returned (.bool r) ∧ w = w' := by
  have hi := nodeB_iff n
  rw [h] at hi
  by_cases g1 : 0 ≤ n
  · by_cases g2 : n < 8
    · obtain rfl : r = true := hi.2 ⟨g1, g2⟩
      clear hi h
      go_enter Tryd.func51, Tryd.ntmps51
      go_wp2
      go_ret
      exact ⟨rfl, rfl⟩
    · obtain rfl : r = false := by cases r with | false => rfl | true => exact absurd (hi.1 rfl) (by omega)
      clear hi h
      go_enter Tryd.func51, Tryd.ntmps51
      go_wp2
      go_ret
      exact ⟨rfl, rfl⟩
  · obtain rfl : r = false := by cases r with | false => rfl | true => exact absurd (hi.1 rfl) (by omega)
    clear hi h
    go_enter Tryd.func51, Tryd.ntmps51
    go_wp2
    go_ret
    exact ⟨rfl, rfl⟩
theorem rightEpoch_at {n : Int} {r : Bool} (h : epochB n = r) (w : World) : Calls Tryd.prog 52 #[.int .i64 n] w fun e w' => e = .returned (.bool r) ∧ w = w' := by
  have hi := epochB_iff n
  rw [h] at hi
  by_cases g1 : 1 ≤ n
  · by_cases g2 : n ≤ 1099511627776
    · obtain rfl : r = true := hi.2 ⟨g1, g2⟩
      clear hi h
      go_enter Tryd.func52, Tryd.ntmps52
      go_wp2
      go_ret
      exact ⟨rfl, rfl⟩
    · obtain rfl : r = false := by cases r with | false => rfl | true => exact absurd (hi.1 rfl) (by omega)
      clear hi h
      go_enter Tryd.func52, Tryd.ntmps52
      go_wp2
      go_ret
      exact ⟨rfl, rfl⟩
  · obtain rfl : r = false := by cases r with | false => rfl | true => exact absurd (hi.1 rfl) (by omega)
    clear hi h
    go_enter Tryd.func52, Tryd.ntmps52
    go_wp2
    go_ret
    exact ⟨rfl, rfl⟩
theorem in_any {B : Nat} {v : Value} {l : List Int} {n : Int} {w : World} (h : LZ B w v l) (hl : l.length ≤ 1000000) {r : Bool} (hr : memZ l n = r) :
    Calls Tryd.prog 39 #[v, .int .i64 n] w fun e w' => e = .returned (.bool r) ∧ w = w' := by
  obtain ⟨a, cap, rfl, hc⟩ := h.form
  obtain ⟨N, hN⟩ : ∃ N, l.length = N := ⟨_, rfl⟩
  rw [hN] at hc hl ⊢
  have HC := Lib.hid hc
  have HN := Lib.hid hN
  have HR := Lib.hid hr
  clear h hc hN hr
  go_enter Tryd.func39, Tryd.ntmps39
  go_wp2
  go_loop [5] (fun i => ∃ k : Nat, k ≤ N ∧ i = .int .i64 (k : Int) ∧ memZ (l.take k) n = false) (fun i => N - (intOf i).toNat)
  case atStart => exact ⟨0, by omega, rfl, rfl⟩
  case round =>
    obtain ⟨k, hk, rfl, ha⟩ := hrel
    by_cases hlt : k < N
    · have hlk : k < l.length := by have := HN.out; omega
      obtain ⟨z, hz⟩ : ∃ z, l[k] = z := ⟨_, rfl⟩
      have hz' : l[k]? = some z := by rw [List.getElem?_eq_getElem hlk, hz]
      obtain ⟨b, off, rfl, _, hcc⟩ := HC.out.resolve_left (by omega)
      have hcell := hcc k z hz'
      have HA := Lib.hid ha
      have HZ := Lib.hid hz'
      clear ha hz hlk hcc hz'
      by_cases h5 : z = n
      · obtain rfl : r = true := by
          rw [← HR.out, memZ_iff, ← h5]
          exact List.mem_of_getElem? HZ.out
        have h6 : (z == n) = true := by simpa using h5
        clear h5
        go_wp2
        go_ret
        exact ⟨rfl, rfl⟩
      · have h6 : (z == n) = false := by simpa using h5
        have H5 := Lib.hid h5
        clear h5
        go_wp2
        go_round
        case rel =>
          refine ⟨k + 1, by omega, by go_num, ?_⟩
          have := HA.out
          rw [memZ_false] at this ⊢
          rw [List.take_add_one, HZ.out, List.mem_append]
          simp
          exact ⟨this, fun e => H5.out e.symm⟩
        case measure => simp [intOf]; omega
    · have HA := Lib.hid ha
      clear ha
      obtain rfl : k = N := by omega
      obtain rfl : r = false := by
        have h2 := HA.out
        rw [List.take_of_length_le (Nat.le_of_eq HN.out)] at h2
        rw [← HR.out, h2]
      clear HR HA
      go_wp2
      go_ret
      exact ⟨rfl, rfl⟩
theorem index_any {B : Nat} {v : Value} {l : List Int} {n : Int} {w : World} (h : LZ B w v l) (hl : l.length ≤ 1000000) :
    Calls Tryd.prog 90 #[v, .int .i64 n] w fun e w' => (∃ i : Int, e = .returned (.int .i64 i) ∧ decide (i ≥ 0) = memZ l n) ∧ w = w' := by
  obtain ⟨a, cap, rfl, hc⟩ := h.form
  obtain ⟨N, hN⟩ : ∃ N, l.length = N := ⟨_, rfl⟩
  rw [hN] at hc hl ⊢
  have HC := Lib.hid hc
  have HN := Lib.hid hN
  clear h hc hN
  go_enter Tryd.func90, Tryd.ntmps90
  go_wp2
  go_loop [8] (fun i => ∃ k : Nat, k ≤ N ∧ i = .int .i64 (k : Int) ∧ memZ (l.take k) n = false) (fun i => N - (intOf i).toNat)
  case atStart => exact ⟨0, by omega, rfl, rfl⟩
  case round =>
    obtain ⟨k, hk, rfl, ha⟩ := hrel
    by_cases hlt : k < N
    · have hlk : k < l.length := by have := HN.out; omega
      obtain ⟨z, hz⟩ : ∃ z, l[k] = z := ⟨_, rfl⟩
      have hz' : l[k]? = some z := by rw [List.getElem?_eq_getElem hlk, hz]
      obtain ⟨b, off, rfl, _, hcc⟩ := HC.out.resolve_left (by omega)
      have hcell := hcc k z hz'
      have HA := Lib.hid ha
      have HZ := Lib.hid hz'
      clear ha hz hlk hcc hz'
      by_cases h5 : n = z
      · have h6 : (n == z) = true := by simpa using h5
        have H5 := Lib.hid h5
        clear h5
        go_wp2
        go_ret
        refine ⟨⟨_, rfl, ?_⟩, rfl⟩
        have : memZ l n = true := by rw [memZ_iff, H5.out]; exact List.mem_of_getElem? HZ.out
        rw [this]
        exact decide_eq_true (by omega)
      · have h6 : (n == z) = false := by simpa using h5
        have H5 := Lib.hid h5
        clear h5
        go_wp2
        go_round
        case rel =>
          refine ⟨k + 1, by omega, by go_num, ?_⟩
          have := HA.out
          rw [memZ_false] at this ⊢
          rw [List.take_add_one, HZ.out, List.mem_append]
          simp
          exact ⟨this, H5.out⟩
        case measure => simp [intOf]; omega
    · have HA := Lib.hid ha
      clear ha
      obtain rfl : k = N := by omega
      go_wp2
      go_ret
      refine ⟨⟨_, rfl, ?_⟩, rfl⟩
      have h2 := HA.out
      rw [List.take_of_length_le (Nat.le_of_eq HN.out)] at h2
      rw [h2]
      rfl
theorem contains_any {B : Nat} {v : Value} {l : List Int} {n : Int} {w : World} (h : LZ B w v l) (hl : l.length ≤ 1000000) {r : Bool} (hr : memZ l n = r) :
    Calls Tryd.prog 79 #[v, .int .i64 n] w fun e w' => e = .returned (.bool r) ∧ w = w' := by
  have HI := Lib.hid (index_any (n := n) h hl)
  rw [hr] at HI
  clear h hr
  go_enter Tryd.func79, Tryd.ntmps79
  go_wp2_with fail
  refine HI.out.mono ?_
  rintro e w1 ⟨⟨i, rfl, hi⟩, rfl⟩
  go_wp2
  go_ret
  exact ⟨rfl, rfl⟩
end Go.Proofs.YtimmnmidhjbanaaDoor
