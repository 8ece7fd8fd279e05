/- wire.Frame. -/
import Derived.Test.YtgbgbkfbiebjgaaSum3
import Derived.Test.YtgbgbkfbiebjgaaNum2
import Derived.Test.YtgbgbkfbiebjgaaFix
namespace Go.Proofs.Ytgbgbkfbiebjgaa
open Go.RowKit
/-- A call that hands back a slice of its own that holds l. -/
def SlicePost (base : Nat) (l : List UInt8) (w : World) (e : Ending) (w' : World) : Prop := ∃ A n c, e = .returned (.slice A n c) ∧ Has w' base A n c l ∧ Below base w w'
/-- .. and a number beside it. -/
def SliceNumPost (base : Nat) (l : List UInt8) (k : Int) (w : World) (e : Ending) (w' : World) : Prop := ∃ A n c, e = .returned (.tuple #[.slice A n c, .int .i64 k]) ∧ Has w' base A n c l ∧ Below base w w'
theorem sum_at (A : Option Addr) (n cap : Nat) (l : List UInt8) (w : World) (h : Rd w w.heap.size A l) (hn : l.length = n) (hl : n ≤ 1000000000) :
    Calls Try.prog 13 #[.slice A n cap] w fun e w' => e = .returned (.int .i64 ((Crc.sum l : Nat) : Int)) ∧ Below w.heap.size w w' := by
  subst hn
  exact sum_any A cap l w h hl
theorem refsum_at (A : Option Addr) (n cap : Nat) (l : List UInt8) (w : World) (h : Rd w w.heap.size A l) (hn : l.length = n) (hl : n ≤ 1000000000) :
    Calls Try.prog 14 #[.slice A n cap] w fun e w' => e = .returned (.int .i64 ((Crc.sum l : Nat) : Int)) ∧ w = w' := by
  subst hn
  exact refsum_any A cap l w h hl
theorem fixed_at (A : Option Addr) (n cap : Nat) (l : List UInt8) (w : World) (h : Rd w w.heap.size A l) (hn : l.length = n) (hl : n ≤ 7) :
    Calls Try.prog 43 #[.slice A n cap] w fun e w' => e = .returned (.int .i64 ((unfix l : Nat) : Int)) ∧ w = w' := by
  subst hn
  exact fixed_any A cap l w h hl
theorem appendFixed_at (base : Nat) (A : Option Addr) (n c : Nat) (l0 : List UInt8) (N K : Int) (k : Nat) (w : World) (h : Has w base A n c l0) (hbase : base ≤ w.heap.size) (hl : n ≤ 1000000000) (hk : k ≤ 8) (hN : 0 ≤ N) (hK : K = (k : Int)) :
    Calls Try.prog 42 #[.slice A n c, .int .i64 N, .int .i64 K] w (SlicePost base (l0 ++ fixB k N.toNat) w) := by
  subst hK
  obtain ⟨N, rfl⟩ := Int.eq_ofNat_of_zero_le hN
  refine (appendFixed_any base _ l0 N k w h.own hbase (by rw [h.len]; exact hl) hk).mono ?_
  rintro e w' ⟨v', rfl, h1, h2⟩
  obtain ⟨A', n', c', rfl, h3⟩ := h1.has
  exact ⟨A', n', c', rfl, h3, h2⟩
theorem appendNum_at (base : Nat) (A : Option Addr) (n c : Nat) (l0 : List UInt8) (N : Int) (w : World) (h : Has w base A n c l0) (hbase : base ≤ w.heap.size) (hl : n ≤ 1000000000) (hN : 0 ≤ N) (hM : N ≤ 9223372036854775807) :
    Calls Try.prog 41 #[.slice A n c, .int .i64 N] w (SlicePost base (l0 ++ numB N.toNat) w) := by
  obtain ⟨N, rfl⟩ := Int.eq_ofNat_of_zero_le hN
  refine (appendNum_any base _ l0 N w h.own hbase (by rw [h.len]; exact hl) (by omega)).mono ?_
  rintro e w' ⟨v', rfl, h1, h2⟩
  obtain ⟨A', n', c', rfl, h3⟩ := h1.has
  exact ⟨A', n', c', rfl, h3, h2⟩
/-- What Frame tells. -/
def frameE (kind : Int) (l : List UInt8) : Int := if 0 ≤ kind ∧ kind ≤ 255 then (if l.length ≤ 131072 then 0 else 6) else 1
def frameL (kind : Int) (l : List UInt8) : List UInt8 := if 0 ≤ kind ∧ kind ≤ 255 then (if l.length ≤ 131072 then frameB kind.toNat l else []) else []
theorem frame_low (kind : Int) (A : Option Addr) (n c : Nat) (w : World) (hk : kind < 0) :
    Calls Try.prog 21 #[.int .i64 kind, .slice A n c] w (SliceNumPost w.heap.size [] 1 w) := by
  go_enter Try.func21, Try.ntmps21
  go_wp2
  go_ret2
  exact ⟨none, 0, 0, rfl, Has.nil _ _, Below.refl _ _⟩
theorem frame_high (kind : Int) (A : Option Addr) (n c : Nat) (w : World) (hk0 : 0 ≤ kind) (hk : 255 < kind) :
    Calls Try.prog 21 #[.int .i64 kind, .slice A n c] w (SliceNumPost w.heap.size [] 1 w) := by
  go_enter Try.func21, Try.ntmps21
  go_wp2
  go_ret2
  exact ⟨none, 0, 0, rfl, Has.nil _ _, Below.refl _ _⟩
theorem frame_long (kind : Int) (A : Option Addr) (n c : Nat) (w : World) (hk0 : 0 ≤ kind) (hk : kind ≤ 255) (hn : 131072 < n) :
    Calls Try.prog 21 #[.int .i64 kind, .slice A n c] w (SliceNumPost w.heap.size [] 6 w) := by
  go_enter Try.func21, Try.ntmps21
  go_wp2
  go_ret2
  exact ⟨none, 0, 0, rfl, Has.nil _ _, Below.refl _ _⟩
set_option maxRecDepth 100000 in
set_option maxHeartbeats 800000 in
theorem frame_good (k : Nat) (A : Option Addr) (n c : Nat) (l : List UInt8) (w : World) (hk : k ≤ 255) (hr : Rd w w.heap.size A l) (hn : l.length = n) (hl : n ≤ 131072) :
    Calls Try.prog 21 #[.int .i64 (k : Int), .slice A n c] w (SliceNumPost w.heap.size (frameB k l) 0 w) := by
  have HN := Lib.hid hn
  have hbl := Lib.hid (show (#[.int .u8 3, .int .u8 (k : Int)] : Array Value) = (bv [3, UInt8.ofNat (k % 256)]).toArray by
    simp only [bv, List.map_cons, List.map_nil, Nat.mod_eq_of_lt (show k < 256 by omega), ofNat_toNat (show k < 256 by omega)]; rfl)
  clear hn
  go_enter Try.func21, Try.ntmps21
  go_wp2_with (first
    | (at_make; refine wpList_mk _ rfl _ _ rfl w.heap.size _ _ _ (n + 9) rfl rfl (by omega) (by omega) (Nat.le_refl _) ?_; intro A1 c1 w1 h1 hb1)
    | (at_builtin; refine wpList_grow _ rfl (.tmp 21) (.tmp 24) _ rfl w.heap.size _ [] rfl (h1.own.alloc _) _ [3, UInt8.ofNat (k % 256)] rfl (src_of_rd 2 (rd_block _ hbl.out)) (by simp) (by have := hb1.size; simp; omega) ?_; intro A2 n2 c2 w2 h2 hb2))
  have hs1 := hb1.size
  have hbw2 : Below w.heap.size w w2 := (hb1.alloc hs1 _).trans hb2
  have hs2 := hbw2.size
  have hn2 : n2 = 2 := h2.len.symm
  refine (appendFixed_at w.heap.size A2 n2 c2 _ _ _ 3 w2 h2 hs2 (by omega) (by omega) (by omega) rfl).mono ?_
  rintro e w3 ⟨A3, n3, c3, rfl, h3, hb3⟩
  clear h1 h2 hb1 hb2
  have hbw3 : Below w.heap.size w w3 := hbw2.trans hb3
  have hs3 := hbw3.size
  have hr3 := (hr.below hbw3 (Nat.le_refl _))
  have hl3 := h3.len
  simp only [List.length_append, List.length_cons, List.length_nil, fixB_length] at hl3
  have hn3 : n3 ≤ 5 := by omega
  have HR3 := Lib.hid hr3
  clear hr3 hl3 hn2 hr hbw2 hb3
  go_wp2_with (at_builtin; refine wpList_grow _ rfl (.tmp 30) (.tmp 31) _ rfl w.heap.size _ _ rfl h3.own _ l rfl (src_at n c HR3.out HN.out) (by rw [h3.len, HN.out]; omega) hs3 ?_; intro A4 n4 c4 w4 h4 hb4)
  have hbw4 : Below w.heap.size w w4 := hbw3.trans hb4
  have hs4 := hbw4.size
  have hl4 := h4.len
  simp only [List.length_append, h3.len] at hl4
  have hn4 : n4 ≤ 131077 := by have := HN.out; omega
  refine (sum_at A4 n4 c4 _ w4 h4.rd h4.len (by omega)).mono ?_
  rintro e w5 ⟨rfl, hb5⟩
  have h5 := h4.below hb5
  have hbw5 : Below w.heap.size w w5 := hbw4.trans (hb5.mono hs4)
  have hs5 := hbw5.size
  clear h3 hl4 hbw3 hb4 hbw4 hb5 h4
  go_wp2_with fail
  refine (appendFixed_at w.heap.size A4 n4 c4 _ _ _ 4 w5 h5 hs5 (by omega) (by omega) (by omega) rfl).mono ?_
  rintro e w6 ⟨A6, n6, c6, rfl, h6, hb6⟩
  have hbw6 : Below w.heap.size w w6 := hbw5.trans hb6
  have h7 : Has w6 w.heap.size A6 n6 c6 (frameB k l) := by
    have hN := HN.out
    simp only [frameB, headB, List.cons_append, List.nil_append, List.append_assoc, Int.toNat_natCast, hN] at h6 ⊢
    exact h6
  have H7 := Lib.hid h7
  clear h5 h6 h7 hbw5 hb6
  go_wp2_with fail
  go_ret2
  exact ⟨A6, n6, c6, rfl, H7.out, hbw6⟩
theorem frame_any (kind : Int) (A : Option Addr) (n c : Nat) (l : List UInt8) (w : World) (hr : Rd w w.heap.size A l) (hn : l.length = n) :
    Calls Try.prog 21 #[.int .i64 kind, .slice A n c] w (SliceNumPost w.heap.size (frameL kind l) (frameE kind l) w) := by
  unfold frameL frameE
  by_cases h0 : kind < 0
  · rw [if_neg (by omega), if_neg (by omega)]
    exact frame_low kind A n c w h0
  · by_cases h1 : 255 < kind
    · rw [if_neg (by omega), if_neg (by omega)]
      exact frame_high kind A n c w (by omega) h1
    · have hk : 0 ≤ kind ∧ kind ≤ 255 := by omega
      by_cases h2 : 131072 < n
      · have h3 : ¬ l.length ≤ 131072 := by omega
        simp only [if_pos hk, if_neg h3]
        exact frame_long kind A n c w (by omega) (by omega) h2
      · have h3 : l.length ≤ 131072 := by omega
        simp only [if_pos hk, if_pos h3]
        obtain ⟨k, rfl⟩ := Int.eq_ofNat_of_zero_le (show 0 ≤ kind by omega)
        exact frame_good k A n c l w (by omega) hr hn (by omega)
end Go.Proofs.Ytgbgbkfbiebjgaa
