/- wire.Unframe. -/
import Derived.Test.YtgbgbkfbiebjgaaMem
import Derived.Deep.RegionHeld3
namespace Go.Proofs.Ytgbgbkfbiebjgaa
open Go.RowKit
/-- What a call that hands back a kind, content and an error leaves. -/
def UnPost (k : Int) (l : List UInt8) (er : Int) (w : World) (e : Ending) (w' : World) : Prop :=
  ∃ A n c, e = .returned (.tuple #[.int .i64 k, .slice A n c, .int .i64 er]) ∧ Has w' w.heap.size A n c l ∧ Below w.heap.size w w'
theorem UnPost.nothing (er : Int) (w : World) : UnPost 0 [] er w (.returned (.tuple #[.int .i64 0, .slice none 0 0, .int .i64 er])) w := ⟨none, 0, 0, rfl, Has.nil _ _, Below.refl _ _⟩
/-- A cut of what reads as bytes. -/
theorem Rd.cut {w : World} {B b off : Nat} {l : List UInt8} (h : ∀ i, (h : i < l.length) → w.cell? ⟨b, off + i, none⟩ = some (.int .u8 (l[i].toNat : Int))) (hb : b < B) (i j : Nat) : Rd w B (some ⟨b, off + i, none⟩) ((l.drop i).take j) := by
  refine .inr ⟨b, off + i, rfl, hb, fun k hk => ?_⟩
  have hk2 : i + k < l.length := by
    have := hk
    rw [List.length_take, List.length_drop] at this
    omega
  have := h (i + k) hk2
  rw [Nat.add_assoc, this]
  simp
theorem unframe_short (A : Option Addr) (n c : Nat) (w : World) (h : n < 5) : Calls Try.prog 23 #[.slice A n c] w (UnPost 0 [] 20 w) := by
  go_enter Try.func23, Try.ntmps23
  go_wp2
  go_ret3
  exact UnPost.nothing _ _
/-- What the walks behind the version share. -/
theorem unframe_head (b off n c : Nat) (l : List UInt8) (w : World) (hcell : ∀ i, (h : i < l.length) → w.cell? ⟨b, off + i, none⟩ = some (.int .u8 (l[i].toNat : Int))) (hb : b < w.heap.size) (hn : l.length = n) (h5 : 5 ≤ n) (h0 : (l.getD 0 0).toNat = 3) : w.cell? ⟨b, off, none⟩ = some (.int .u8 3) ∧
    Calls Try.prog 43 #[.slice (some ⟨b, off + 2, none⟩) 3 (c - 2)] w fun e w' => e = .returned (.int .i64 ((sz l : Nat) : Int)) ∧ w = w' := by
  refine ⟨?_, ?_⟩
  · have := hcell 0 (by omega)
    have e : (l[0]'(by omega)).toNat = 3 := by rw [← h0]; simp [List.getD, hn, show 0 < n by omega]
    rw [e] at this
    simpa using this
  · exact fixed_at _ 3 _ _ _ (Rd.cut hcell hb 2 3) (by rw [List.length_take, List.length_drop]; omega) (by omega)
section
variable (b off n c : Nat) (l : List UInt8) (w : World) (hcell : ∀ i, (h : i < l.length) → w.cell? ⟨b, off + i, none⟩ = some (.int .u8 (l[i].toNat : Int))) (hb : b < w.heap.size) (hn : l.length = n) (hc : n ≤ c) (h5 : 5 ≤ n) (hl : n ≤ 1000000)
include hcell hb hn hc h5 hl
set_option maxRecDepth 100000 in
theorem unframe_version (h0 : (l.getD 0 0).toNat ≠ 3) : Calls Try.prog 23 #[.slice (some ⟨b, off, none⟩) n c] w (UnPost 0 [] 21 w) := by
  have hc0 : w.cell? ⟨b, off, none⟩ = some (.int .u8 ((l.getD 0 0).toNat : Int)) := by
    have := hcell 0 (by omega)
    simpa [List.getD, hn, show 0 < n by omega] using this
  have hr := Rd.cut hcell hb 2 3
  have hs : ((l.drop 2).take 3).length = 3 := by rw [List.length_take, List.length_drop]; omega
  obtain ⟨x, hx⟩ : ∃ x, x = (l.getD 0 0).toNat := ⟨_, rfl⟩
  rw [← hx] at hc0 h0
  have hb0 : ((x : Int) != 3) = true := by rw [bne_iff_ne]; omega
  have HS := Lib.hid hs
  clear hcell hx h0 hs
  go_enter Try.func23, Try.ntmps23
  go_wp2_with (go_at_call 43; refine (fixed_at _ 3 _ _ _ hr HS.out (by omega)).mono ?_; rintro e w' ⟨rfl, rfl⟩)
  go_ret3
  exact UnPost.nothing _ _
set_option maxRecDepth 100000 in
theorem unframe_great (h0 : (l.getD 0 0).toNat = 3) (hs : 131072 < sz l) : Calls Try.prog 23 #[.slice (some ⟨b, off, none⟩) n c] w (UnPost 0 [] 21 w) := by
  obtain ⟨hc0, fx⟩ := unframe_head b off n c l w hcell hb hn h5 h0
  have FX := Lib.hid fx
  clear fx
  clear hcell h0
  go_enter Try.func23, Try.ntmps23
  go_wp2_with (go_at_call 43; refine FX.out.mono ?_; rintro e w' ⟨rfl, rfl⟩)
  go_ret3
  exact UnPost.nothing _ _
set_option maxRecDepth 100000 in
theorem unframe_end (h0 : (l.getD 0 0).toNat = 3) (hs : sz l ≤ 131072) (hlt : n < sz l + 9) : Calls Try.prog 23 #[.slice (some ⟨b, off, none⟩) n c] w (UnPost 0 [] 20 w) := by
  obtain ⟨hc0, fx⟩ := unframe_head b off n c l w hcell hb hn h5 h0
  have FX := Lib.hid fx
  clear fx
  clear hcell h0
  go_enter Try.func23, Try.ntmps23
  go_wp2_with (go_at_call 43; refine FX.out.mono ?_; rintro e w' ⟨rfl, rfl⟩)
  go_ret3
  exact UnPost.nothing _ _
set_option maxRecDepth 100000 in
theorem unframe_behind (h0 : (l.getD 0 0).toNat = 3) (hs : sz l ≤ 131072) (hlt : sz l + 9 < n) : Calls Try.prog 23 #[.slice (some ⟨b, off, none⟩) n c] w (UnPost 0 [] 21 w) := by
  obtain ⟨hc0, fx⟩ := unframe_head b off n c l w hcell hb hn h5 h0
  have FX := Lib.hid fx
  clear fx
  have h1 : ¬ n < sz l + 9 := by omega
  clear hcell h0
  go_enter Try.func23, Try.ntmps23
  go_wp2_with (go_at_call 43; refine FX.out.mono ?_; rintro e w' ⟨rfl, rfl⟩)
  go_ret3
  exact UnPost.nothing _ _
set_option maxRecDepth 100000 in
set_option maxHeartbeats 800000 in
theorem unframe_sum (h0 : (l.getD 0 0).toNat = 3) (hs : sz l ≤ 131072) (h9 : n = sz l + 9) (hne : unfix (l.drop (sz l + 5)) ≠ Crc.sum (l.take (sz l + 5))) :
    Calls Try.prog 23 #[.slice (some ⟨b, off, none⟩) n c] w (UnPost 0 [] 22 w) := by
  obtain ⟨hc0, fx⟩ := unframe_head b off n c l w hcell hb hn h5 h0
  have FX := Lib.hid fx
  clear fx
  have h1 : ¬ n < sz l + 9 := by omega
  have h2 : ¬ sz l + 9 < n := by omega
  obtain ⟨s, hse⟩ : ∃ s, s = sz l := ⟨_, rfl⟩
  rw [← hse] at FX hs hne h1 h2 h9
  have hr1 : Rd w w.heap.size (some ⟨b, off + (5 + s), none⟩) (l.drop (s + 5)) := by
    have := Rd.cut hcell hb (5 + s) (n - (5 + s))
    rw [List.take_of_length_le (by rw [List.length_drop]; omega)] at this
    rwa [Nat.add_comm s 5]
  have hr2 : Rd w w.heap.size (some ⟨b, off, none⟩) (l.take (s + 5)) := by
    have := Rd.cut hcell hb 0 (s + 5)
    simpa using this
  have hl1 : (l.drop (s + 5)).length = n - (5 + s) := by rw [List.length_drop]; omega
  have hl2 : (l.take (s + 5)).length = 5 + s := by rw [List.length_take]; omega
  have hq : n - (5 + s) ≤ 7 := by omega
  obtain ⟨p, hp⟩ : ∃ p, p = unfix (l.drop (s + 5)) := ⟨_, rfl⟩
  obtain ⟨q, hqq⟩ : ∃ q, q = Crc.sum (l.take (s + 5)) := ⟨_, rfl⟩
  have f1 : ∀ W : World, Below w.heap.size w W → Calls Try.prog 43 #[.slice (some ⟨b, off + (5 + s), none⟩) (n - (5 + s)) (c - (5 + s))] W fun e w' => e = .returned (.int .i64 (p : Int)) ∧ W = w' := by
    intro W hW
    rw [hp]
    exact fixed_at _ _ _ _ W ((hr1.below hW (Nat.le_refl _)).more hW.size) hl1 hq
  have f2 : ∀ W : World, Below w.heap.size w W → Calls Try.prog 13 #[.slice (some ⟨b, off, none⟩) (5 + s) c] W fun e w' => e = .returned (.int .i64 (q : Int)) ∧ Below w.heap.size w w' := by
    intro W hW
    rw [hqq]
    refine (sum_at _ _ _ _ W ((hr2.below hW (Nat.le_refl _)).more hW.size) hl2 (by omega)).mono ?_
    rintro e w' ⟨rfl, hb'⟩
    exact ⟨rfl, hW.trans (hb'.mono hW.size)⟩
  have hpq : ((p : Int) != q) = true := by rw [bne_iff_ne, hp, hqq]; omega
  have F1 := Lib.hid f1
  have F2 := Lib.hid f2
  clear f1 f2
  have hb0 : Below w.heap.size w w := Below.refl _ _
  have i1 : (0 : Int) ≤ 5 + (s : Int) := by omega
  have i2 : 5 + (s : Int) ≤ (n : Int) := by omega
  have i3 : 5 + (s : Int) ≤ (c : Int) := by omega
  have i4 : ¬ c = 5 + s := by omega
  have i5 : (5 + (s : Int)).toNat = 5 + s := by omega
  clear hcell h0 hne hr1 hr2 hl1 hl2 hp hqq hse hn h9 hq
  go_enter Try.func23, Try.ntmps23
  go_wp2_with (go_at_call 43; refine FX.out.mono ?_; rintro e w' ⟨rfl, rfl⟩)
  go_region_with (first | (go_at_call 43; (with_reducible refine (F1.out _ (by first | assumption | exact hb0.drew)).mono ?_); rintro e w' ⟨rfl, rfl⟩) | (go_at_call 13; (with_reducible refine (F2.out _ (by first | assumption | exact hb0.drew)).mono ?_); rintro e w5 ⟨rfl, hb5⟩))
  clear i5
  go_wp2
  go_ret3
  exact ⟨none, 0, 0, rfl, Has.nil _ _, hb5⟩
set_option maxRecDepth 100000 in
set_option maxHeartbeats 800000 in
theorem unframe_good (h0 : (l.getD 0 0).toNat = 3) (hs : sz l ≤ 131072) (h9 : n = sz l + 9) (hne : unfix (l.drop (sz l + 5)) = Crc.sum (l.take (sz l + 5))) :
    Calls Try.prog 23 #[.slice (some ⟨b, off, none⟩) n c] w (UnPost ((l.getD 1 0).toNat : Int) ((l.drop 5).take (sz l)) 0 w) := by
  obtain ⟨hc0, fx⟩ := unframe_head b off n c l w hcell hb hn h5 h0
  have FX := Lib.hid fx
  clear fx
  have h1 : ¬ n < sz l + 9 := by omega
  have h2 : ¬ sz l + 9 < n := by omega
  obtain ⟨s, hse⟩ : ∃ s, s = sz l := ⟨_, rfl⟩
  rw [← hse] at FX hs hne h1 h2 h9 ⊢
  have hr1 : Rd w w.heap.size (some ⟨b, off + (5 + s), none⟩) (l.drop (s + 5)) := by
    have := Rd.cut hcell hb (5 + s) (n - (5 + s))
    rw [List.take_of_length_le (by rw [List.length_drop]; omega)] at this
    rwa [Nat.add_comm s 5]
  have hr2 : Rd w w.heap.size (some ⟨b, off, none⟩) (l.take (s + 5)) := by
    have := Rd.cut hcell hb 0 (s + 5)
    simpa using this
  have hr3 : Rd w w.heap.size (some ⟨b, off + 5, none⟩) ((l.drop 5).take s) := Rd.cut hcell hb 5 s
  have hl1 : (l.drop (s + 5)).length = n - (5 + s) := by rw [List.length_drop]; omega
  have hl2 : (l.take (s + 5)).length = 5 + s := by rw [List.length_take]; omega
  have hl3 : ((l.drop 5).take s).length = s := by rw [List.length_take, List.length_drop]; omega
  have hk : w.cell? ⟨b, off + 1, none⟩ = some (.int .u8 ((l.getD 1 0).toNat : Int)) := by
    have := hcell 1 (by omega)
    simpa [List.getD, hn, show 1 < n by omega] using this
  have hk8 := (l.getD 1 0).toNat_lt
  obtain ⟨k, hke⟩ : ∃ k, k = (l.getD 1 0).toNat := ⟨_, rfl⟩
  rw [← hke] at hk hk8 ⊢
  have hk8' : k < 256 := hk8
  have hq : n - (5 + s) ≤ 7 := by omega
  obtain ⟨p, hp⟩ : ∃ p, p = unfix (l.drop (s + 5)) := ⟨_, rfl⟩
  have f1 : ∀ W : World, Below w.heap.size w W → Calls Try.prog 43 #[.slice (some ⟨b, off + (5 + s), none⟩) (n - (5 + s)) (c - (5 + s))] W fun e w' => e = .returned (.int .i64 (p : Int)) ∧ W = w' := by
    intro W hW
    rw [hp]
    exact fixed_at _ _ _ _ W ((hr1.below hW (Nat.le_refl _)).more hW.size) hl1 hq
  have f2 : ∀ W : World, Below w.heap.size w W → Calls Try.prog 13 #[.slice (some ⟨b, off, none⟩) (5 + s) c] W fun e w' => e = .returned (.int .i64 (p : Int)) ∧ Below w.heap.size w w' := by
    intro W hW
    rw [hp, hne]
    refine (sum_at _ _ _ _ W ((hr2.below hW (Nat.le_refl _)).more hW.size) hl2 (by omega)).mono ?_
    rintro e w' ⟨rfl, hb'⟩
    exact ⟨rfl, hW.trans (hb'.mono hW.size)⟩
  obtain ⟨m, hm⟩ : ∃ m, m = (l.drop 5).take s := ⟨_, rfl⟩
  rw [← hm] at hr3 hl3 ⊢
  have f3 : ∀ W : World, Below w.heap.size w W → Calls Try.prog 44 #[.slice (some ⟨b, off + 5, none⟩) s (c - 5)] W (SlicePost w.heap.size m w) := by
    intro W hW
    refine (clone_any _ _ _ _ W ((hr3.below hW (Nat.le_refl _)).more hW.size) hl3 (by omega)).mono ?_
    rintro e w' ⟨A, n', c', rfl, hh, hb'⟩
    have h2 := hh.own
    obtain ⟨A2, n2, c2, he, hh2⟩ := Own.has (Own.lower h2 hW.size)
    injection he with e1 e2 e3
    subst e1; subst e2; subst e3
    exact ⟨A, n', c', rfl, hh2, hW.trans (hb'.mono hW.size)⟩
  have hk2 : ∀ W : World, Below w.heap.size w W → W.cell? ⟨b, off + 1, none⟩ = some (.int .u8 (k : Int)) := fun W hW => (hW.cell (by exact hb)).trans hk
  have HK := Lib.hid hk2
  have F1 := Lib.hid f1
  have F2 := Lib.hid f2
  have F3 := Lib.hid f3
  clear f1 f2 f3 hk2
  have hb0 : Below w.heap.size w w := Below.refl _ _
  have i1 : (0 : Int) ≤ 5 + (s : Int) := by omega
  have i2 : 5 + (s : Int) ≤ (n : Int) := by omega
  have i3 : 5 + (s : Int) ≤ (c : Int) := by omega
  have i4 : ¬ c = 5 + s := by omega
  have i5 : (5 + (s : Int)).toNat = 5 + s := by omega
  clear hcell h0 hne hr1 hr2 hl1 hl2 hr3 hl3 hp hse hn h9 hq hke hk8 hm
  go_enter Try.func23, Try.ntmps23
  go_wp2_with (go_at_call 43; refine FX.out.mono ?_; rintro e w' ⟨rfl, rfl⟩)
  go_region_with (first | (go_at_call 43; (with_reducible refine (F1.out _ (by first | assumption | exact hb0.drew)).mono ?_); rintro e w' ⟨rfl, rfl⟩) | (go_at_call 13; (with_reducible refine (F2.out _ (by first | assumption | exact hb0.drew)).mono ?_); rintro e w5 ⟨rfl, hb5⟩))
  go_wp2
  have hc5 := HK.out w5 hb5
  have i6 : (5 : Int) ≤ 5 + (s : Int) := by omega
  have i7 : ¬ c = 5 := by omega
  have i8 : (5 : Int) ≤ (c : Int) := by omega
  have i9 : 5 + s - 5 = s := by omega
  have i10 : wrap64 (k : Int) = (k : Int) := IntWalk.wrap64_in _ ⟨by omega, by omega⟩
  have i11 : IntKind.i64.wrap (k : Int) = (k : Int) := IntWalk.i64_in _ (by omega)
  clear hk
  go_region_with (go_at_call 44; (with_reducible refine (F3.out _ (by exact hb5.drew)).mono ?_); rintro e w6 ⟨A6, n6, c6, rfl, h6, hb6⟩; have hc6 := HK.out w6 hb6)
  clear i5 i9
  all_goals go_wp2
  all_goals go_ret3
  all_goals exact ⟨A6, n6, c6, (by simp [Act.put, go_sem]), h6, hb6⟩
end
theorem unframe_any (A : Option Addr) (n c : Nat) (l : List UInt8) (w : World) (hr : Rd w w.heap.size A l) (hn : l.length = n) (hc : n ≤ c) (hl : n ≤ 1000000) :
    Calls Try.prog 23 #[.slice A n c] w (UnPost (unK l) (unC l) (unE l) w) := by
  unfold unK unC
  by_cases h5 : n < 5
  · have e : unE l = 20 := by unfold unE; rw [if_pos (by omega)]
    rw [e, if_neg (by omega), if_neg (by omega)]
    exact unframe_short A n c w h5
  · obtain ⟨b, off, rfl, hb, hcell⟩ := hr.at_ (k := 0) (by omega)
    have h5' : 5 ≤ n := by omega
    have hu : unE l = if (l.getD 0 0).toNat = 3 ∧ sz l ≤ 131072 then (if l.length < sz l + 9 then 20 else if sz l + 9 < l.length then 21 else if unfix (l.drop (sz l + 5)) = Crc.sum (l.take (sz l + 5)) then 0 else 22) else 21 := by
      unfold unE; rw [if_neg (by omega)]
    by_cases h0 : (l.getD 0 0).toNat = 3
    · by_cases hs : sz l ≤ 131072
      · rw [if_pos ⟨h0, hs⟩] at hu
        by_cases h1 : n < sz l + 9
        · rw [if_pos (by omega)] at hu
          rw [hu, if_neg (by omega), if_neg (by omega)]
          exact unframe_end b off n c l w hcell hb hn hc h5' hl h0 hs h1
        · rw [if_neg (by omega)] at hu
          by_cases h2 : sz l + 9 < n
          · rw [if_pos (by omega)] at hu
            rw [hu, if_neg (by omega), if_neg (by omega)]
            exact unframe_behind b off n c l w hcell hb hn hc h5' hl h0 hs h2
          · rw [if_neg (by omega)] at hu
            by_cases h3 : unfix (l.drop (sz l + 5)) = Crc.sum (l.take (sz l + 5))
            · rw [if_pos h3] at hu
              rw [hu, if_pos rfl, if_pos rfl]
              exact unframe_good b off n c l w hcell hb hn hc h5' hl h0 hs (by omega) h3
            · rw [if_neg h3] at hu
              rw [hu, if_neg (by omega), if_neg (by omega)]
              exact unframe_sum b off n c l w hcell hb hn hc h5' hl h0 hs (by omega) h3
      · rw [if_neg (by omega)] at hu
        rw [hu, if_neg (by omega), if_neg (by omega)]
        exact unframe_great b off n c l w hcell hb hn hc h5' hl h0 (by omega)
    · rw [if_neg (by omega)] at hu
      rw [hu, if_neg (by omega), if_neg (by omega)]
      exact unframe_version b off n c l w hcell hb hn hc h5' hl h0
end Go.Proofs.Ytgbgbkfbiebjgaa
