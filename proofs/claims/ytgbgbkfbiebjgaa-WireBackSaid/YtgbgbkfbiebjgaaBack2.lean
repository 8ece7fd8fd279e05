/- The walk of the law WireBack. -/
import Derived.Test.YtgbgbkfbiebjgaaReader2
import Derived.Test.YtgbgbkfbiebjgaaNumbers
namespace Go.Proofs.Ytgbgbkfbiebjgaa
open Go.RowKit
/-- A slice of numbers. -/
def IRd (w : World) (B : Nat) (A : Option Addr) (l : List Int) : Prop :=
  l = [] ∨ ∃ b off, A = some ⟨b, off, none⟩ ∧ b < B ∧ ∀ i, (h : i < l.length) → w.cell? ⟨b, off + i, none⟩ = some (.int .i64 l[i])
theorem IRd.at_ {w : World} {B : Nat} {A : Option Addr} {l : List Int} (h : IRd w B A l) {k : Nat} (hk : k < l.length) :
    ∃ b off, A = some ⟨b, off, none⟩ ∧ b < B ∧ ∀ i, (h : i < l.length) → w.cell? ⟨b, off + i, none⟩ = some (.int .i64 l[i]) := by
  rcases h with rfl | h
  · simp at hk
  · exact h
/-- The bytes of numbers, one behind the other; those that may not be are left out. -/
def encB (l : List Int) : List UInt8 := l.flatMap numL
theorem numL_length (x : Int) : (numL x).length ≤ 9 := by
  unfold numL
  split
  · exact numB_le (by omega)
  · simp
theorem encB_length (l : List Int) : (encB l).length ≤ 9 * l.length := by
  induction l with
  | nil => simp [encB]
  | cons a l ih =>
    have := numL_length a
    simp only [encB, List.flatMap_cons, List.length_append, List.length_cons] at ih ⊢
    omega
theorem encB_take (l : List Int) (j : Nat) (h : j < l.length) : encB (l.take (j + 1)) = encB (l.take j) ++ numL l[j] := by
  unfold encB
  rw [List.take_succ_eq_append_getElem h, List.flatMap_append]
  simp
theorem encB_drop (l : List Int) (j : Nat) (h : j < l.length) : encB (l.drop j) = numL l[j] ++ encB (l.drop (j + 1)) := by
  unfold encB
  rw [List.drop_eq_getElem_cons h, List.flatMap_cons]
theorem Rdr.drew {w : World} {base g : Nat} {A : Option Addr} {n c : Nat} {l : List UInt8} {e : Int} (h : Rdr w base g A n c l e) : Rdr w.drew base g A n c l e := ⟨h.whole, h.rd, h.len, h.cap, h.lie, h.form⟩
theorem Rdr.lower {w : World} {base base' g : Nat} {A : Option Addr} {n c : Nat} {l : List UInt8} {e : Int} (h : Rdr w base g A n c l e) (hb : base' ≤ base) : Rdr w base' g A n c l e := ⟨h.whole, h.rd, h.len, h.cap, Nat.le_trans hb h.lie, h.form⟩
theorem num_next {w : World} {base g : Nat} {A : Option Addr} {n c : Nat} {N : Nat} {r : List UInt8} (h : Rdr w base g A n c (numB N ++ r) 0) (hN : (N : Int) ≤ 9007199254740992) :
    Calls Try.prog 27 #[.pointer (some ⟨g, 0, none⟩)] w fun x w' => ∃ A' n' c', x = .returned (.int .i64 (N : Int)) ∧ Rdr w' base g A' n' c' r 0 ∧ Below base w w' := by
  have U := made_num h
  rw [dec_numB _ N (Nat.le_refl _) (by omega)] at U
  simp only [List.drop_left] at U
  refine U.mono ?_
  rintro e w1 ⟨A1, n1, c1, rfl, h1, hb1⟩
  exact ⟨A1, n1, c1, rfl, h1, hb1.below h.lie⟩
theorem text_next {w : World} {base g : Nat} {A : Option Addr} {n c : Nat} {s : ByteArray} (h : Rdr w base g A n c (textB s.data.toList) 0) (hs : (s.size : Int) ≤ 5000) :
    Calls Try.prog 31 #[.pointer (some ⟨g, 0, none⟩), .int .i64 5000] w fun x w' => ∃ A' c' l', x = .returned (.string s) ∧ Rdr w' base g A' 0 c' l' 0 ∧ Below base w w' := by
  have U := made_text h 5000
  have hs1 : s.data.toList.length = s.size := by simp
  rw [tx_textB s.data.toList 5000 (by omega) (by omega)] at U
  have e : (⟨s.data.toList.toArray⟩ : ByteArray) = s := by simp
  dsimp only at U
  rw [e] at U
  refine U.mono ?_
  rintro e w1 ⟨A1, n1, c1, rfl, h1, hb1⟩
  have hl := h1.len
  rw [List.drop_length, List.length_nil] at hl
  subst hl
  exact ⟨A1, c1, _, rfl, h1, hb1.below h.lie⟩
set_option maxRecDepth 100000 in
set_option maxHeartbeats 6400000 in
theorem back_short (A0 : Option Addr) (n0 c0 : Nat) (zl : List Int) (s : ByteArray) (A2 : Option Addr) (n2 c2 : Nat) (l2 : List UInt8) (w : World) (hz : IRd w w.heap.size A0 zl) (hn0 : zl.length = n0) (h0 : n0 ≤ 200)
    (hs : (s.size : Int) ≤ 5000) (hr2 : Rd w w.heap.size A2 l2) (hn2 : l2.length = n2) (hc2 : n2 ≤ c2) (h2 : n2 ≤ 100) :
    Calls Try.prog 8 #[.slice A0 n0 c0, .string s, .slice A2 n2 c2] w fun e w' => e = .returned (.bool true) ∧ Below w.heap.size w w' := by
  have HN0 := Lib.hid hn0
  have HN2 := Lib.hid hn2
  have HZ := Lib.hid hz
  have HR2 := Lib.hid hr2
  clear hn0 hn2 hz hr2
  go_enter Try.func8, Try.ntmps8
  go_wp2
  go_loopw [7, 8] (fun b i wr => ∃ (j : Nat) (A : Option Addr) (m c : Nat), i = .int .i64 (j : Int) ∧ j ≤ n0 ∧ b = .slice A m c ∧ Has wr w.heap.size A m c (encB (zl.take j)) ∧ Below w.heap.size w wr) (fun _ i _ => n0 - (intOf i).toNat)
  case atStart => exact ⟨0, none, 0, 0, rfl, by omega, rfl, Has.nil _ _, Below.refl _ _⟩
  case round =>
    obtain ⟨j, A, m, c, rfl, hj, rfl, hB, hb⟩ := hrel
    have hbs := hb.size
    have hm : m ≤ 1800 := by
      have h1 := encB_length (zl.take j)
      have h2 : (zl.take j).length ≤ n0 := by rw [List.length_take, HN0.out]; omega
      rw [hB.len] at h1
      omega
    by_cases hlt : j < n0
    · obtain ⟨b0, off0, rfl, hb0, hcell⟩ := HZ.out.at_ (k := j) (by rw [HN0.out]; exact hlt)
      have hx := (hb.cell (p := ⟨b0, off0 + j, none⟩) hb0).trans (hcell j (by rw [HN0.out]; exact hlt))
      have henc := encB_take zl j (by rw [HN0.out]; exact hlt)
      obtain ⟨x, hxe⟩ : ∃ x, x = zl[j]'(by rw [HN0.out]; exact hlt) := ⟨_, rfl⟩
      rw [← hxe] at hx henc
      clear hxe hcell
      by_cases hg : 0 ≤ x ∧ x ≤ 9007199254740992
      · obtain ⟨N, rfl⟩ := Int.eq_ofNat_of_zero_le hg.1
        have eN : numL (N : Int) = numB N := by unfold numL; rw [if_pos hg]; rfl
        rw [eN] at henc
        have HE := Lib.hid henc
        have hg2 := hg.2
        clear henc eN hg
        go_wp2_with fail
        refine (num_good N _ hg2).mono ?_
        rintro e w1 ⟨A1, n1, d1, rfl, h1, hb1⟩
        have hB1 := hB.below hb1
        have hbw1 := hb.trans (hb1.mono hbs)
        have hs1 := hbw1.size
        have h1l := h1.len
        have hN9 := numB_le (n := N) (by omega)
        clear hB hb1
        go_wp2_with (first
          | (go_at_call 19; (with_reducible refine (law_num_any _ _).mono ?_); rintro e w' ⟨rfl, rfl⟩)
          | (at_builtin; refine wpList_grow _ rfl (.tmp 56) (.tmp 57) _ rfl w.heap.size _ _ rfl hB1.own _ (numB N) rfl (src_at n1 d1 h1.rd h1.len) (by rw [hB1.len]; omega) hs1 ?_; intro A3 n3 d3 w3 h3 hb3))
        go_roundw
        case rel => exact ⟨j + 1, A3, n3, d3, by go_num, by omega, rfl, by rw [HE.out]; exact h3, hbw1.trans hb3⟩
        case measure => simp [intOf]; omega
      · have eN : numL x = [] := by unfold numL; rw [if_neg hg]
        rw [eN, List.append_nil] at henc
        have HE := Lib.hid henc
        clear henc eN
        go_wp2_with fail
        refine (num_bad x _ hg).mono ?_
        rintro e w1 ⟨A1, n1, d1, rfl, h1, hb1⟩
        have hB1 := hB.below hb1
        have hbw1 := hb.trans (hb1.mono hbs)
        clear hB hb1 hg
        go_wp2_with (go_at_call 19; (with_reducible refine (law_num_any _ _).mono ?_); rintro e w' ⟨rfl, rfl⟩)
        go_roundw
        case rel => exact ⟨j + 1, A, m, c, by go_num, by omega, rfl, by rw [HE.out]; exact hB1, hbw1⟩
        case measure => simp [intOf]; omega
    · have hjn : zl.take j = zl := List.take_of_length_le (by rw [HN0.out]; omega)
      rw [hjn] at hB
      clear hjn
      go_wp2_with fail
      refine (text_good s _ (by omega)).mono ?_
      rintro e w1 ⟨A1, n1, d1, rfl, h1, hb1⟩
      have hB1 := hB.below hb1
      have hbw1 := hb.trans (hb1.mono hbs)
      have hs1 := hbw1.size
      have h1l : n1 ≤ 5009 := by
        have q := h1.len
        have q2 := numB_le (n := s.data.toList.length) (by simp; omega)
        unfold textB at q
        rw [List.length_append] at q
        have q3 : s.data.toList.length = s.size := by simp
        omega
      clear hB hb1 hb hbs
      go_wp2_with (at_builtin; refine wpList_grow _ rfl (.tmp 65) (.tmp 66) _ rfl w.heap.size _ _ rfl hB1.own _ (textB s.data.toList) rfl (src_at n1 d1 h1.rd h1.len) (by rw [hB1.len, h1.len]; omega) hs1 ?_; intro A3 n3 d3 w3 h3 hb3)
      have hbw3 := hbw1.trans hb3
      have hs3 := hbw3.size
      have hn3 : n3 ≤ 6809 := by have q := h3.len; rw [List.length_append, hB1.len, h1.len] at q; omega
      clear hB1 h1 hbw1 hb3
      obtain ⟨L, hL⟩ : ∃ L, L = encB zl ++ textB s.data.toList := ⟨_, rfl⟩
      rw [← hL] at h3
      have HL := Lib.hid hL
      clear hL
      refine (show Calls Try.prog 21 #[.int .i64 9, .slice A3 n3 d3] w3 (SliceNumPost w3.heap.size (frameB 9 L) 0 w3) from frame_good 9 A3 n3 d3 L w3 (by omega) h3.rd h3.len (by omega)).mono ?_
      rintro e w4 ⟨A4, n4, d4, rfl, h4, hb4⟩
      have hLl : L.length ≤ 131072 := by rw [h3.len]; omega
      have hbw4 := hbw3.trans (hb4.mono hs3)
      have hs4 := hbw4.size
      have h4n : L.length ≤ 6809 := by rw [h3.len]; exact hn3
      have hn4 : n4 ≤ 7000 := by have q := h4.len; have q2 := h3.len; rw [frameB_length] at q; omega
      clear h3 hb4 hbw3
      go_wp2_with fail
      have hun := unframe_any A4 n4 d4 _ w4 h4.rd h4.len h4.cap (by omega)
      rw [unE_frame 9 L hLl, unK_frame 9 L hLl (by omega), unC_frame 9 L hLl] at hun
      refine (show Calls Try.prog 23 #[.slice A4 n4 d4] w4 (UnPost 9 L 0 w4) from hun).mono ?_
      rintro e w5 ⟨A5, n5, d5, rfl, h5, hb5⟩
      have hbw5 := hbw4.trans (hb5.mono hs4)
      have hs5 := hbw5.size
      clear hun h4 hb5 hbw4
      go_wp2_with (first
        | (go_at_call 19; (with_reducible refine (law_num_any _ _).mono ?_); rintro e w' ⟨rfl, rfl⟩)
        | (go_at_call 11; (with_reducible refine (knows_any _).mono ?_); rintro e w6 ⟨rfl, hb6⟩))
      have h6 := h5.below hb6
      have hbw6 := hbw5.trans (hb6.mono hs5)
      have hs6 := hbw6.size
      have hn5 : n5 ≤ 7000 := by rw [← h5.len]; have q2 := h4n; omega
      refine (open_any A5 n5 d5 L w6 h6.rd h6.len (by omega)).mono ?_
      rintro e w7 ⟨g, A7, n7, d7, rfl, h7, hb7⟩
      have h7b := h7.lower hs6
      have hbw7 := hbw6.trans (hb7.mono hs6)
      rw [HL.out] at h7b
      have H7 := Lib.hid h7b
      clear h5 h6 h7 h7b hb6 hb7 hbw5 hbw6 HL
      go_wp2
      go_loopw [19] (fun i wr => ∃ (j A n c : _), i = .int .i64 ((j : Nat) : Int) ∧ j ≤ n0 ∧ Rdr wr w.heap.size g A n c (encB (zl.drop j) ++ textB s.data.toList) 0 ∧ Below w.heap.size w wr) (fun i _ => n0 - (intOf i).toNat)
      case atStart => exact ⟨0, A7, n7, d7, rfl, by omega, H7.out, hbw7⟩
      case round =>
        obtain ⟨i, Ar, nr, cr, rfl, hi, hR, hbr⟩ := hrel
        clear H7 hbw7 hj
        by_cases hlt : i < n0
        · obtain ⟨b0, off0, rfl, hb0, hcell⟩ := HZ.out.at_ (k := i) (by rw [HN0.out]; exact hlt)
          have henc := encB_drop zl i (by rw [HN0.out]; exact hlt)
          have hcx := hcell i (by rw [HN0.out]; exact hlt)
          obtain ⟨x, hxe⟩ : ∃ x, x = zl[i]'(by rw [HN0.out]; exact hlt) := ⟨_, rfl⟩
          rw [← hxe] at hcx henc
          clear hxe hcell
          have hx : ∀ W : World, Below w.heap.size w W → W.cell? ⟨b0, off0 + i, none⟩ = some (.int .i64 x) := fun W hW => (hW.cell (p := ⟨b0, off0 + i, none⟩) hb0).trans hcx
          have HX := Lib.hid hx
          clear hx hcx
          rw [henc] at hR
          clear henc
          have ilt : (i : Int) < (n0 : Int) := by omega
          by_cases hg : 0 ≤ x ∧ x ≤ 9007199254740992
          · obtain ⟨N, rfl⟩ := Int.eq_ofNat_of_zero_le hg.1
            have eN : numL (N : Int) = numB N := by unfold numL; rw [if_pos hg]; rfl
            rw [eN, List.append_assoc] at hR
            have hN := hg.2
            have e1 : decide ((N : Int) ≤ 9007199254740992) = true := decide_eq_true hN
            clear eN hg
            go_wp2
            have hbq : Below w.heap.size w wr.drew := hbr.drew
            have hrq := hR.drew
            obtain ⟨wq, hwq⟩ : ∃ wq, wq = wr.drew := ⟨_, rfl⟩
            refine wp_region_held_drew (S := fun W => Below w.heap.size w W) (by kernel_rfl) hbq (fun hHeld => ?_)
            rw [← hwq] at hbq hHeld hrq ⊢
            clear hwq
            have UN := Lib.hid (num_next hrq hN)
            refine wpAnyH_take (i := 0) (v := ?_) rfl (by kernel_rfl) (by kernel_rfl) (by kernel_rfl) (fun _ _ _ h => h) (Or.inl ⟨by rfl, ?_⟩) (by assumption) ?_
            rotate_left 1
            · (intro W hW; clear hW; go_simp; try with_reducible rfl)
            simp only [Act.put, List.getElem_toArray, List.getElem_cons_zero, List.setIfInBounds_toArray, List.set_cons_zero, List.set_cons_succ]
            refine wpAnyH_take (i := 1) (v := ?_) rfl (by kernel_rfl) (by kernel_rfl) (by kernel_rfl) (fun _ _ _ h => h) (Or.inl ⟨by rfl, ?_⟩) (by assumption) ?_
            rotate_left 1
            · (intro W hW; clear hW; go_simp; try with_reducible rfl)
            simp only [Act.put, List.getElem_toArray, List.getElem_cons_succ, List.getElem_cons_zero, List.setIfInBounds_toArray, List.set_cons_zero, List.set_cons_succ]
            refine wpAnyH_take (i := 2) (v := ?_) rfl (by kernel_rfl) (by kernel_rfl) (by kernel_rfl) (fun _ _ _ h => h) (Or.inl ⟨by rfl, ?_⟩) (by assumption) ?_
            rotate_left 1
            · (intro W hW; clear hW; go_simp; try with_reducible rfl)
            simp only [Act.put, List.getElem_toArray, List.getElem_cons_succ, List.getElem_cons_zero, List.setIfInBounds_toArray, List.set_cons_zero, List.set_cons_succ]
            refine wpAnyH_take (i := 3) (v := ?_) rfl (by kernel_rfl) (by kernel_rfl) (by kernel_rfl) (fun _ _ _ h => h) (Or.inl ⟨by rfl, ?_⟩) (by assumption) ?_
            rotate_left 1
            · (intro W hW; have t := HX.out W hW; go_simp; try with_reducible rfl)
            simp only [Act.put, List.getElem_toArray, List.getElem_cons_succ, List.getElem_cons_zero, List.setIfInBounds_toArray, List.set_cons_zero, List.set_cons_succ]
            refine wpAnyH_take (i := 4) (v := ?_) rfl (by kernel_rfl) (by kernel_rfl) (by kernel_rfl) (fun _ _ _ h => h) (Or.inl ⟨by rfl, ?_⟩) (by assumption) ?_
            rotate_left 1
            · (intro W hW; clear hW; go_simp; try with_reducible rfl)
            simp only [Act.put, List.getElem_toArray, List.getElem_cons_succ, List.getElem_cons_zero, List.setIfInBounds_toArray, List.set_cons_zero, List.set_cons_succ]
            refine wpAnyH_take (i := 5) (v := ?_) rfl (by kernel_rfl) (by kernel_rfl) (by kernel_rfl) (fun _ _ _ h => h) (Or.inl ⟨by rfl, ?_⟩) (by assumption) ?_
            rotate_left 1
            · (intro W hW; clear hW; go_simp; try with_reducible rfl)
            simp only [Act.put, List.getElem_toArray, List.getElem_cons_succ, List.getElem_cons_zero, List.setIfInBounds_toArray, List.set_cons_zero, List.set_cons_succ]
            refine wpAnyH_take (i := 6) (v := ?_) rfl (by kernel_rfl) (by kernel_rfl) (by kernel_rfl) (fun _ _ _ h => h) (Or.inl ⟨by rfl, ?_⟩) (by assumption) ?_
            rotate_left 1
            · (intro W hW; clear hW; go_simp; try with_reducible rfl)
            simp only [Act.put, List.getElem_toArray, List.getElem_cons_succ, List.getElem_cons_zero, List.setIfInBounds_toArray, List.set_cons_zero, List.set_cons_succ]
            refine wpAnyH_take (i := 7) (v := ?_) rfl (by kernel_rfl) (by kernel_rfl) (by kernel_rfl) (fun _ _ _ h => h) (Or.inl ⟨by rfl, ?_⟩) (by assumption) ?_
            rotate_left 1
            · (intro W hW; clear hW; go_simp; try with_reducible rfl)
            simp only [Act.put, List.getElem_toArray, List.getElem_cons_succ, List.getElem_cons_zero, List.setIfInBounds_toArray, List.set_cons_zero, List.set_cons_succ]
            refine wpAnyH_take (i := 8) (v := ?_) rfl (by kernel_rfl) (by kernel_rfl) (by kernel_rfl) (fun _ _ _ h => h) (Or.inl ⟨by rfl, ?_⟩) (by assumption) ?_
            rotate_left 1
            · (intro W hW; clear hW; go_simp; try with_reducible rfl)
            simp only [Act.put, List.getElem_toArray, List.getElem_cons_succ, List.getElem_cons_zero, List.setIfInBounds_toArray, List.set_cons_zero, List.set_cons_succ]
            refine wpAnyH_take (i := 9) (v := ?_) rfl (by kernel_rfl) (by kernel_rfl) (by kernel_rfl) (fun _ _ _ h => h) (Or.inl ⟨by rfl, ?_⟩) (by assumption) ?_
            rotate_left 1
            · (intro W hW; have t := HX.out W hW; go_simp; try with_reducible rfl)
            simp only [Act.put, List.getElem_toArray, List.getElem_cons_succ, List.getElem_cons_zero, List.setIfInBounds_toArray, List.set_cons_zero, List.set_cons_succ]
            refine wpAnyH_take (i := 10) (v := ?_) rfl (by kernel_rfl) (by kernel_rfl) (by kernel_rfl) (fun _ _ _ h => h) (Or.inl ⟨by rfl, ?_⟩) (by assumption) ?_
            rotate_left 1
            · (intro W hW; clear hW; go_simp; try with_reducible rfl)
            simp only [Act.put, List.getElem_toArray, List.getElem_cons_succ, List.getElem_cons_zero, List.setIfInBounds_toArray, List.set_cons_zero, List.set_cons_succ]
            refine wpAnyH_take (i := 11) (v := ?_) rfl (by kernel_rfl) (by kernel_rfl) (by kernel_rfl) (fun _ _ _ h => h) (Or.inl ⟨by rfl, ?_⟩) (by assumption) ?_
            rotate_left 1
            · (intro W hW; clear hW; go_simp; try with_reducible rfl)
            simp only [Act.put, List.getElem_toArray, List.getElem_cons_succ, List.getElem_cons_zero, List.setIfInBounds_toArray, List.set_cons_zero, List.set_cons_succ]
            refine wpAnyH_take (i := 12) (v := ?_) rfl (by kernel_rfl) (by kernel_rfl) (by kernel_rfl) (fun _ _ _ h => h) (Or.inl ⟨by rfl, ?_⟩) (by assumption) ?_
            rotate_left 1
            · (intro W hW; clear hW; go_simp; try with_reducible rfl)
            simp only [Act.put, List.getElem_toArray, List.getElem_cons_succ, List.getElem_cons_zero, List.setIfInBounds_toArray, List.set_cons_zero, List.set_cons_succ]
            refine wpAnyH_take (i := 13) (v := ?_) rfl (by kernel_rfl) (by kernel_rfl) (by kernel_rfl) (fun _ _ _ h => h) (Or.inl ⟨by rfl, ?_⟩) (by assumption) ?_
            rotate_left 1
            · (intro W hW; clear hW; go_simp; try with_reducible rfl)
            simp only [Act.put, List.getElem_toArray, List.getElem_cons_succ, List.getElem_cons_zero, List.setIfInBounds_toArray, List.set_cons_zero, List.set_cons_succ]
            refine wpAnyH_take (i := 15) (v := ?_) rfl (by kernel_rfl) (by kernel_rfl) (by kernel_rfl) (fun _ _ _ h => h) (Or.inl ⟨by rfl, ?_⟩) (by assumption) ?_
            rotate_left 1
            · (intro W hW; clear hW; go_simp; try with_reducible rfl)
            simp only [Act.put, List.getElem_toArray, List.getElem_cons_succ, List.getElem_cons_zero, List.setIfInBounds_toArray, List.set_cons_zero, List.set_cons_succ]
            refine wpAnyH_take (i := 16) (v := ?_) rfl (by kernel_rfl) (by kernel_rfl) (by kernel_rfl) (fun _ _ _ h => h) (Or.inl ⟨by rfl, ?_⟩) (by assumption) ?_
            rotate_left 1
            · (intro W hW; clear hW; go_simp; try with_reducible rfl)
            simp only [Act.put, List.getElem_toArray, List.getElem_cons_succ, List.getElem_cons_zero, List.setIfInBounds_toArray, List.set_cons_zero, List.set_cons_succ]
            refine wpAnyH_take (i := 17) (v := ?_) rfl (by kernel_rfl) (by kernel_rfl) (by kernel_rfl) (fun _ _ _ h => h) (Or.inl ⟨by rfl, ?_⟩) (by assumption) ?_
            rotate_left 1
            · (intro W hW; clear hW; go_simp; try with_reducible rfl)
            simp only [Act.put, List.getElem_toArray, List.getElem_cons_succ, List.getElem_cons_zero, List.setIfInBounds_toArray, List.set_cons_zero, List.set_cons_succ]
            refine wpAnyH_take (i := 18) (v := ?_) rfl (by kernel_rfl) (by kernel_rfl) (by kernel_rfl) (fun _ _ _ h => h) (Or.inl ⟨by rfl, ?_⟩) (by assumption) ?_
            rotate_left 1
            · (intro W hW; have t := HX.out W hW; go_simp; try with_reducible rfl)
            simp only [Act.put, List.getElem_toArray, List.getElem_cons_succ, List.getElem_cons_zero, List.setIfInBounds_toArray, List.set_cons_zero, List.set_cons_succ]
            refine wpAnyH_ready (rs := [14]) (by kernel_rfl) (by simp) ?_
            refine AllReadyH.cons rfl (fun K hK => ?_) AllReadyH.nil
            go_simp
            refine UN.out.mono ?_
            rintro e w5 ⟨A5, n5, c5, rfl, h5, hb5⟩
            go_wp2_with fail
            refine hK.out _ _ (hbq.trans hb5) (fun hHeld => ?_)
            clear hK K
            try simp only [Act.put, List.getElem_toArray, List.getElem_cons_succ, List.getElem_cons_zero, List.setIfInBounds_toArray, List.set_cons_zero, List.set_cons_succ]
            refine wpAnyH_take (i := 19) (v := ?_) rfl (by kernel_rfl) (by kernel_rfl) (by kernel_rfl) (fun _ _ _ h => h) (Or.inl ⟨by rfl, ?_⟩) (by assumption) ?_
            rotate_left 1
            · (intro W hW; clear hW; go_simp; try with_reducible rfl)
            simp only [Act.put, List.getElem_toArray, List.getElem_cons_succ, List.getElem_cons_zero, List.setIfInBounds_toArray, List.set_cons_zero, List.set_cons_succ]
            refine wpAnyH_take (i := 20) (v := ?_) rfl (by kernel_rfl) (by kernel_rfl) (by kernel_rfl) (fun _ _ _ h => h) (Or.inl ⟨by rfl, ?_⟩) (by assumption) ?_
            rotate_left 1
            · (intro W hW; clear hW; go_simp; try with_reducible rfl)
            simp only [Act.put, List.getElem_toArray, List.getElem_cons_succ, List.getElem_cons_zero, List.setIfInBounds_toArray, List.set_cons_zero, List.set_cons_succ]
            refine wpAnyH_done (by kernel_rfl) ?_ _
            go_wp2
            go_roundw
            case rel => exact ⟨i + 1, A5, n5, c5, by go_num, by omega, h5, hbq.trans hb5⟩
            case measure => simp [intOf]; omega
          · have eN : numL x = [] := by unfold numL; rw [if_neg hg]
            rw [eN, List.nil_append] at hR
            clear eN
            by_cases hlo : x < 0
            · have e0 : decide (0 ≤ x) = false := decide_eq_false (by omega)
              clear hg hlo
              go_wp2
              have hbq : Below w.heap.size w wr.drew := hbr.drew
              have hrq := hR.drew
              obtain ⟨wq, hwq⟩ : ∃ wq, wq = wr.drew := ⟨_, rfl⟩
              refine wp_region_held_drew (S := fun W => Below w.heap.size w W) (by kernel_rfl) hbq (fun hHeld => ?_)
              rw [← hwq] at hbq hHeld hrq ⊢
              clear hwq
              refine wpAnyH_take (i := 0) (v := ?_) rfl (by kernel_rfl) (by kernel_rfl) (by kernel_rfl) (fun _ _ _ h => h) (Or.inl ⟨by rfl, ?_⟩) (by assumption) ?_
              rotate_left 1
              · (intro W hW; clear hW; go_simp; try with_reducible rfl)
              simp only [Act.put, List.getElem_toArray, List.getElem_cons_zero, List.setIfInBounds_toArray, List.set_cons_zero, List.set_cons_succ]
              refine wpAnyH_take (i := 1) (v := ?_) rfl (by kernel_rfl) (by kernel_rfl) (by kernel_rfl) (fun _ _ _ h => h) (Or.inl ⟨by rfl, ?_⟩) (by assumption) ?_
              rotate_left 1
              · (intro W hW; clear hW; go_simp; try with_reducible rfl)
              simp only [Act.put, List.getElem_toArray, List.getElem_cons_succ, List.getElem_cons_zero, List.setIfInBounds_toArray, List.set_cons_zero, List.set_cons_succ]
              refine wpAnyH_take (i := 2) (v := ?_) rfl (by kernel_rfl) (by kernel_rfl) (by kernel_rfl) (fun _ _ _ h => h) (Or.inl ⟨by rfl, ?_⟩) (by assumption) ?_
              rotate_left 1
              · (intro W hW; clear hW; go_simp; try with_reducible rfl)
              simp only [Act.put, List.getElem_toArray, List.getElem_cons_succ, List.getElem_cons_zero, List.setIfInBounds_toArray, List.set_cons_zero, List.set_cons_succ]
              refine wpAnyH_take (i := 3) (v := ?_) rfl (by kernel_rfl) (by kernel_rfl) (by kernel_rfl) (fun _ _ _ h => h) (Or.inl ⟨by rfl, ?_⟩) (by assumption) ?_
              rotate_left 1
              · (intro W hW; have t := HX.out W hW; go_simp; try with_reducible rfl)
              simp only [Act.put, List.getElem_toArray, List.getElem_cons_succ, List.getElem_cons_zero, List.setIfInBounds_toArray, List.set_cons_zero, List.set_cons_succ]
              refine wpAnyH_take (i := 4) (v := ?_) rfl (by kernel_rfl) (by kernel_rfl) (by kernel_rfl) (fun _ _ _ h => h) (Or.inl ⟨by rfl, ?_⟩) (by assumption) ?_
              rotate_left 1
              · (intro W hW; clear hW; go_simp; try with_reducible rfl)
              simp only [Act.put, List.getElem_toArray, List.getElem_cons_succ, List.getElem_cons_zero, List.setIfInBounds_toArray, List.set_cons_zero, List.set_cons_succ]
              refine wpAnyH_take (i := 5) (v := ?_) rfl (by kernel_rfl) (by kernel_rfl) (by kernel_rfl) (fun _ _ _ h => h) (Or.inl ⟨by rfl, ?_⟩) (by assumption) ?_
              rotate_left 1
              · (intro W hW; clear hW; go_simp; try with_reducible rfl)
              simp only [Act.put, List.getElem_toArray, List.getElem_cons_succ, List.getElem_cons_zero, List.setIfInBounds_toArray, List.set_cons_zero, List.set_cons_succ]
              refine wpAnyH_take (i := 6) (v := undef) rfl (by kernel_rfl) (by kernel_rfl) (by kernel_rfl) (fun _ _ _ h => h) (Or.inr ⟨by rfl, rfl⟩) (by assumption) ?_
              simp only [Act.put, List.getElem_toArray, List.getElem_cons_succ, List.getElem_cons_zero, List.setIfInBounds_toArray, List.set_cons_zero, List.set_cons_succ]
              refine wpAnyH_take (i := 7) (v := undef) rfl (by kernel_rfl) (by kernel_rfl) (by kernel_rfl) (fun _ _ _ h => h) (Or.inr ⟨by rfl, rfl⟩) (by assumption) ?_
              simp only [Act.put, List.getElem_toArray, List.getElem_cons_succ, List.getElem_cons_zero, List.setIfInBounds_toArray, List.set_cons_zero, List.set_cons_succ]
              refine wpAnyH_take (i := 8) (v := undef) rfl (by kernel_rfl) (by kernel_rfl) (by kernel_rfl) (fun _ _ _ h => h) (Or.inr ⟨by rfl, rfl⟩) (by assumption) ?_
              simp only [Act.put, List.getElem_toArray, List.getElem_cons_succ, List.getElem_cons_zero, List.setIfInBounds_toArray, List.set_cons_zero, List.set_cons_succ]
              refine wpAnyH_take (i := 9) (v := undef) rfl (by kernel_rfl) (by kernel_rfl) (by kernel_rfl) (fun _ _ _ h => h) (Or.inr ⟨by rfl, rfl⟩) (by assumption) ?_
              simp only [Act.put, List.getElem_toArray, List.getElem_cons_succ, List.getElem_cons_zero, List.setIfInBounds_toArray, List.set_cons_zero, List.set_cons_succ]
              refine wpAnyH_take (i := 10) (v := undef) rfl (by kernel_rfl) (by kernel_rfl) (by kernel_rfl) (fun _ _ _ h => h) (Or.inr ⟨by rfl, rfl⟩) (by assumption) ?_
              simp only [Act.put, List.getElem_toArray, List.getElem_cons_succ, List.getElem_cons_zero, List.setIfInBounds_toArray, List.set_cons_zero, List.set_cons_succ]
              refine wpAnyH_take (i := 11) (v := ?_) rfl (by kernel_rfl) (by kernel_rfl) (by kernel_rfl) (fun _ _ _ h => h) (Or.inl ⟨by rfl, ?_⟩) (by assumption) ?_
              rotate_left 1
              · (intro W hW; clear hW; go_simp; try with_reducible rfl)
              simp only [Act.put, List.getElem_toArray, List.getElem_cons_succ, List.getElem_cons_zero, List.setIfInBounds_toArray, List.set_cons_zero, List.set_cons_succ]
              refine wpAnyH_take (i := 12) (v := ?_) rfl (by kernel_rfl) (by kernel_rfl) (by kernel_rfl) (fun _ _ _ h => h) (Or.inl ⟨by rfl, ?_⟩) (by assumption) ?_
              rotate_left 1
              · (intro W hW; clear hW; go_simp; try with_reducible rfl)
              simp only [Act.put, List.getElem_toArray, List.getElem_cons_succ, List.getElem_cons_zero, List.setIfInBounds_toArray, List.set_cons_zero, List.set_cons_succ]
              refine wpAnyH_take (i := 13) (v := undef) rfl (by kernel_rfl) (by kernel_rfl) (by kernel_rfl) (fun _ _ _ h => h) (Or.inr ⟨by rfl, rfl⟩) (by assumption) ?_
              simp only [Act.put, List.getElem_toArray, List.getElem_cons_succ, List.getElem_cons_zero, List.setIfInBounds_toArray, List.set_cons_zero, List.set_cons_succ]
              refine wpAnyH_take (i := 14) (v := undef) rfl (by kernel_rfl) (by kernel_rfl) (by kernel_rfl) (fun _ _ _ h => h) (Or.inr ⟨by rfl, rfl⟩) (by assumption) ?_
              simp only [Act.put, List.getElem_toArray, List.getElem_cons_succ, List.getElem_cons_zero, List.setIfInBounds_toArray, List.set_cons_zero, List.set_cons_succ]
              refine wpAnyH_take (i := 15) (v := undef) rfl (by kernel_rfl) (by kernel_rfl) (by kernel_rfl) (fun _ _ _ h => h) (Or.inr ⟨by rfl, rfl⟩) (by assumption) ?_
              simp only [Act.put, List.getElem_toArray, List.getElem_cons_succ, List.getElem_cons_zero, List.setIfInBounds_toArray, List.set_cons_zero, List.set_cons_succ]
              refine wpAnyH_take (i := 16) (v := undef) rfl (by kernel_rfl) (by kernel_rfl) (by kernel_rfl) (fun _ _ _ h => h) (Or.inr ⟨by rfl, rfl⟩) (by assumption) ?_
              simp only [Act.put, List.getElem_toArray, List.getElem_cons_succ, List.getElem_cons_zero, List.setIfInBounds_toArray, List.set_cons_zero, List.set_cons_succ]
              refine wpAnyH_take (i := 17) (v := undef) rfl (by kernel_rfl) (by kernel_rfl) (by kernel_rfl) (fun _ _ _ h => h) (Or.inr ⟨by rfl, rfl⟩) (by assumption) ?_
              simp only [Act.put, List.getElem_toArray, List.getElem_cons_succ, List.getElem_cons_zero, List.setIfInBounds_toArray, List.set_cons_zero, List.set_cons_succ]
              refine wpAnyH_take (i := 18) (v := undef) rfl (by kernel_rfl) (by kernel_rfl) (by kernel_rfl) (fun _ _ _ h => h) (Or.inr ⟨by rfl, rfl⟩) (by assumption) ?_
              simp only [Act.put, List.getElem_toArray, List.getElem_cons_succ, List.getElem_cons_zero, List.setIfInBounds_toArray, List.set_cons_zero, List.set_cons_succ]
              refine wpAnyH_take (i := 19) (v := undef) rfl (by kernel_rfl) (by kernel_rfl) (by kernel_rfl) (fun _ _ _ h => h) (Or.inr ⟨by rfl, rfl⟩) (by assumption) ?_
              simp only [Act.put, List.getElem_toArray, List.getElem_cons_succ, List.getElem_cons_zero, List.setIfInBounds_toArray, List.set_cons_zero, List.set_cons_succ]
              refine wpAnyH_take (i := 20) (v := ?_) rfl (by kernel_rfl) (by kernel_rfl) (by kernel_rfl) (fun _ _ _ h => h) (Or.inl ⟨by rfl, ?_⟩) (by assumption) ?_
              rotate_left 1
              · (intro W hW; clear hW; go_simp; try with_reducible rfl)
              simp only [Act.put, List.getElem_toArray, List.getElem_cons_succ, List.getElem_cons_zero, List.setIfInBounds_toArray, List.set_cons_zero, List.set_cons_succ]
              refine wpAnyH_done (by kernel_rfl) ?_ _
              go_wp2
              go_roundw
              case rel => exact ⟨i + 1, Ar, nr, cr, by go_num, by omega, hrq, hbq⟩
              case measure => simp [intOf]; omega
            · have e0 : decide (0 ≤ x) = true := decide_eq_true (by omega)
              have e1 : decide (x ≤ 9007199254740992) = false := decide_eq_false (by omega)
              clear hg hlo
              go_wp2
              have hbq : Below w.heap.size w wr.drew := hbr.drew
              have hrq := hR.drew
              obtain ⟨wq, hwq⟩ : ∃ wq, wq = wr.drew := ⟨_, rfl⟩
              refine wp_region_held_drew (S := fun W => Below w.heap.size w W) (by kernel_rfl) hbq (fun hHeld => ?_)
              rw [← hwq] at hbq hHeld hrq ⊢
              clear hwq
              refine wpAnyH_take (i := 0) (v := ?_) rfl (by kernel_rfl) (by kernel_rfl) (by kernel_rfl) (fun _ _ _ h => h) (Or.inl ⟨by rfl, ?_⟩) (by assumption) ?_
              rotate_left 1
              · (intro W hW; clear hW; go_simp; try with_reducible rfl)
              simp only [Act.put, List.getElem_toArray, List.getElem_cons_zero, List.setIfInBounds_toArray, List.set_cons_zero, List.set_cons_succ]
              refine wpAnyH_take (i := 1) (v := ?_) rfl (by kernel_rfl) (by kernel_rfl) (by kernel_rfl) (fun _ _ _ h => h) (Or.inl ⟨by rfl, ?_⟩) (by assumption) ?_
              rotate_left 1
              · (intro W hW; clear hW; go_simp; try with_reducible rfl)
              simp only [Act.put, List.getElem_toArray, List.getElem_cons_succ, List.getElem_cons_zero, List.setIfInBounds_toArray, List.set_cons_zero, List.set_cons_succ]
              refine wpAnyH_take (i := 2) (v := ?_) rfl (by kernel_rfl) (by kernel_rfl) (by kernel_rfl) (fun _ _ _ h => h) (Or.inl ⟨by rfl, ?_⟩) (by assumption) ?_
              rotate_left 1
              · (intro W hW; clear hW; go_simp; try with_reducible rfl)
              simp only [Act.put, List.getElem_toArray, List.getElem_cons_succ, List.getElem_cons_zero, List.setIfInBounds_toArray, List.set_cons_zero, List.set_cons_succ]
              refine wpAnyH_take (i := 3) (v := ?_) rfl (by kernel_rfl) (by kernel_rfl) (by kernel_rfl) (fun _ _ _ h => h) (Or.inl ⟨by rfl, ?_⟩) (by assumption) ?_
              rotate_left 1
              · (intro W hW; have t := HX.out W hW; go_simp; try with_reducible rfl)
              simp only [Act.put, List.getElem_toArray, List.getElem_cons_succ, List.getElem_cons_zero, List.setIfInBounds_toArray, List.set_cons_zero, List.set_cons_succ]
              refine wpAnyH_take (i := 4) (v := ?_) rfl (by kernel_rfl) (by kernel_rfl) (by kernel_rfl) (fun _ _ _ h => h) (Or.inl ⟨by rfl, ?_⟩) (by assumption) ?_
              rotate_left 1
              · (intro W hW; clear hW; go_simp; try with_reducible rfl)
              simp only [Act.put, List.getElem_toArray, List.getElem_cons_succ, List.getElem_cons_zero, List.setIfInBounds_toArray, List.set_cons_zero, List.set_cons_succ]
              refine wpAnyH_take (i := 5) (v := ?_) rfl (by kernel_rfl) (by kernel_rfl) (by kernel_rfl) (fun _ _ _ h => h) (Or.inl ⟨by rfl, ?_⟩) (by assumption) ?_
              rotate_left 1
              · (intro W hW; clear hW; go_simp; try with_reducible rfl)
              simp only [Act.put, List.getElem_toArray, List.getElem_cons_succ, List.getElem_cons_zero, List.setIfInBounds_toArray, List.set_cons_zero, List.set_cons_succ]
              refine wpAnyH_take (i := 6) (v := ?_) rfl (by kernel_rfl) (by kernel_rfl) (by kernel_rfl) (fun _ _ _ h => h) (Or.inl ⟨by rfl, ?_⟩) (by assumption) ?_
              rotate_left 1
              · (intro W hW; clear hW; go_simp; try with_reducible rfl)
              simp only [Act.put, List.getElem_toArray, List.getElem_cons_succ, List.getElem_cons_zero, List.setIfInBounds_toArray, List.set_cons_zero, List.set_cons_succ]
              refine wpAnyH_take (i := 7) (v := ?_) rfl (by kernel_rfl) (by kernel_rfl) (by kernel_rfl) (fun _ _ _ h => h) (Or.inl ⟨by rfl, ?_⟩) (by assumption) ?_
              rotate_left 1
              · (intro W hW; clear hW; go_simp; try with_reducible rfl)
              simp only [Act.put, List.getElem_toArray, List.getElem_cons_succ, List.getElem_cons_zero, List.setIfInBounds_toArray, List.set_cons_zero, List.set_cons_succ]
              refine wpAnyH_take (i := 8) (v := ?_) rfl (by kernel_rfl) (by kernel_rfl) (by kernel_rfl) (fun _ _ _ h => h) (Or.inl ⟨by rfl, ?_⟩) (by assumption) ?_
              rotate_left 1
              · (intro W hW; clear hW; go_simp; try with_reducible rfl)
              simp only [Act.put, List.getElem_toArray, List.getElem_cons_succ, List.getElem_cons_zero, List.setIfInBounds_toArray, List.set_cons_zero, List.set_cons_succ]
              refine wpAnyH_take (i := 9) (v := ?_) rfl (by kernel_rfl) (by kernel_rfl) (by kernel_rfl) (fun _ _ _ h => h) (Or.inl ⟨by rfl, ?_⟩) (by assumption) ?_
              rotate_left 1
              · (intro W hW; have t := HX.out W hW; go_simp; try with_reducible rfl)
              simp only [Act.put, List.getElem_toArray, List.getElem_cons_succ, List.getElem_cons_zero, List.setIfInBounds_toArray, List.set_cons_zero, List.set_cons_succ]
              refine wpAnyH_take (i := 10) (v := ?_) rfl (by kernel_rfl) (by kernel_rfl) (by kernel_rfl) (fun _ _ _ h => h) (Or.inl ⟨by rfl, ?_⟩) (by assumption) ?_
              rotate_left 1
              · (intro W hW; clear hW; go_simp; try with_reducible rfl)
              simp only [Act.put, List.getElem_toArray, List.getElem_cons_succ, List.getElem_cons_zero, List.setIfInBounds_toArray, List.set_cons_zero, List.set_cons_succ]
              refine wpAnyH_take (i := 11) (v := ?_) rfl (by kernel_rfl) (by kernel_rfl) (by kernel_rfl) (fun _ _ _ h => h) (Or.inl ⟨by rfl, ?_⟩) (by assumption) ?_
              rotate_left 1
              · (intro W hW; clear hW; go_simp; try with_reducible rfl)
              simp only [Act.put, List.getElem_toArray, List.getElem_cons_succ, List.getElem_cons_zero, List.setIfInBounds_toArray, List.set_cons_zero, List.set_cons_succ]
              refine wpAnyH_take (i := 12) (v := ?_) rfl (by kernel_rfl) (by kernel_rfl) (by kernel_rfl) (fun _ _ _ h => h) (Or.inl ⟨by rfl, ?_⟩) (by assumption) ?_
              rotate_left 1
              · (intro W hW; clear hW; go_simp; try with_reducible rfl)
              simp only [Act.put, List.getElem_toArray, List.getElem_cons_succ, List.getElem_cons_zero, List.setIfInBounds_toArray, List.set_cons_zero, List.set_cons_succ]
              refine wpAnyH_take (i := 13) (v := undef) rfl (by kernel_rfl) (by kernel_rfl) (by kernel_rfl) (fun _ _ _ h => h) (Or.inr ⟨by rfl, rfl⟩) (by assumption) ?_
              simp only [Act.put, List.getElem_toArray, List.getElem_cons_succ, List.getElem_cons_zero, List.setIfInBounds_toArray, List.set_cons_zero, List.set_cons_succ]
              refine wpAnyH_take (i := 14) (v := undef) rfl (by kernel_rfl) (by kernel_rfl) (by kernel_rfl) (fun _ _ _ h => h) (Or.inr ⟨by rfl, rfl⟩) (by assumption) ?_
              simp only [Act.put, List.getElem_toArray, List.getElem_cons_succ, List.getElem_cons_zero, List.setIfInBounds_toArray, List.set_cons_zero, List.set_cons_succ]
              refine wpAnyH_take (i := 15) (v := undef) rfl (by kernel_rfl) (by kernel_rfl) (by kernel_rfl) (fun _ _ _ h => h) (Or.inr ⟨by rfl, rfl⟩) (by assumption) ?_
              simp only [Act.put, List.getElem_toArray, List.getElem_cons_succ, List.getElem_cons_zero, List.setIfInBounds_toArray, List.set_cons_zero, List.set_cons_succ]
              refine wpAnyH_take (i := 16) (v := undef) rfl (by kernel_rfl) (by kernel_rfl) (by kernel_rfl) (fun _ _ _ h => h) (Or.inr ⟨by rfl, rfl⟩) (by assumption) ?_
              simp only [Act.put, List.getElem_toArray, List.getElem_cons_succ, List.getElem_cons_zero, List.setIfInBounds_toArray, List.set_cons_zero, List.set_cons_succ]
              refine wpAnyH_take (i := 17) (v := undef) rfl (by kernel_rfl) (by kernel_rfl) (by kernel_rfl) (fun _ _ _ h => h) (Or.inr ⟨by rfl, rfl⟩) (by assumption) ?_
              simp only [Act.put, List.getElem_toArray, List.getElem_cons_succ, List.getElem_cons_zero, List.setIfInBounds_toArray, List.set_cons_zero, List.set_cons_succ]
              refine wpAnyH_take (i := 18) (v := undef) rfl (by kernel_rfl) (by kernel_rfl) (by kernel_rfl) (fun _ _ _ h => h) (Or.inr ⟨by rfl, rfl⟩) (by assumption) ?_
              simp only [Act.put, List.getElem_toArray, List.getElem_cons_succ, List.getElem_cons_zero, List.setIfInBounds_toArray, List.set_cons_zero, List.set_cons_succ]
              refine wpAnyH_take (i := 19) (v := undef) rfl (by kernel_rfl) (by kernel_rfl) (by kernel_rfl) (fun _ _ _ h => h) (Or.inr ⟨by rfl, rfl⟩) (by assumption) ?_
              simp only [Act.put, List.getElem_toArray, List.getElem_cons_succ, List.getElem_cons_zero, List.setIfInBounds_toArray, List.set_cons_zero, List.set_cons_succ]
              refine wpAnyH_take (i := 20) (v := ?_) rfl (by kernel_rfl) (by kernel_rfl) (by kernel_rfl) (fun _ _ _ h => h) (Or.inl ⟨by rfl, ?_⟩) (by assumption) ?_
              rotate_left 1
              · (intro W hW; clear hW; go_simp; try with_reducible rfl)
              simp only [Act.put, List.getElem_toArray, List.getElem_cons_succ, List.getElem_cons_zero, List.setIfInBounds_toArray, List.set_cons_zero, List.set_cons_succ]
              refine wpAnyH_done (by kernel_rfl) ?_ _
              go_wp2
              go_roundw
              case rel => exact ⟨i + 1, Ar, nr, cr, by go_num, by omega, hrq, hbq⟩
              case measure => simp [intOf]; omega
        · have hdn : zl.drop i = [] := List.drop_of_length_le (by rw [HN0.out]; omega)
          rw [hdn] at hR
          clear hdn
          have hR2 : Rdr wr w.heap.size g Ar nr cr (textB s.data.toList) 0 := hR
          clear hR
          go_wp2_with fail
          refine (text_next hR2 hs).mono ?_
          rintro e w8 ⟨A8, d8, l8, rfl, h8, hb8⟩
          have hbw8 := hbr.trans hb8
          have hs8 := hbw8.size
          clear hR2 hb8 hbr
          have hr8 := (HR2.out.below hbw8 (Nat.le_refl _)).more hs8
          go_wp2_with (first
            | (go_at_call 38; (with_reducible refine (made_done h8).mono ?_); rintro e w' ⟨rfl, rfl⟩)
            | (go_at_call 19; (with_reducible refine (law_num_any _ _).mono ?_); rintro e w' ⟨rfl, rfl⟩)
            | (at_builtin; refine wpList_grow _ rfl (.tmp 133) (.tmp 134) _ rfl w.heap.size _ [] rfl (own_lit _ w.heap.size _ [] rfl (by simp) hs8) _ l2 rfl (src_at n2 c2 (hr8.below ((Below.refl _ _).alloc (Nat.le_refl _) _) (Nat.le_refl _)) HN2.out) (by rw [HN2.out]; simp; omega) (by simp; omega) ?_; intro A9 n9 d9 w9 h9 hb9))
          have hbw9 := (hbw8.alloc hs8 _).trans hb9
          have hs9 := hbw9.size
          have hl2 := HN2.out
          have hn9 : n9 ≤ 200 := by rw [← h9.len, List.nil_append]; omega
          refine (open_any A9 n9 d9 l2 w9 h9.rd h9.len (by omega)).mono ?_
          rintro e w10 ⟨q, Aq, nq, dq, rfl, hq, hbq0⟩
          have hq2 := hq.lower hs9
          have hbw10 := hbw9.trans (hbq0.mono hs9)
          clear hq hbq0 h9 hb9 h8 hbw8 hr8 hbw9
          go_wp2_with fail
          have UN := made_num hq2
          have hcame := dec_came 9007199254740992 l2 0 0
          generalize dec 9007199254740992 0 0 l2 = d at UN hcame
          obtain ⟨r1, r2, r3⟩ := d
          unfold Came at hcame
          dsimp only at UN hcame
          refine UN.mono ?_
          rintro e w11 ⟨Ax, nx, cx, rfl, hx, hbo⟩
          have hb11 := hbo.below hq2.lie
          have hbw11 := hbw10.trans hb11
          have hs11 := hbw11.size
          clear UN hq2 hb11 hbw10 hbo
          rcases hcame with ⟨rfl, rfl, hr3⟩ | ⟨t, N, rfl, rfl, ht, hr1, hBt, hle, _⟩
          · have hne : r3 ≠ 0 := by omega
            have eb : (r3 != 0) = true := by rw [bne_iff_ne]; exact hne
            have LF : Calls Try.prog 35 #[.pointer (some ⟨q, 0, none⟩)] w11 fun x w' => x = .returned (.int .i64 0) ∧ w11 = w' := by
              have h := made_left hx
              rw [if_neg hne] at h
              exact h
            have LH := Lib.hid LF
            have HXH := Lib.hid hx
            clear LF hr3 hne hx
            go_wp2_with (go_at_call 35; (with_reducible refine LH.out.mono ?_); rintro e w' ⟨rfl, rfl⟩)
            refine (show Calls Try.prog 16 #[.int .i64 0] _ (SliceNumPost _ (numB 0) 0 _) from num_good 0 _ (by omega)).mono ?_
            rintro e w12 ⟨A12, n12, d12, rfl, h12, hb12⟩
            have hbr := hbw11.trans (hb12.mono hs11)
            have hR := HXH.out.below hb12
            clear HXH hb12 h12
            go_wp2
            have hbq : Below w.heap.size w w12.drew := hbr.drew
            have hrq := hR.drew
            obtain ⟨wq, hwq⟩ : ∃ wq, wq = w12.drew := ⟨_, rfl⟩
            refine wp_region_held_drew (S := fun W => Below w.heap.size w W) (by kernel_rfl) hbq (fun hHeld => ?_)
            rw [← hwq] at hbq hHeld hrq ⊢
            clear hwq
            refine wpAnyH_take (i := 0) (v := ?_) rfl (by kernel_rfl) (by kernel_rfl) (by kernel_rfl) (fun _ _ _ h => h) (Or.inl ⟨by rfl, ?_⟩) (by assumption) ?_
            rotate_left 1
            · (intro W hW; clear hW; go_simp; try with_reducible rfl)
            simp only [Act.put, List.getElem_toArray, List.getElem_cons_zero, List.setIfInBounds_toArray, List.set_cons_zero, List.set_cons_succ]
            refine wpAnyH_ready (rs := [1]) (by kernel_rfl) (by simp) ?_
            refine AllReadyH.cons rfl (fun K hK => ?_) AllReadyH.nil
            go_simp
            refine (made_err hrq).mono ?_
            rintro e w' ⟨rfl, rfl⟩
            go_wp2_with fail
            refine hK.out _ _ (hbq) (fun hHeld => ?_)
            clear hK K
            try simp only [Act.put, List.getElem_toArray, List.getElem_cons_succ, List.getElem_cons_zero, List.setIfInBounds_toArray, List.set_cons_zero, List.set_cons_succ]
            refine wpAnyH_ready (rs := [2]) (by kernel_rfl) (by simp) ?_
            refine AllReadyH.cons rfl (fun K hK => ?_) AllReadyH.nil
            go_simp
            refine (law_num_any _ _).mono ?_
            rintro e w' ⟨rfl, rfl⟩
            go_wp2_with fail
            refine hK.out _ _ (hbq) (fun hHeld => ?_)
            clear hK K
            try simp only [Act.put, List.getElem_toArray, List.getElem_cons_succ, List.getElem_cons_zero, List.setIfInBounds_toArray, List.set_cons_zero, List.set_cons_succ]
            refine wpAnyH_take (i := 3) (v := ?_) rfl (by kernel_rfl) (by kernel_rfl) (by kernel_rfl) (fun _ _ _ h => h) (Or.inl ⟨by rfl, ?_⟩) (by assumption) ?_
            rotate_left 1
            · (intro W hW; clear hW; go_simp; try with_reducible rfl)
            simp only [Act.put, List.getElem_toArray, List.getElem_cons_succ, List.getElem_cons_zero, List.setIfInBounds_toArray, List.set_cons_zero, List.set_cons_succ]
            refine wpAnyH_take (i := 4) (v := ?_) rfl (by kernel_rfl) (by kernel_rfl) (by kernel_rfl) (fun _ _ _ h => h) (Or.inl ⟨by rfl, ?_⟩) (by assumption) ?_
            rotate_left 1
            · (intro W hW; clear hW; go_simp; try with_reducible rfl)
            simp only [Act.put, List.getElem_toArray, List.getElem_cons_succ, List.getElem_cons_zero, List.setIfInBounds_toArray, List.set_cons_zero, List.set_cons_succ]
            refine wpAnyH_take (i := 5) (v := undef) rfl (by kernel_rfl) (by kernel_rfl) (by kernel_rfl) (fun _ _ _ h => h) (Or.inr ⟨by rfl, rfl⟩) (by assumption) ?_
            simp only [Act.put, List.getElem_toArray, List.getElem_cons_succ, List.getElem_cons_zero, List.setIfInBounds_toArray, List.set_cons_zero, List.set_cons_succ]
            refine wpAnyH_take (i := 6) (v := undef) rfl (by kernel_rfl) (by kernel_rfl) (by kernel_rfl) (fun _ _ _ h => h) (Or.inr ⟨by rfl, rfl⟩) (by assumption) ?_
            simp only [Act.put, List.getElem_toArray, List.getElem_cons_succ, List.getElem_cons_zero, List.setIfInBounds_toArray, List.set_cons_zero, List.set_cons_succ]
            refine wpAnyH_take (i := 7) (v := undef) rfl (by kernel_rfl) (by kernel_rfl) (by kernel_rfl) (fun _ _ _ h => h) (Or.inr ⟨by rfl, rfl⟩) (by assumption) ?_
            simp only [Act.put, List.getElem_toArray, List.getElem_cons_succ, List.getElem_cons_zero, List.setIfInBounds_toArray, List.set_cons_zero, List.set_cons_succ]
            refine wpAnyH_take (i := 8) (v := undef) rfl (by kernel_rfl) (by kernel_rfl) (by kernel_rfl) (fun _ _ _ h => h) (Or.inr ⟨by rfl, rfl⟩) (by assumption) ?_
            simp only [Act.put, List.getElem_toArray, List.getElem_cons_succ, List.getElem_cons_zero, List.setIfInBounds_toArray, List.set_cons_zero, List.set_cons_succ]
            refine wpAnyH_take (i := 9) (v := undef) rfl (by kernel_rfl) (by kernel_rfl) (by kernel_rfl) (fun _ _ _ h => h) (Or.inr ⟨by rfl, rfl⟩) (by assumption) ?_
            simp only [Act.put, List.getElem_toArray, List.getElem_cons_succ, List.getElem_cons_zero, List.setIfInBounds_toArray, List.set_cons_zero, List.set_cons_succ]
            refine wpAnyH_take (i := 10) (v := undef) rfl (by kernel_rfl) (by kernel_rfl) (by kernel_rfl) (fun _ _ _ h => h) (Or.inr ⟨by rfl, rfl⟩) (by assumption) ?_
            simp only [Act.put, List.getElem_toArray, List.getElem_cons_succ, List.getElem_cons_zero, List.setIfInBounds_toArray, List.set_cons_zero, List.set_cons_succ]
            refine wpAnyH_take (i := 11) (v := undef) rfl (by kernel_rfl) (by kernel_rfl) (by kernel_rfl) (fun _ _ _ h => h) (Or.inr ⟨by rfl, rfl⟩) (by assumption) ?_
            simp only [Act.put, List.getElem_toArray, List.getElem_cons_succ, List.getElem_cons_zero, List.setIfInBounds_toArray, List.set_cons_zero, List.set_cons_succ]
            refine wpAnyH_take (i := 12) (v := undef) rfl (by kernel_rfl) (by kernel_rfl) (by kernel_rfl) (fun _ _ _ h => h) (Or.inr ⟨by rfl, rfl⟩) (by assumption) ?_
            simp only [Act.put, List.getElem_toArray, List.getElem_cons_succ, List.getElem_cons_zero, List.setIfInBounds_toArray, List.set_cons_zero, List.set_cons_succ]
            refine wpAnyH_take (i := 13) (v := undef) rfl (by kernel_rfl) (by kernel_rfl) (by kernel_rfl) (fun _ _ _ h => h) (Or.inr ⟨by rfl, rfl⟩) (by assumption) ?_
            simp only [Act.put, List.getElem_toArray, List.getElem_cons_succ, List.getElem_cons_zero, List.setIfInBounds_toArray, List.set_cons_zero, List.set_cons_succ]
            refine wpAnyH_take (i := 14) (v := undef) rfl (by kernel_rfl) (by kernel_rfl) (by kernel_rfl) (fun _ _ _ h => h) (Or.inr ⟨by rfl, rfl⟩) (by assumption) ?_
            simp only [Act.put, List.getElem_toArray, List.getElem_cons_succ, List.getElem_cons_zero, List.setIfInBounds_toArray, List.set_cons_zero, List.set_cons_succ]
            refine wpAnyH_take (i := 15) (v := undef) rfl (by kernel_rfl) (by kernel_rfl) (by kernel_rfl) (fun _ _ _ h => h) (Or.inr ⟨by rfl, rfl⟩) (by assumption) ?_
            simp only [Act.put, List.getElem_toArray, List.getElem_cons_succ, List.getElem_cons_zero, List.setIfInBounds_toArray, List.set_cons_zero, List.set_cons_succ]
            refine wpAnyH_take (i := 16) (v := undef) rfl (by kernel_rfl) (by kernel_rfl) (by kernel_rfl) (fun _ _ _ h => h) (Or.inr ⟨by rfl, rfl⟩) (by assumption) ?_
            simp only [Act.put, List.getElem_toArray, List.getElem_cons_succ, List.getElem_cons_zero, List.setIfInBounds_toArray, List.set_cons_zero, List.set_cons_succ]
            refine wpAnyH_take (i := 17) (v := undef) rfl (by kernel_rfl) (by kernel_rfl) (by kernel_rfl) (fun _ _ _ h => h) (Or.inr ⟨by rfl, rfl⟩) (by assumption) ?_
            simp only [Act.put, List.getElem_toArray, List.getElem_cons_succ, List.getElem_cons_zero, List.setIfInBounds_toArray, List.set_cons_zero, List.set_cons_succ]
            refine wpAnyH_take (i := 18) (v := undef) rfl (by kernel_rfl) (by kernel_rfl) (by kernel_rfl) (fun _ _ _ h => h) (Or.inr ⟨by rfl, rfl⟩) (by assumption) ?_
            simp only [Act.put, List.getElem_toArray, List.getElem_cons_succ, List.getElem_cons_zero, List.setIfInBounds_toArray, List.set_cons_zero, List.set_cons_succ]
            refine wpAnyH_take (i := 19) (v := undef) rfl (by kernel_rfl) (by kernel_rfl) (by kernel_rfl) (fun _ _ _ h => h) (Or.inr ⟨by rfl, rfl⟩) (by assumption) ?_
            simp only [Act.put, List.getElem_toArray, List.getElem_cons_succ, List.getElem_cons_zero, List.setIfInBounds_toArray, List.set_cons_zero, List.set_cons_succ]
            refine wpAnyH_take (i := 20) (v := undef) rfl (by kernel_rfl) (by kernel_rfl) (by kernel_rfl) (fun _ _ _ h => h) (Or.inr ⟨by rfl, rfl⟩) (by assumption) ?_
            simp only [Act.put, List.getElem_toArray, List.getElem_cons_succ, List.getElem_cons_zero, List.setIfInBounds_toArray, List.set_cons_zero, List.set_cons_succ]
            refine wpAnyH_take (i := 21) (v := ?_) rfl (by kernel_rfl) (by kernel_rfl) (by kernel_rfl) (fun _ _ _ h => h) (Or.inl ⟨by rfl, ?_⟩) (by assumption) ?_
            rotate_left 1
            · (intro W hW; clear hW; go_simp; try with_reducible rfl)
            simp only [Act.put, List.getElem_toArray, List.getElem_cons_succ, List.getElem_cons_zero, List.setIfInBounds_toArray, List.set_cons_zero, List.set_cons_succ]
            refine wpAnyH_take (i := 22) (v := ?_) rfl (by kernel_rfl) (by kernel_rfl) (by kernel_rfl) (fun _ _ _ h => h) (Or.inl ⟨by rfl, ?_⟩) (by assumption) ?_
            rotate_left 1
            · (intro W hW; clear hW; go_simp; try with_reducible rfl)
            simp only [Act.put, List.getElem_toArray, List.getElem_cons_succ, List.getElem_cons_zero, List.setIfInBounds_toArray, List.set_cons_zero, List.set_cons_succ]
            refine wpAnyH_done (by kernel_rfl) ?_ _
            go_wp2
            go_ret
            exact ⟨rfl, hbq⟩
          · have e1 : r1 = N := by simpa using hr1
            subst e1
            have hNle : (r1 : Int) ≤ 9007199254740992 := by omega
            have hnx : nx + t = n2 := by have q := hx.len; rw [List.length_drop] at q; omega
            have htp : 0 < t := by
              have q := numB_pos r1
              rw [hBt, List.length_take] at q
              omega
            obtain ⟨b2, off2, rfl, hb2, hcell2⟩ := HR2.out.at_ (k := 0) (by omega)
            have hrt : Rd w w.heap.size (some ⟨b2, off2, none⟩) (l2.take t) := by
              have h := Rd.cut hcell2 hb2 0 t
              simpa using h
            rw [← hBt] at hrt
            have hlB : (numB r1).length = t := by rw [hBt, List.length_take]; omega
            have LF : Calls Try.prog 35 #[.pointer (some ⟨q, 0, none⟩)] w11 fun x w' => x = .returned (.int .i64 (nx : Int)) ∧ w11 = w' := made_left hx
            have LH := Lib.hid LF
            have HXH := Lib.hid hx
            clear LF hx hcell2 hr1 hle ht hBt
            go_wp2_with (go_at_call 35; (with_reducible refine LH.out.mono ?_); rintro e w' ⟨rfl, rfl⟩)
            refine (num_good r1 _ hNle).mono ?_
            rintro e w12 ⟨A12, n12, d12, rfl, h12, hb12⟩
            have hbr := hbw11.trans (hb12.mono hs11)
            have hR := HXH.out.below hb12
            obtain ⟨B, hB⟩ : ∃ B, B = numB r1 := ⟨_, rfl⟩
            rw [← hB] at h12 hrt hlB
            have tb : ∀ W : World, Below w12.heap.size w12 W → (convert 22 9 (.slice A12 n12 d12)).run Try.prog W = .ok (.string ⟨B.toArray⟩) W := fun W hW => text_of W n12 d12 (h12.rd.below hW (Nat.le_refl _)) h12.len
            have tc : ∀ W : World, Below w12.heap.size w12 W → (convert 22 9 (.slice (some ⟨b2, off2, none⟩) t c2)).run Try.prog W = .ok (.string ⟨B.toArray⟩) W := fun W hW => text_of W t c2 (hrt.below (hbr.trans (hW.mono hbr.size)) (Nat.le_refl _)) hlB
            have TB := Lib.hid tb
            have TC := Lib.hid tc
            have el : decide ((nx : Int) ≤ (n2 : Int)) = true := decide_eq_true (by omega)
            have el2 : nx ≤ n2 := by omega
            have el3 : decide (nx ≤ n2) = true := decide_eq_true el2
            have ew : wrap64 ((n2 : Int) - (nx : Int)) = (t : Int) := by rw [IntWalk.wrap64_in _ ⟨by omega, by omega⟩]; omega
            have ew2 : IntKind.i64.wrap ((n2 : Int) - (nx : Int)) = (t : Int) := by rw [IntWalk.i64_in _ (by omega)]; omega
            have ew3 : (n2 : Int) - (nx : Int) = (t : Int) := by omega
            have ew4 : IntKind.i64.wrap (t : Int) = (t : Int) := IntWalk.i64_in _ (by omega)
            have et2 : t ≤ c2 := by omega
            have et : (t : Int) ≤ (c2 : Int) := by omega
            clear HXH hb12 h12 tb tc hB hrt hlB hnx HR2
            go_wp2
            have hbq := hbr.drew
            have hrq := hR.drew
            have cv : ∀ W : World, Below w12.heap.size w12.drew W → Below w12.heap.size w12 W := fun W hW => ((Below.refl _ _).drew).trans hW
            have CV := Lib.hid cv
            clear cv
            obtain ⟨wq, hwq⟩ : ∃ wq, wq = w12.drew := ⟨_, rfl⟩
            have hb0 : Below w12.heap.size w12.drew w12.drew := Below.refl _ _
            refine wp_region_held_drew (S := fun W => Below w12.heap.size w12.drew W) (by kernel_rfl) hb0 (fun hHeld => ?_)
            rw [← hwq] at hbq hHeld hrq hb0 CV ⊢
            clear hwq
            refine wpAnyH_take (i := 0) (v := ?_) rfl (by kernel_rfl) (by kernel_rfl) (by kernel_rfl) (fun _ _ _ h => h) (Or.inl ⟨by rfl, ?_⟩) (by assumption) ?_
            rotate_left 1
            · (intro W hW; clear hW; go_simp; try with_reducible rfl)
            simp only [Act.put, List.getElem_toArray, List.getElem_cons_zero, List.setIfInBounds_toArray, List.set_cons_zero, List.set_cons_succ]
            refine wpAnyH_ready (rs := [1]) (by kernel_rfl) (by simp) ?_
            refine AllReadyH.cons rfl (fun K hK => ?_) AllReadyH.nil
            go_simp
            refine (made_err hrq).mono ?_
            rintro e w' ⟨rfl, rfl⟩
            go_wp2_with fail
            refine hK.out _ _ (hb0) (fun hHeld => ?_)
            clear hK K
            try simp only [Act.put, List.getElem_toArray, List.getElem_cons_succ, List.getElem_cons_zero, List.setIfInBounds_toArray, List.set_cons_zero, List.set_cons_succ]
            refine wpAnyH_ready (rs := [2]) (by kernel_rfl) (by simp) ?_
            refine AllReadyH.cons rfl (fun K hK => ?_) AllReadyH.nil
            go_simp
            refine (law_num_any _ _).mono ?_
            rintro e w' ⟨rfl, rfl⟩
            go_wp2_with fail
            refine hK.out _ _ (hb0) (fun hHeld => ?_)
            clear hK K
            try simp only [Act.put, List.getElem_toArray, List.getElem_cons_succ, List.getElem_cons_zero, List.setIfInBounds_toArray, List.set_cons_zero, List.set_cons_succ]
            refine wpAnyH_take (i := 3) (v := ?_) rfl (by kernel_rfl) (by kernel_rfl) (by kernel_rfl) (fun _ _ _ h => h) (Or.inl ⟨by rfl, ?_⟩) (by assumption) ?_
            rotate_left 1
            · (intro W hW; clear hW; go_simp; try with_reducible rfl)
            simp only [Act.put, List.getElem_toArray, List.getElem_cons_succ, List.getElem_cons_zero, List.setIfInBounds_toArray, List.set_cons_zero, List.set_cons_succ]
            refine wpAnyH_take (i := 4) (v := ?_) rfl (by kernel_rfl) (by kernel_rfl) (by kernel_rfl) (fun _ _ _ h => h) (Or.inl ⟨by rfl, ?_⟩) (by assumption) ?_
            rotate_left 1
            · (intro W hW; clear hW; go_simp; try with_reducible rfl)
            simp only [Act.put, List.getElem_toArray, List.getElem_cons_succ, List.getElem_cons_zero, List.setIfInBounds_toArray, List.set_cons_zero, List.set_cons_succ]
            refine wpAnyH_take (i := 5) (v := ?_) rfl (by kernel_rfl) (by kernel_rfl) (by kernel_rfl) (fun _ _ _ h => h) (Or.inl ⟨by rfl, ?_⟩) (by assumption) ?_
            rotate_left 1
            · (intro W hW; clear hW; go_simp; try with_reducible rfl)
            simp only [Act.put, List.getElem_toArray, List.getElem_cons_succ, List.getElem_cons_zero, List.setIfInBounds_toArray, List.set_cons_zero, List.set_cons_succ]
            refine wpAnyH_take (i := 6) (v := ?_) rfl (by kernel_rfl) (by kernel_rfl) (by kernel_rfl) (fun _ _ _ h => h) (Or.inl ⟨by rfl, ?_⟩) (by assumption) ?_
            rotate_left 1
            · (intro W hW; clear hW; go_simp; try with_reducible rfl)
            simp only [Act.put, List.getElem_toArray, List.getElem_cons_succ, List.getElem_cons_zero, List.setIfInBounds_toArray, List.set_cons_zero, List.set_cons_succ]
            refine wpAnyH_take (i := 7) (v := ?_) rfl (by kernel_rfl) (by kernel_rfl) (by kernel_rfl) (fun _ _ _ h => h) (Or.inl ⟨by rfl, ?_⟩) (by assumption) ?_
            rotate_left 1
            · (intro W hW; clear hW; go_simp; try with_reducible rfl)
            simp only [Act.put, List.getElem_toArray, List.getElem_cons_succ, List.getElem_cons_zero, List.setIfInBounds_toArray, List.set_cons_zero, List.set_cons_succ]
            refine wpAnyH_take (i := 8) (v := ?_) rfl (by kernel_rfl) (by kernel_rfl) (by kernel_rfl) (fun _ _ _ h => h) (Or.inl ⟨by rfl, ?_⟩) (by assumption) ?_
            rotate_left 1
            · (intro W hW; clear hW; go_simp; try with_reducible rfl)
            simp only [Act.put, List.getElem_toArray, List.getElem_cons_succ, List.getElem_cons_zero, List.setIfInBounds_toArray, List.set_cons_zero, List.set_cons_succ]
            refine wpAnyH_take (i := 9) (v := ?_) rfl (by kernel_rfl) (by kernel_rfl) (by kernel_rfl) (fun _ _ _ h => h) (Or.inl ⟨by rfl, ?_⟩) (by assumption) ?_
            rotate_left 1
            · (intro W hW; clear hW; go_simp; try with_reducible rfl)
            simp only [Act.put, List.getElem_toArray, List.getElem_cons_succ, List.getElem_cons_zero, List.setIfInBounds_toArray, List.set_cons_zero, List.set_cons_succ]
            refine wpAnyH_take (i := 10) (v := ?_) rfl (by kernel_rfl) (by kernel_rfl) (by kernel_rfl) (fun _ _ _ h => h) (Or.inl ⟨by rfl, ?_⟩) (by assumption) ?_
            rotate_left 1
            · (intro W hW; clear hW; go_simp; try with_reducible rfl)
            simp only [Act.put, List.getElem_toArray, List.getElem_cons_succ, List.getElem_cons_zero, List.setIfInBounds_toArray, List.set_cons_zero, List.set_cons_succ]
            refine wpAnyH_take (i := 11) (v := ?_) rfl (by kernel_rfl) (by kernel_rfl) (by kernel_rfl) (fun _ _ _ h => h) (Or.inl ⟨by rfl, ?_⟩) (by assumption) ?_
            rotate_left 1
            · (intro W hW; have t := TB.out W (CV.out W hW); go_simp; try with_reducible rfl)
            simp only [Act.put, List.getElem_toArray, List.getElem_cons_succ, List.getElem_cons_zero, List.setIfInBounds_toArray, List.set_cons_zero, List.set_cons_succ]
            refine wpAnyH_take (i := 12) (v := ?_) rfl (by kernel_rfl) (by kernel_rfl) (by kernel_rfl) (fun _ _ _ h => h) (Or.inl ⟨by rfl, ?_⟩) (by assumption) ?_
            rotate_left 1
            · (intro W hW; clear hW; go_simp; try with_reducible rfl)
            simp only [Act.put, List.getElem_toArray, List.getElem_cons_succ, List.getElem_cons_zero, List.setIfInBounds_toArray, List.set_cons_zero, List.set_cons_succ]
            refine wpAnyH_take (i := 13) (v := ?_) rfl (by kernel_rfl) (by kernel_rfl) (by kernel_rfl) (fun _ _ _ h => h) (Or.inl ⟨by rfl, ?_⟩) (by assumption) ?_
            rotate_left 1
            · (intro W hW; clear hW; go_simp; try with_reducible rfl)
            simp only [Act.put, List.getElem_toArray, List.getElem_cons_succ, List.getElem_cons_zero, List.setIfInBounds_toArray, List.set_cons_zero, List.set_cons_succ]
            refine wpAnyH_take (i := 14) (v := ?_) rfl (by kernel_rfl) (by kernel_rfl) (by kernel_rfl) (fun _ _ _ h => h) (Or.inl ⟨by rfl, ?_⟩) (by assumption) ?_
            rotate_left 1
            · (intro W hW; clear hW; go_simp; try with_reducible rfl)
            simp only [Act.put, List.getElem_toArray, List.getElem_cons_succ, List.getElem_cons_zero, List.setIfInBounds_toArray, List.set_cons_zero, List.set_cons_succ]
            refine wpAnyH_take (i := 15) (v := ?_) rfl (by kernel_rfl) (by kernel_rfl) (by kernel_rfl) (fun _ _ _ h => h) (Or.inl ⟨by rfl, ?_⟩) (by assumption) ?_
            rotate_left 1
            · (intro W hW; clear hW; go_simp; try with_reducible rfl)
            simp only [Act.put, List.getElem_toArray, List.getElem_cons_succ, List.getElem_cons_zero, List.setIfInBounds_toArray, List.set_cons_zero, List.set_cons_succ]
            refine wpAnyH_take (i := 16) (v := ?_) rfl (by kernel_rfl) (by kernel_rfl) (by kernel_rfl) (fun _ _ _ h => h) (Or.inl ⟨by rfl, ?_⟩) (by assumption) ?_
            rotate_left 1
            · (intro W hW; clear hW; go_simp; try with_reducible rfl)
            simp only [Act.put, List.getElem_toArray, List.getElem_cons_succ, List.getElem_cons_zero, List.setIfInBounds_toArray, List.set_cons_zero, List.set_cons_succ]
            refine wpAnyH_take (i := 17) (v := ?_) rfl (by kernel_rfl) (by kernel_rfl) (by kernel_rfl) (fun _ _ _ h => h) (Or.inl ⟨by rfl, ?_⟩) (by assumption) ?_
            rotate_left 1
            · (intro W hW; clear hW; go_simp; try with_reducible rfl)
            simp only [Act.put, List.getElem_toArray, List.getElem_cons_succ, List.getElem_cons_zero, List.setIfInBounds_toArray, List.set_cons_zero, List.set_cons_succ]
            refine wpAnyH_take (i := 18) (v := ?_) rfl (by kernel_rfl) (by kernel_rfl) (by kernel_rfl) (fun _ _ _ h => h) (Or.inl ⟨by rfl, ?_⟩) (by assumption) ?_
            rotate_left 1
            · (intro W hW; have t := TC.out W (CV.out W hW); go_simp; try with_reducible rfl)
            simp only [Act.put, List.getElem_toArray, List.getElem_cons_succ, List.getElem_cons_zero, List.setIfInBounds_toArray, List.set_cons_zero, List.set_cons_succ]
            refine wpAnyH_take (i := 19) (v := ?_) rfl (by kernel_rfl) (by kernel_rfl) (by kernel_rfl) (fun _ _ _ h => h) (Or.inl ⟨by rfl, ?_⟩) (by assumption) ?_
            rotate_left 1
            · (intro W hW; clear hW; go_simp; try with_reducible rfl)
            simp only [Act.put, List.getElem_toArray, List.getElem_cons_succ, List.getElem_cons_zero, List.setIfInBounds_toArray, List.set_cons_zero, List.set_cons_succ]
            refine wpAnyH_take (i := 20) (v := ?_) rfl (by kernel_rfl) (by kernel_rfl) (by kernel_rfl) (fun _ _ _ h => h) (Or.inl ⟨by rfl, ?_⟩) (by assumption) ?_
            rotate_left 1
            · (intro W hW; clear hW; go_simp; try with_reducible rfl)
            simp only [Act.put, List.getElem_toArray, List.getElem_cons_succ, List.getElem_cons_zero, List.setIfInBounds_toArray, List.set_cons_zero, List.set_cons_succ]
            refine wpAnyH_take (i := 21) (v := ?_) rfl (by kernel_rfl) (by kernel_rfl) (by kernel_rfl) (fun _ _ _ h => h) (Or.inl ⟨by rfl, ?_⟩) (by assumption) ?_
            rotate_left 1
            · (intro W hW; clear hW; go_simp; try with_reducible rfl)
            simp only [Act.put, List.getElem_toArray, List.getElem_cons_succ, List.getElem_cons_zero, List.setIfInBounds_toArray, List.set_cons_zero, List.set_cons_succ]
            refine wpAnyH_take (i := 22) (v := ?_) rfl (by kernel_rfl) (by kernel_rfl) (by kernel_rfl) (fun _ _ _ h => h) (Or.inl ⟨by rfl, ?_⟩) (by assumption) ?_
            rotate_left 1
            · (intro W hW; clear hW; go_simp; try with_reducible rfl)
            simp only [Act.put, List.getElem_toArray, List.getElem_cons_succ, List.getElem_cons_zero, List.setIfInBounds_toArray, List.set_cons_zero, List.set_cons_succ]
            refine wpAnyH_done (by kernel_rfl) ?_ _
            go_wp2
            go_ret
            exact ⟨rfl, hbq⟩
end Go.Proofs.Ytgbgbkfbiebjgaa
