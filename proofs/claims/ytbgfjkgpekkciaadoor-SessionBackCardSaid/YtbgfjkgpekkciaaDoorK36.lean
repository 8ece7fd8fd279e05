/- gleberef09: a table's bytes. -/
import Derived.Test.YtbgfjkgpekkciaaDoorK19
import Derived.Test.YtbgfjkgpekkciaaDoorK28
import Derived.Test.YtbgfjkgpekkciaaDoorK31
namespace Go.Proofs.YtbgfjkgpekkciaaDoor
open Go.RowKit
set_option linter.unusedVariables false
set_option linter.unusedSimpArgs false
set_option maxHeartbeats 1600000 in
set_option maxRecDepth 100000 in
theorem refPutTab_any {w : World} {q : Nat} {L : STab} (h : DTab w q L) (hok : ∀ r ∈ L, r.ok) : Calls Tryd.prog 16 #[.pointer (some ⟨q, 0, none⟩)] w (SlicePost w.heap.size (tabL L) w) := by
  have HO := Lib.hid hok
  have h8 := h.1
  have hsr := Since.refl w
  clear hok
  go_enter Tryd.func16, Tryd.ntmps16
  go_wp2
  go_loopw [3, 4] (fun s i wr => ∃ k : Nat, i = .int .i64 (k : Int) ∧ k ≤ 8 ∧ Own wr w.heap.size s (tabL (L.take k)) ∧ Below w.heap.size w wr) (fun _ i _ => 8 - (intOf i).toNat)
  case atStart => exact ⟨0, rfl, Nat.zero_le _, Own.nil _ _, Below.refl _ _⟩
  case round =>
    obtain ⟨k, rfl, hk, hown, hbl⟩ := hrel
    by_cases hlt : k < 8
    · obtain ⟨a, ha⟩ : ∃ a, L[k]? = some a := ⟨_, List.getElem?_eq_getElem (by rw [h8]; exact hlt)⟩
      have HA := Lib.hid (HO.out a (List.mem_of_getElem? ha))
      have hX := tabL_next ha
      have hlen := tabL_len (L := L.take k) fun r hr => HO.out r (List.mem_of_mem_take hr)
      have hlt' : (L.take k).length ≤ 8 := by rw [List.length_take]; omega
      have hlx : (tabL (L.take k)).length ≤ 24000 := by omega
      have hbs := hbl.size
      have hklt : (k : Int) < 8 := by omega
      have es := h.seq ha
      have e0 := h.c0 ha
      have e1 := h.c1 ha
      have e2 := h.c2 ha
      have e3 := h.c3 ha
      have hrr : Since w wr := hbl
      obtain ⟨er, fd, val, ver, seq⟩ := a
      dsimp only at es e0 e1 e2 e3
      have hz : seq = 0 ∨ 0 < seq ∧ seq ≠ 0 ∧ ansB er fd val ver = true := by
        rcases HA.out with h | h
        · injection h with _ _ _ _ h5
          exact .inl h5
        · exact .inr ⟨by have := h.1; dsimp only at this; omega, by have := h.1; dsimp only at this; omega, h.2⟩
      unfold rowL at hX
      dsimp only at hX
      have hn9 := numL_le9 seq
      clear h h8 HO ha hlen hlt' hsr
      generalize tabL (L.take k) = T at hown hX hlx
      generalize hTn : tabL (L.take (k + 1)) = T' at hX
      rcases hz with rfl | ⟨hp, hz, hok⟩
      · rw [if_pos rfl, List.append_nil] at hX
        have HX := Lib.hid hX
        have HT := Lib.hid hTn
        clear hX hTn
        go_wp2_with (first
          | (go_at_call 33; (with_reducible refine (refNum_any _ _).mono ?_); rintro e w3 ⟨v3, rfl, hh, hb⟩; have hs3 : Since wr w3 := hb; obtain ⟨A, n, c, rfl, hx⟩ := hh.has; have hb3 : Since w w3 := hbl.trans (hs3.mono hbs); have hbs3 := hb3.size_)
          | (at_builtin; refine wpList_app _ rfl (.tmp 9) (.tmp 16) _ rfl w.heap.size _ T rfl (hown.below hs3) _ (numL 0) rfl (src_at n c hx.rd hx.len) (by omega) hbs3 ?_; intro v4 w4 hown4 hb4; have hs4 : Since w w4 := Below.trans hb3 hb4))
        go_roundw
        case rel => exact ⟨k + 1, by go_num, by omega, by rw [HT.out, HX.out]; exact hown4, hs4⟩
        case measure => simp [intOf]; omega
      · rw [if_neg hz] at hX
        have HX := Lib.hid hX
        have HT := Lib.hid hTn
        have HK := Lib.hid hok
        have hal := sansL_len hok
        clear hX hTn hok hz
        go_wp2_with (first
          | (go_at_call 33; (with_reducible refine (refNum_any _ _).mono ?_); rintro e w3 ⟨v3, rfl, hh, hb⟩; have hs3 : Since wr w3 := hb; obtain ⟨A, n, c, rfl, hx⟩ := hh.has; have hb3 : Since w w3 := hbl.trans (hs3.mono hbs); have hbs3 := hb3.size_)
          | (at_builtin; refine wpList_app _ rfl (.tmp 9) (.tmp 16) _ rfl w.heap.size _ T rfl (hown.below hs3) _ (numL seq) rfl (src_at n c hx.rd hx.len) (by omega) hbs3 ?_; intro v4 w4 hown4 hb4; have hs4 : Since w w4 := Below.trans hb3 hb4; have hbs4 := hs4.size_)
          | (go_at_call 34; (with_reducible refine (refPutAns_yes _ _ _ _ _ HK.out).mono ?_); rintro e w5 ⟨A5, n5, c5, rfl, hx5, hb⟩; have hs5 : Since w4 w5 := hb; have hb5 : Since w w5 := Below.trans hs4 (hs5.mono hbs4); have hbs5 := hb5.size_)
          | (at_builtin; refine wpList_app _ rfl (.tmp 25) (.tmp 32) _ rfl w.heap.size _ (T ++ numL seq) rfl (hown4.below hs5) _ (ansL er fd val ver) rfl (src_at n5 c5 hx5.rd hx5.len) (by rw [List.length_append]; omega) hbs5 ?_; intro v6 w6 hown6 hb6; have hs6 : Since w w6 := Below.trans hb5 hb6))
        go_roundw
        case rel => exact ⟨k + 1, by go_num, by omega, by rw [HT.out, HX.out, ← List.append_assoc]; exact hown6, hs6⟩
        case measure => simp [intOf]; omega
    · obtain rfl : k = 8 := by omega
      rw [List.take_of_length_le (by omega)] at hown
      obtain ⟨A, n, c, rfl, hh⟩ := hown.has
      clear HO
      go_wp2
      go_ret
      exact ⟨A, n, c, rfl, hh, hbl⟩
end Go.Proofs.YtbgfjkgpekkciaaDoor
