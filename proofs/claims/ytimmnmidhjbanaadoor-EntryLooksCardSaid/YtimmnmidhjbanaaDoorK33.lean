/- Without, of both. -/
import Derived.Test.YtimmnmidhjbanaaDoorK23
import Derived.WalkMore
namespace Go.Proofs.YtimmnmidhjbanaaDoor
open Go.RowKit
set_option linter.unusedVariables false
set_option linter.unusedSimpArgs false
set_option maxRecDepth 100000 in
set_option maxHeartbeats 1600000 in
theorem without_any {B : Nat} {v : Value} {l : List Int} {n : Int} {w : World} (h : LZ B w v l) (hB : B ≤ w.heap.size) (hl : l.length ≤ 1000) :
    Calls Tryd.prog 15 #[v, .int .i64 n] w fun e w' => ∃ v', e = .returned v' ∧ RZ w' w.heap.size v' (lessL l n) ∧ Below w.heap.size w w' := by
  obtain ⟨a, cap, rfl, -⟩ := h.form
  obtain ⟨N, hN⟩ : ∃ N, l.length = N := ⟨_, rfl⟩
  rw [hN] at h hl ⊢
  have HA := Lib.hid (fun W (hW : Since w W) => h.since hW hB)
  have HN := Lib.hid hN
  have hsr := Since.refl w
  clear h hN hB
  go_enter Tryd.func15, Tryd.ntmps15
  go_wp2
  go_step3
  go_wp2
  go_step3
  go_wp2
  go_loopw [5, 10] (fun s i wr => ∃ k : Nat, i = .int .i64 (k : Int) ∧ k ≤ N ∧ RZ wr w.heap.size s (lessL (l.take k) n) ∧ Since w wr) (fun _ i _ => N - (intOf i).toNat)
  case atStart => exact ⟨0, rfl, Nat.zero_le _, RZ.nil _ _, hsr⟩
  case round =>
    obtain ⟨k, rfl, hk, hown, hsw⟩ := hrel
    clear hsr
    by_cases hlt : k < N
    · have hlk : k < l.length := by have := HN.out; omega
      obtain ⟨z, hz⟩ : ∃ z, l[k]? = some z := ⟨_, List.getElem?_eq_getElem hlk⟩
      obtain ⟨b1, off, rfl, _⟩ := LZ.addr (HA.out w (Since.refl w)) (by omega)
      have hcc := LZ.cellsAt (HA.out wr hsw) hz
      have hX := lessL_next hz n
      have hlen := lessL_le (l.take k) n
      rw [List.length_take] at hlen
      have hln2 : (lessL (l.take k) n).length ≤ 1000 := by omega
      have hbs := hsw.size_
      clear hlk hz hlen
      generalize lessL (l.take k) n = T at hown hX hln2
      by_cases hzn : z = n
      · have g1 : (z == n) = true := by simpa using hzn
        rw [if_pos hzn] at hX
        have HX := Lib.hid hX
        clear hX hzn
        go_wp2
        go_roundw
        case rel => exact ⟨k + 1, by go_num, by omega, by rw [HX.out]; exact hown, hsw⟩
        case measure => simp [intOf]; omega
      · have g1 : (z == n) = false := by rw [beq_eq_false_iff_ne]; exact hzn
        rw [if_neg hzn] at hX
        have HX := Lib.hid hX
        clear hX hzn
        go_wp2_with (at_builtin; refine wpList_append_e rfl _ _ 26 rfl w.heap.size 3 _ 8 Tryd.underlying26 infoZ rfl (by decide) hown z rfl (encZ_len z) (encZ_one z) rfl rfl (by omega) (by decide) hsw (Nat.le_refl _) hbs ?_; intro v' w7 hrow7 hs7 hb7)
        go_roundw
        case rel => exact ⟨k + 1, by go_num, by omega, by rw [HX.out]; exact hrow7, hs7⟩
        case measure => simp [intOf]; omega
    · obtain rfl : k = N := by omega
      rw [List.take_of_length_le (Nat.le_of_eq HN.out)] at hown
      have HH := Lib.hid (And.intro hown hsw)
      clear hown hsw
      go_wp2
      try rw [Exit.noGoto_ret]
      go_ret
      exact ⟨_, rfl, HH.out.1, HH.out.2⟩
set_option maxRecDepth 100000 in
set_option maxHeartbeats 1600000 in
theorem refWithout_any {B : Nat} {v : Value} {l : List Int} {n : Int} {w : World} (h : LZ B w v l) (hB : B ≤ w.heap.size) (hl : l.length ≤ 1000) :
    Calls Tryd.prog 16 #[v, .int .i64 n] w fun e w' => ∃ v', e = .returned v' ∧ RZ w' w.heap.size v' (lessL l n) ∧ Below w.heap.size w w' := by
  obtain ⟨a, cap, rfl, -⟩ := h.form
  obtain ⟨N, hN⟩ : ∃ N, l.length = N := ⟨_, rfl⟩
  rw [hN] at h hl ⊢
  have HA := Lib.hid (fun W (hW : Since w W) => h.since hW hB)
  have HN := Lib.hid hN
  have hsr := Since.refl w
  clear h hN hB
  go_enter Tryd.func16, Tryd.ntmps16
  go_wp2
  go_loopw [5, 6] (fun s i wr => ∃ k : Nat, i = .int .i64 (k : Int) ∧ k ≤ N ∧ RZ wr w.heap.size s (lessL (l.take k) n) ∧ Since w wr) (fun _ i _ => N - (intOf i).toNat)
  case atStart => exact ⟨0, rfl, Nat.zero_le _, RZ.nil _ _, hsr⟩
  case round =>
    obtain ⟨k, rfl, hk, hown, hsw⟩ := hrel
    clear hsr
    by_cases hlt : k < N
    · have hlk : k < l.length := by have := HN.out; omega
      obtain ⟨z, hz⟩ : ∃ z, l[k]? = some z := ⟨_, List.getElem?_eq_getElem hlk⟩
      obtain ⟨b1, off, rfl, _⟩ := LZ.addr (HA.out w (Since.refl w)) (by omega)
      have hcc := LZ.cellsAt (HA.out wr hsw) hz
      have hX := lessL_next hz n
      have hlen := lessL_le (l.take k) n
      rw [List.length_take] at hlen
      have hln2 : (lessL (l.take k) n).length ≤ 1000 := by omega
      have hbs := hsw.size_
      clear hlk hz hlen
      generalize lessL (l.take k) n = T at hown hX hln2
      by_cases hzn : z = n
      · have g1 : (z != n) = false := by simpa using hzn
        rw [if_pos hzn] at hX
        have HX := Lib.hid hX
        clear hX hzn
        go_wp2
        go_roundw
        case rel => exact ⟨k + 1, by go_num, by omega, by rw [HX.out]; exact hown, hsw⟩
        case measure => simp [intOf]; omega
      · have g1 : (z != n) = true := by rw [bne_iff_ne]; exact hzn
        rw [if_neg hzn] at hX
        have HX := Lib.hid hX
        clear hX hzn
        go_wp2_with (at_builtin; refine wpList_append_e rfl _ _ 26 rfl w.heap.size 3 _ 8 Tryd.underlying26 infoZ rfl (by decide) hown z rfl (encZ_len z) (encZ_one z) rfl rfl (by omega) (by decide) hsw (Nat.le_refl _) hbs ?_; intro v' w7 hrow7 hs7 hb7)
        go_roundw
        case rel => exact ⟨k + 1, by go_num, by omega, by rw [HX.out]; exact hrow7, hs7⟩
        case measure => simp [intOf]; omega
    · obtain rfl : k = N := by omega
      rw [List.take_of_length_le (Nat.le_of_eq HN.out)] at hown
      have HH := Lib.hid (And.intro hown hsw)
      clear hown hsw
      go_wp2
      go_ret
      exact ⟨_, rfl, HH.out.1, HH.out.2⟩
end Go.Proofs.YtimmnmidhjbanaaDoor
