/- RightChain, the program's and the document's. Without, of both. -/
import Derived.Test.YtimmnmidhjbanaaDoorK09
import Derived.WalkMore
namespace Go.Proofs.YtimmnmidhjbanaaDoor
open Go.RowKit
set_option linter.unusedVariables false
set_option linter.unusedSimpArgs false
/-- Which nodes were there. -/
def ThereA (cs : Array Value) (l : List Int) : Prop := cs.size = 8 ∧ ∀ j : Nat, j < 8 → cs[j]? = some (.bool (decide ((j : Int) ∈ l)))
theorem there_nil : ThereA #[.bool false, .bool false, .bool false, .bool false, .bool false, .bool false, .bool false, .bool false] [] := ⟨rfl, fun j hj => by
  match j, hj with
  | 0, _ | 1, _ | 2, _ | 3, _ | 4, _ | 5, _ | 6, _ | 7, _ => rfl⟩
theorem there_next {cs : Array Value} {l : List Int} (h : ThereA cs l) {m : Nat} (hm : m < 8) : ThereA (cs.setIfInBounds m (.bool true)) (l ++ [(m : Int)]) := by
  refine ⟨by rw [Array.size_setIfInBounds]; exact h.1, fun j hj => ?_⟩
  rw [Array.getElem?_setIfInBounds]
  by_cases hmj : m = j
  · subst hmj
    rw [if_pos rfl, if_pos (by rw [h.1]; exact hm)]
    simp
  · rw [if_neg hmj, h.2 j hj]
    congr 2
    simp
    intro e
    exact absurd (by omega) hmj
set_option maxRecDepth 100000 in
theorem rightChain_any {B : Nat} {v : Value} {l : List Int} {w : World} (h : LZ B w v l) (hB : B ≤ w.heap.size) (hl : l.length ≤ 1000000) {r : Bool} (hr : chainB l = r) :
    Calls Tryd.prog 24 #[v] w fun e w' => e = .returned (.bool r) ∧ Below w.heap.size w w' := by
  obtain ⟨a, cap, rfl, -⟩ := h.form
  obtain ⟨N, hN⟩ : ∃ N, l.length = N := ⟨_, rfl⟩
  rw [hN] at h hl ⊢
  have HA := Lib.hid (fun W (hW : Since w W) => h.since hW hB)
  have HN := Lib.hid hN
  have HR := Lib.hid hr
  clear h hN hr hB
  obtain ⟨J, hJ⟩ : ∃ J, J = w.heap.size := ⟨_, rfl⟩
  obtain ⟨w0, hw0⟩ : ∃ w0, w0 = w.alloc (.cells #[.bool false, .bool false, .bool false, .bool false, .bool false, .bool false, .bool false, .bool false] 83) := ⟨_, rfl⟩
  have hwh : Whole w0 J 83 #[.bool false, .bool false, .bool false, .bool false, .bool false, .bool false, .bool false, .bool false] := by rw [hw0, hJ]; exact Whole.new w _ _
  have hs0 : Since w w0 := by rw [hw0]; exact (Since.refl w).alloc _
  have hJle : w.heap.size ≤ J := by omega
  have HW := Lib.hid (And.intro hw0 (And.intro hJ hJle))
  clear hw0 hJ hJle
  go_enter Tryd.func24, Tryd.ntmps24
  go_wp2_with fail
  rw [← HW.out.1, ← HW.out.2.1]
  go_wp2
  go_loopw [8] (fun i wr => ∃ (k : Nat) (cs : Array Value), k ≤ N ∧ i = .int .i64 (k : Int) ∧ Whole wr J 83 cs ∧ ThereA cs (l.take k) ∧ ChainP (l.take k) ∧ Since w wr) (fun i _ => N - (intOf i).toNat)
  case atStart => exact ⟨0, _, by omega, rfl, hwh, there_nil, chain_nil, hs0⟩
  case round =>
    obtain ⟨k, cs, hk, rfl, hwr, hth, hch, hsw⟩ := hrel
    clear hs0 hwh
    by_cases hlt : k < N
    · have hlk : k < l.length := by have := HN.out; omega
      obtain ⟨z, hz⟩ : ∃ z, l[k] = z := ⟨_, rfl⟩
      have hz' : l[k]? = some z := by rw [List.getElem?_eq_getElem hlk, hz]
      obtain ⟨b1, off, rfl, _⟩ := LZ.addr (HA.out w (Since.refl w)) (by omega)
      have hcc := LZ.cellsAt (HA.out wr hsw) hz'
      have hnx := chain_next hz'
      have htk : l.take (k + 1) = l.take k ++ [z] := by rw [List.take_add_one, hz']; rfl
      have HX := Lib.hid (And.intro hz' (And.intro hnx (And.intro htk (And.intro hth (And.intro hch hsw)))))
      clear hz hz' hlk hnx htk
      cases hnb : nodeB z with
      | false =>
        obtain rfl : r = false := by
          rw [← HR.out, chainB_false]
          intro hc
          have := (HX.out.2.1.1 (chain_take hc _)).2.1
          rw [← nodeB_iff, hnb] at this
          cases this
        have HNB := Lib.hid hnb
        clear hnb hth hch hwr
        go_wp2_with (go_at_call 51; (with_reducible refine (isNode_at HNB.out _).mono ?_); rintro e w2 ⟨rfl, rfl⟩)
        go_ret
        exact ⟨rfl, hsw⟩
      | true =>
        obtain ⟨hz0, hz8⟩ := (nodeB_iff z).1 hnb
        obtain ⟨m, rfl⟩ : ∃ m : Nat, z = m := ⟨z.toNat, by omega⟩
        have hm8 : m < 8 := by omega
        have hm8' : (m : Int) < 8 := hz8
        have hcm := (hwr.cell m).trans (hth.2 m hm8)
        have hfm := hwr.frozen m
        have HNB := Lib.hid hnb
        clear hnb hth hch hz8
        cases hin : decide ((m : Int) ∈ l.take k) with
        | true =>
          obtain rfl : r = false := by
            rw [← HR.out, chainB_false]
            intro hc
            exact (HX.out.2.1.1 (chain_take hc _)).2.2 (of_decide_eq_true hin)
          rw [hin] at hcm
          clear hin hwr
          go_wp2_with (go_at_call 51; (with_reducible refine (isNode_at HNB.out _).mono ?_); rintro e w2 ⟨rfl, rfl⟩)
          go_ret
          exact ⟨rfl, hsw⟩
        | false =>
          rw [hin] at hcm
          have HIN := Lib.hid hin
          have hset := hwr.set_ m (.bool true)
          have HS := Lib.hid (And.intro hset hsw)
          clear hin hwr hset
          go_wp2_with (go_at_call 51; (with_reducible refine (isNode_at HNB.out _).mono ?_); rintro e w2 ⟨rfl, rfl⟩)
          go_roundw
          case rel =>
            obtain ⟨x1, x2, x3, x4, x5, x6⟩ := HX.out
            refine ⟨k + 1, _, by omega, by go_num, HS.out.1, ?_, x2.2 ⟨x5, (nodeB_iff _).1 HNB.out, of_decide_eq_false HIN.out⟩, ?_⟩
            · rw [x3]
              exact there_next x4 (by omega)
            · exact Since.setCell (p := ⟨J, m, none⟩) HS.out.2 HW.out.2.2 _
          case measure => simp [intOf]; omega
    · have HX := Lib.hid hch
      clear hch hth hwr
      obtain rfl : k = N := by omega
      obtain rfl : r = true := by
        have h2 := HX.out
        rw [List.take_of_length_le (Nat.le_of_eq HN.out)] at h2
        rw [← HR.out, chainB_iff]
        exact h2
      go_wp2
      go_ret
      exact ⟨rfl, hsw⟩
end Go.Proofs.YtimmnmidhjbanaaDoor
namespace Go.Proofs.YtimmnmidhjbanaaDoor
open Go.RowKit
set_option linter.unusedVariables false
set_option linter.unusedSimpArgs false
set_option maxRecDepth 100000 in
set_option maxHeartbeats 1600000 in
theorem without_any {B : Nat} {v : Value} {l : List Int} {n : Int} {w : World} (h : LZ B w v l) (hB : B ≤ w.heap.size) (hl : l.length ≤ 1000) :
    Calls Tryd.prog 15 #[v, .int .i64 n] w fun e w' => ∃ v', e = .returned v' ∧ RZ w' w.heap.size v' (lessL l n) ∧ Below w.heap.size w w' := by
  obtain ⟨a, cap, rfl, -⟩ := h.form
  obtain ⟨N, hN⟩ : ∃ N, l.length = N := ⟨_, rfl⟩
  rw [hN] at h hl ⊢
  have HA := Lib.hid (fun W (hW : Since w W) => h.since hW hB)
  have HN := Lib.hid hN
  have hsr := Since.refl w
  clear h hN hB
  go_enter Tryd.func15, Tryd.ntmps15
  go_wp2
  go_step3
  go_wp2
  go_step3
  go_wp2
  go_loopw [5, 10] (fun s i wr => ∃ k : Nat, i = .int .i64 (k : Int) ∧ k ≤ N ∧ RZ wr w.heap.size s (lessL (l.take k) n) ∧ Since w wr) (fun _ i _ => N - (intOf i).toNat)
  case atStart => exact ⟨0, rfl, Nat.zero_le _, RZ.nil _ _, hsr⟩
  case round =>
    obtain ⟨k, rfl, hk, hown, hsw⟩ := hrel
    clear hsr
    by_cases hlt : k < N
    · have hlk : k < l.length := by have := HN.out; omega
      obtain ⟨z, hz⟩ : ∃ z, l[k]? = some z := ⟨_, List.getElem?_eq_getElem hlk⟩
      obtain ⟨b1, off, rfl, _⟩ := LZ.addr (HA.out w (Since.refl w)) (by omega)
      have hcc := LZ.cellsAt (HA.out wr hsw) hz
      have hX := lessL_next hz n
      have hlen := lessL_le (l.take k) n
      rw [List.length_take] at hlen
      have hln2 : (lessL (l.take k) n).length ≤ 1000 := by omega
      have hbs := hsw.size_
      clear hlk hz hlen
      generalize lessL (l.take k) n = T at hown hX hln2
      by_cases hzn : z = n
      · have g1 : (z == n) = true := by simpa using hzn
        rw [if_pos hzn] at hX
        have HX := Lib.hid hX
        clear hX hzn
        go_wp2
        go_roundw
        case rel => exact ⟨k + 1, by go_num, by omega, by rw [HX.out]; exact hown, hsw⟩
        case measure => simp [intOf]; omega
      · have g1 : (z == n) = false := by rw [beq_eq_false_iff_ne]; exact hzn
        rw [if_neg hzn] at hX
        have HX := Lib.hid hX
        clear hX hzn
        go_wp2_with (at_builtin; refine wpList_append_e rfl _ _ 26 rfl w.heap.size 3 _ 8 Tryd.underlying26 infoZ rfl (by decide) hown z rfl (encZ_len z) (encZ_one z) rfl rfl (by omega) (by decide) hsw (Nat.le_refl _) hbs ?_; intro v' w7 hrow7 hs7 hb7)
        go_roundw
        case rel => exact ⟨k + 1, by go_num, by omega, by rw [HX.out]; exact hrow7, hs7⟩
        case measure => simp [intOf]; omega
    · obtain rfl : k = N := by omega
      rw [List.take_of_length_le (Nat.le_of_eq HN.out)] at hown
      have HH := Lib.hid (And.intro hown hsw)
      clear hown hsw
      go_wp2
      try rw [Exit.noGoto_ret]
      go_ret
      exact ⟨_, rfl, HH.out.1, HH.out.2⟩
end Go.Proofs.YtimmnmidhjbanaaDoor
