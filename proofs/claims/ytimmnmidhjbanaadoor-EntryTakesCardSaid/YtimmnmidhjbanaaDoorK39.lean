/- gleberef11.TakeChain. -/
import Derived.Test.YtimmnmidhjbanaaDoorK38
namespace Go.Proofs.YtimmnmidhjbanaaDoor
open Go.RowKit
set_option linter.unusedVariables false
set_option linter.unusedSimpArgs false
section
variable {w : World} {B q n c : Nat} {A : Option Addr} {bb : List UInt8} {s t : RSt}
theorem up8D (h : DcS w B q A n c bb s) {x : Int} (hx : up8 s = (x, t)) : Calls Tryd.prog 66 #[.pointer (some ⟨q, 0, none⟩), .int .i64 8] w (DPs B q A n c bb t (.int .i64 x) w) := by
  obtain ⟨k, h⟩ := h
  refine (rupto h 8).mono ?_
  rintro y w' ⟨rfl, k', h1, ho⟩
  unfold up8 at hx
  injection hx with e1 e2
  subst e1; subst e2
  exact ⟨rfl, ⟨k', h1⟩, ho.off⟩
/-- What the document's TakeChain leaves. -/
def ChD (B q : Nat) (A : Option Addr) (n c : Nat) (bb : List UInt8) (l : List Int) (t : RSt) (w : World) (y : Ending) (w' : World) : Prop := ∃ a m d, y = .returned (.slice a m d) ∧ RZ w' w.heap.size (.slice a m d) l ∧ DcS w' B q A n c bb t ∧ Off (fun b => b = q) w w'
set_option maxRecDepth 100000 in
set_option maxHeartbeats 3200000 in
theorem refTakeChain_any (h : DcS w B q A n c bb s) {l : List Int} {t : RSt} (ht : readChain s = (l, t)) : Calls Tryd.prog 37 #[.pointer (some ⟨q, 0, none⟩)] w (ChD B q A n c bb l t w) := by
  have hg := h.lt
  have hBq := h.lie
  have h8 := up8_le s
  unfold readChain at ht
  obtain ⟨⟨x, s1⟩, hx⟩ : ∃ p, up8 s = p := ⟨_, rfl⟩
  rw [hx] at ht h8
  obtain ⟨N, rfl⟩ : ∃ n : Nat, x = n := ⟨x.toNat, by dsimp only at h8; omega⟩
  have hn8 : N ≤ 8 := by dsimp only at h8; omega
  dsimp only at ht
  rw [Int.toNat_natCast] at ht
  have HU := Lib.hid hx
  have HT := Lib.hid ht
  clear hx ht h8
  go_enter Tryd.func37, Tryd.ntmps37
  go_wp2_with fail
  refine (up8D h HU.out).mono ?_
  rintro e w1 ⟨rfl, hR1, ho1⟩
  clear h
  go_wp2
  go_loopw [4, 5] (fun v i wr => ∃ k : Nat, i = .int .i64 (k : Int) ∧ k ≤ N ∧ RZ wr w.heap.size v (readNums k s1).1 ∧ DcS wr B q A n c bb (readNums k s1).2 ∧ Off (fun b => b = q) w wr) (fun _ i _ => N - (intOf i).toNat)
  case atStart => exact ⟨0, rfl, Nat.zero_le _, RZ.nil _ _, hR1, ho1⟩
  case round =>
    obtain ⟨k, rfl, hk, hrow, hR, ho⟩ := hrel
    clear hR1 ho1
    have hsz := ho.size
    by_cases hlt : k < N
    · obtain ⟨⟨z, s2⟩, hz⟩ : ∃ p, numS (readNums k s1).2 = p := ⟨_, rfl⟩
      have hY1 : (readNums (k + 1) s1).1 = (readNums k s1).1 ++ [z] := by show (readNums k s1).1 ++ [(numS (readNums k s1).2).1] = _; rw [hz]
      have hY : (readNums (k + 1) s1).2 = s2 := by show (numS (readNums k s1).2).2 = s2; rw [hz]
      have hlen : (readNums k s1).1.length ≤ 8 := by rw [readNums_len]; omega
      have HX := Lib.hid hY1
      have HY := Lib.hid hY
      have HZ := Lib.hid hz
      have hklt : (k : Int) < N := by omega
      clear hY1 hY hz
      generalize (readNums k s1).1 = T at hrow hlen HX
      generalize (readNums k s1).2 = sk at hR HZ
      obtain ⟨xv, cv, rfl⟩ := RowE.shape2 hrow
      go_wp2_with fail
      refine (numD hR HZ.out).mono ?_
      rintro e w3 ⟨rfl, hR3, ho3⟩
      have hrow3 := RowE.off hrow ho3 (fun b hb e => by have := (RowE.own hrow b hb).1; omega)
      have hs4 : Since w3 (w3.alloc (.cells #[.int .i64 z] 3)) := (Since.refl w3).alloc _
      have hrow4 := RZ.since hrow3 hs4
      have hR4 := hR3.since hs4
      have ho4 := (ho.trans ho3 (fun _ _ z => z)).since hs4
      have hpart : PartE encZ (w3.alloc (.cells #[.int .i64 z] 3)) (.slice (some ⟨w3.heap.size, 0, none⟩) 1 1) [z] := PartE.one (r := z) (Whole.new w3 _ _)
      have hbs : w.heap.size ≤ (w3.alloc (.cells #[.int .i64 z] 3)).heap.size := ho4.size
      have HH := Lib.hid (And.intro hrow4 (And.intro hR4 (And.intro ho4 hpart)))
      clear hrow hrow3 hrow4 hR hR3 hR4 ho ho3 ho4 hpart hs4
      go_wp2_with (at_builtin; refine wpList_append_part rfl _ _ 26 rfl w.heap.size 3 _ 8 Tryd.underlying26 infoZ rfl (by decide) HH.out.1 HH.out.2.2.2 encZ_len encZ_one rfl rfl (by simp; omega) (by decide) hbs ?_; intro v5 w5 hrow5 hoff5)
      have hF : ∀ b, (Value.slice xv T.length cv).ownBlock = some b → w.heap.size ≤ b := fun b hb => (RowE.own HH.out.1 b hb).1
      go_roundw
      case rel => exact ⟨k + 1, by go_num, by omega, by rw [HX.out]; exact hrow5, by rw [HY.out]; exact HH.out.2.1.off hoff5 (fun b hb => by have := hF b hb; omega), HH.out.2.2.1.trans hoff5 (fun b hlt hb => by have := hF b hb; omega)⟩
      case measure => simp [intOf]; omega
    · obtain rfl : k = N := by omega
      have hlen := readNums_len k s1
      obtain ⟨⟨ls, s2⟩, hls⟩ : ∃ p, readNums k s1 = p := ⟨_, rfl⟩
      rw [hls] at hrow hR hlen
      have ht := HT.out
      rw [hls] at ht
      dsimp only at hrow hR hlen ht
      injection ht with e1 e2
      obtain ⟨cb, hcb⟩ : ∃ b, chainB ls = b := ⟨_, rfl⟩
      rw [hcb] at e1 e2
      obtain ⟨xv, cv, rfl⟩ := RowE.shape2 hrow
      rw [hlen] at hrow
      have HE := Lib.hid (And.intro e1 (And.intro e2 (And.intro hrow (And.intro hcb (And.intro hR ho)))))
      have hl8 : ls.length ≤ 8 := by omega
      clear e1 e2 hcb hls HT
      rw [hlen]
      go_wp2_with fail
      refine (refRightChain_any (RZ.lz hrow) (Nat.le_refl _) (by omega) HE.out.2.2.2.1).mono ?_
      rintro e w5 ⟨rfl, hb5⟩
      have hs5 : Since wr w5 := hb5
      have hR5 := hR.since hs5
      have hrow5 := RZ.since hrow hs5
      have ho5 := ho.since hs5
      clear hR hrow ho hb5
      unfold failS at HE
      cases cb with
      | true =>
        have e2 := HE.out.2.1
        rw [if_pos rfl] at e2
        subst e2
        obtain ⟨lb, er⟩ := s2
        have e1 := HE.out.1
        rw [if_pos rfl] at e1
        have cE := hR5.c2
        dsimp only at cE e1
        by_cases he : er = 0
        · subst he
          rw [if_pos rfl] at e1
          subst e1
          have HF := Lib.hid (And.intro hrow5 (And.intro hR5 ho5))
          clear hrow5 hR5 ho5
          go_wp2
          go_ret
          exact ⟨_, _, _, rfl, HF.out.1, HF.out.2.1, HF.out.2.2⟩
        · rw [if_neg he] at e1
          subst e1
          have heb2 : (er != 0) = true := by rw [bne_iff_ne]; exact he
          have HF := Lib.hid (And.intro hR5 ho5)
          clear hrow5 hR5 ho5 he
          go_wp2
          go_ret
          exact ⟨_, _, _, rfl, RZ.nil _ _, HF.out.1, HF.out.2⟩
      | false =>
        have e2 := HE.out.2.1
        rw [if_neg (by simp)] at e2
        subst e2
        have hne : failR s2.2 21 ≠ 0 := by unfold failR; split <;> omega
        have e1 := HE.out.1
        simp only [Bool.false_eq_true, if_false] at e1
        rw [if_neg hne] at e1
        subst e1
        have hF := failD hR5
        have heb2 : (failR s2.2 21 != 0) = true := by rw [bne_iff_ne]; exact hne
        obtain ⟨er, her⟩ : ∃ er, failR s2.2 21 = er := ⟨_, rfl⟩
        rw [her] at hF heb2
        have HF := Lib.hid (And.intro hF (And.intro ho5 her))
        clear hrow5 hR5 ho5 hF hne her
        go_wp2_with fail
        refine HF.out.1.mono ?_
        rintro e w6 ⟨rfl, hR6, ho6⟩
        have cE := hR6.c2
        dsimp only at cE
        have HG := Lib.hid (And.intro hR6 (HF.out.2.1.trans ho6 (fun _ _ z => z)))
        clear hR6 ho6
        go_wp2
        go_ret
        refine ⟨_, _, _, rfl, RZ.nil _ _, ?_, HG.out.2⟩
        rw [HF.out.2.2]
        exact HG.out.1
end
end Go.Proofs.YtimmnmidhjbanaaDoor
