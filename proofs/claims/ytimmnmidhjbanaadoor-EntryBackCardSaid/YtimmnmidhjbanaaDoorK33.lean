/- TakeChain, of both. -/
import Derived.Test.YtimmnmidhjbanaaDoorK06
import Derived.Test.YtimmnmidhjbanaaDoorK15
import Derived.Test.YtimmnmidhjbanaaDoorK22
import Derived.Test.YtimmnmidhjbanaaDoorK32
import Derived.Deep.OwnRows
namespace Go.Proofs.YtimmnmidhjbanaaDoor
open Go.RowKit
set_option linter.unusedVariables false
set_option linter.unusedSimpArgs false
/-- A number up to eight; so many numbers; a chain. -/
def up8 (s : RSt) : Int × RSt := (((upR 8 s.1 s.2).1 : Int), (s.1.drop (upR 8 s.1 s.2).2.1, (upR 8 s.1 s.2).2.2))
def readNums : Nat → RSt → List Int × RSt
  | 0, s => ([], s)
  | n + 1, s => ((readNums n s).1 ++ [(numS (readNums n s).2).1], (numS (readNums n s).2).2)
theorem readNums_len (n : Nat) (s : RSt) : (readNums n s).1.length = n := by
  induction n with
  | zero => rfl
  | succ n ih => simp [readNums, ih]
theorem up_eight (l : List UInt8) : (up 8 l).1 ≤ 8 := by
  by_cases h0 : (up 8 l).2.2 = 0
  · unfold up at h0 ⊢
    split
    · exact Nat.zero_le _
    · next hc =>
      rw [if_neg hc] at h0
      have : ¬ (8 : Int) < ((dec 9007199254740992 0 0 l).1 : Int) := fun h => hc ⟨h0, h⟩
      omega
  · have := (up_zero 8 l h0).1
    omega
theorem up8_le (s : RSt) : 0 ≤ (up8 s).1 ∧ (up8 s).1 ≤ 8 := by
  unfold up8 upR
  dsimp only
  split
  · have := up_eight s.1
    omega
  · simp
/-- What Fail leaves where it may not be; what is answered. -/
def readChain (s : RSt) : List Int × RSt :=
  let a := up8 s
  let b := readNums a.1.toNat a.2
  let t := failS (chainB b.1) b.2
  (if t.2 = 0 then b.1 else [], t)
section
variable {w : World} {base g : Nat} {s t : RSt}
theorem up8P (h : RdS w base g s) {x : Int} (hx : up8 s = (x, t)) : Calls Tryd.prog 63 #[.pointer (some ⟨g, 0, none⟩), .int .i64 8] w (RPs base g t (.int .i64 x) w) := by
  obtain ⟨A, n, c, h⟩ := h
  refine (wupto h 8).mono ?_
  rintro y w' ⟨rfl, A', n', c', h1, ho⟩
  unfold up8 at hx
  injection hx with e1 e2
  subst e1; subst e2
  exact ⟨rfl, ⟨A', n', c', h1⟩, ho.off⟩
/-- What taken leaves: the value if nothing is wrong, else the other one. -/
theorem takenC_any (h : RdS w base g s) (a : Option Addr) (n c : Nat) {ok : Bool} {t : RSt} (ht : failS ok s = t) :
    Calls Tryd.prog 65 #[.pointer (some ⟨g, 0, none⟩), .slice a n c, .bool ok] w fun y w' => y = .returned (if t.2 = 0 then .slice a n c else .slice none 0 0) ∧ RdS w' base g t ∧ Off (fun b => b = g) w w' := by
  unfold failS at ht
  cases ok with
  | true =>
    rw [if_pos rfl] at ht
    subst ht
    obtain ⟨l, er⟩ := s
    dsimp only
    have hR := h
    by_cases he : er = 0
    · subst he
      clear h
      go_enter Tryd.func65, Tryd.ntmps65
      go_wp2_with (go_at_call 33; (with_reducible refine (errP hR).mono ?_); rintro e w' ⟨rfl, rfl⟩)
      go_ret
      exact ⟨rfl, hR, Off.refl _ _⟩
    · rw [if_neg he]
      have heb2 : (er != 0) = true := by rw [bne_iff_ne]; exact he
      clear he h
      go_enter Tryd.func65, Tryd.ntmps65
      go_wp2_with (go_at_call 33; (with_reducible refine (errP hR).mono ?_); rintro e w' ⟨rfl, rfl⟩)
      go_ret
      exact ⟨rfl, hR, Off.refl _ _⟩
  | false =>
    rw [if_neg (by simp)] at ht
    subst ht
    have hne : failR s.2 21 ≠ 0 := by unfold failR; split <;> omega
    dsimp only
    rw [if_neg hne]
    have heb2 : (failR s.2 21 != 0) = true := by rw [bne_iff_ne]; exact hne
    have HF := Lib.hid (failP h)
    clear h hne
    generalize failR s.2 21 = er at heb2 HF
    go_enter Tryd.func65, Tryd.ntmps65
    go_wp2_with fail
    refine HF.out.mono ?_
    rintro e w1 ⟨rfl, hR1, ho1⟩
    go_wp2_with (go_at_call 33; (with_reducible refine (errP hR1).mono ?_); rintro e w' ⟨rfl, rfl⟩)
    go_ret
    exact ⟨rfl, hR1, ho1⟩
def rowK (n k : Nat) (s : RSt) : Array Value := (((readNums k s).1 ++ List.replicate (n - k) 0).map (Value.int .i64)).toArray
theorem rowK_at {n k : Nat} (h : k < n) (s : RSt) : (rowK n k s)[k]? = some (.int .i64 0) := by
  unfold rowK
  rw [List.getElem?_toArray, List.getElem?_map, List.getElem?_append_right (by rw [readNums_len]; exact Nat.le_refl _), readNums_len, Nat.sub_self, List.getElem?_replicate]
  simp; omega
theorem rowK_next {n k : Nat} (h : k < n) (s : RSt) : rowK n (k + 1) s = (rowK n k s).setIfInBounds k (.int .i64 (numS (readNums k s).2).1) := by
  unfold rowK
  rw [List.setIfInBounds_toArray, ← List.map_set, List.set_append_right _ _ (by rw [readNums_len]; exact Nat.le_refl _), readNums_len, Nat.sub_self, show n - k = (n - (k + 1)) + 1 by omega, List.replicate_succ, List.set_cons_zero]
  simp [readNums]
theorem made_zero {n : Nat} (h : n ≤ 8) (s : RSt) : madeCells #[.int .i64 0] n = rowK n 0 s := by
  obtain rfl | rfl | rfl | rfl | rfl | rfl | rfl | rfl | rfl : n = 0 ∨ n = 1 ∨ n = 2 ∨ n = 3 ∨ n = 4 ∨ n = 5 ∨ n = 6 ∨ n = 7 ∨ n = 8 := by omega
  all_goals kernel_rfl
theorem rowK_end (n : Nat) (s : RSt) : rowK n n s = ((readNums n s).1.map (Value.int .i64)).toArray := by unfold rowK; simp
/-- What TakeChain leaves. -/
def ChP (base g : Nat) (l : List Int) (t : RSt) (w : World) (y : Ending) (w' : World) : Prop := ∃ a n c, y = .returned (.slice a n c) ∧ RZ w' w.heap.size (.slice a n c) l ∧ RdS w' base g t ∧ Off (fun b => b = g) w w'
set_option maxRecDepth 100000 in
set_option maxHeartbeats 3200000 in
theorem takeChain_any (h : RdS w base g s) {l : List Int} {t : RSt} (ht : readChain s = (l, t)) : Calls Tryd.prog 36 #[.pointer (some ⟨g, 0, none⟩)] w (ChP base g l t w) := by
  have hg := h.lt
  have h8 := up8_le s
  unfold readChain at ht
  obtain ⟨⟨x, s1⟩, hx⟩ : ∃ p, up8 s = p := ⟨_, rfl⟩
  rw [hx] at ht h8
  obtain ⟨n, rfl⟩ : ∃ n : Nat, x = n := ⟨x.toNat, by dsimp only at h8; omega⟩
  have hn8 : n ≤ 8 := by dsimp only at h8; omega
  dsimp only at ht
  rw [Int.toNat_natCast] at ht
  have HU := Lib.hid hx
  have HT := Lib.hid ht
  have hmk := fun w => run_make_row' (P := Tryd.prog) 26 3 (.int .i64 0) 8 Tryd.underlying26 infoZ rfl .i64 .i64 n (by omega) (by omega) w
  rw [made_zero hn8 s1] at hmk
  clear hx ht h8
  go_enter Tryd.func36, Tryd.ntmps36
  go_wp2_with fail
  refine (up8P h HU.out).mono ?_
  rintro e w1 ⟨rfl, hR1, ho1⟩
  obtain ⟨J, hJ⟩ : ∃ J, J = w1.heap.size := ⟨_, rfl⟩
  have hJ0 : w.heap.size ≤ J := by have := ho1.size; omega
  have hgJ : g < J := by omega
  obtain ⟨w2, hw2⟩ : ∃ w2, w2 = w1.alloc (.cells (rowK n 0 s1) 3) := ⟨_, rfl⟩
  have hW2 : Whole w2 J 3 (rowK n 0 s1) := by rw [hw2, hJ]; exact Whole.new w1 _ _
  have hs2 : Since w1 w2 := by rw [hw2]; exact (Since.refl w1).alloc _
  have hR2 := hR1.since hs2
  have ho2 := ho1.since hs2
  have HW2 := Lib.hid (And.intro hw2 hJ)
  clear hw2 hJ hs2 hR1 ho1 h
  go_wp2_with fail
  rw [← HW2.out.1, ← HW2.out.2]
  clear hmk
  go_wp2
  go_loopw [10] (fun i wr => ∃ k : Nat, i = .int .i64 (k : Int) ∧ k ≤ n ∧ Whole wr J 3 (rowK n k s1) ∧ RdS wr base g (readNums k s1).2 ∧ Off (fun b => b = g) w wr) (fun i _ => n - (intOf i).toNat)
  case atStart => exact ⟨0, rfl, Nat.zero_le _, hW2, hR2, ho2⟩
  case round =>
    obtain ⟨k, rfl, hk, hW, hR, ho⟩ := hrel
    clear hW2 hR2 ho2
    by_cases hlt : k < n
    · obtain ⟨⟨z, s2⟩, hz⟩ : ∃ p, numS (readNums k s1).2 = p := ⟨_, rfl⟩
      have hat := rowK_at hlt s1
      have hX := rowK_next hlt s1
      have hY : (readNums (k + 1) s1).2 = s2 := by show (numS (readNums k s1).2).2 = s2; rw [hz]
      rw [hz] at hX
      have HX := Lib.hid hX
      have HY := Lib.hid hY
      have HZ := Lib.hid hz
      have hklt : (k : Int) < n := by omega
      clear hX hY hz
      generalize rowK n k s1 = N at hW hat HX
      generalize (readNums k s1).2 = sk at hR HZ
      go_wp2_with fail
      refine (numP hR HZ.out).mono ?_
      rintro e w3 ⟨rfl, hR3, ho3⟩
      have hW3 := ho3.whole hW (by omega)
      have a3 := (hW3.cell k).trans hat
      have f3 := hW3.frozen k
      have hh := hW3.set_ k (.int .i64 z)
      have hR4 := hR3.set_ ⟨J, k, none⟩ hgJ (.int .i64 z)
      have ho4 := (ho.trans ho3 (fun _ _ z => z)).setCell (p := ⟨J, k, none⟩) (.inl hJ0) (.int .i64 z)
      have HH := Lib.hid (And.intro hh (And.intro hR4 ho4))
      clear hh hR4 ho4 hR hW hW3 hR3 ho3 ho
      go_wp2
      go_roundw
      case rel => exact ⟨k + 1, by go_num, by omega, by rw [HX.out]; exact HH.out.1, by rw [HY.out]; exact HH.out.2.1, HH.out.2.2⟩
      case measure => simp [intOf]; omega
    · obtain rfl : k = n := by omega
      rw [rowK_end] at hW
      have hlen := readNums_len k s1
      obtain ⟨⟨ls, s2⟩, hls⟩ : ∃ p, readNums k s1 = p := ⟨_, rfl⟩
      rw [hls] at hW hR hlen
      have ht := HT.out
      rw [hls] at ht
      dsimp only at hW hR hlen ht
      injection ht with e1 e2
      obtain ⟨cb, hcb⟩ : ∃ b, chainB ls = b := ⟨_, rfl⟩
      rw [hcb] at e1 e2
      have hlz : LZ (J + 1) wr (.slice (some ⟨J, 0, none⟩) k k) ls := LZ.lit hW rfl hlen (Nat.le_refl _) (Nat.lt_succ_self _)
      have hrz : RZ wr w.heap.size (.slice (some ⟨J, 0, none⟩) k k) ls := by
        have e : ls.flatMap encZ = ls.map (Value.int .i64) := by
          clear hlen hW hcb hlz e1 e2 hls
          induction ls with
          | nil => rfl
          | cons x l ih => rw [List.flatMap_cons, ih]; rfl
        have := RowE.of (enc := encZ) (n := 1) (W := wr) (base := w.heap.size) (T := 3) (l := ls) (g := J) (cap := k) (S := []) hJ0 (by rw [List.append_nil, e]; exact hW) (by omega) (by unfold maxLen; omega) (by rw [e, List.length_map, Nat.mul_one]) (by rw [hlen]; simp)
        rw [hlen] at this
        exact this
      have hJs : J + 1 ≤ wr.heap.size := hW.lt
      have HE := Lib.hid (And.intro e1 (And.intro e2 (And.intro hlz (And.intro hrz (And.intro hcb (And.intro hR ho))))))
      clear e1 e2 hlz hrz hcb hR ho hls HT hW hlen
      go_wp2_with fail
      refine (rightChain_any HE.out.2.2.1 hJs (by have := HE.out.2.2.1.len; omega) HE.out.2.2.2.2.1).mono ?_
      rintro e w5 ⟨rfl, hb5⟩
      have hs5 : Since wr w5 := hb5
      go_wp2_with fail
      refine (takenC_any (HE.out.2.2.2.2.2.1.since hs5) _ _ _ HE.out.2.1).mono ?_
      rintro e w6 ⟨rfl, hR6, ho6⟩
      have hrz6 := RowE.off (RZ.since HE.out.2.2.2.1 hs5) ho6 (fun b hb e => by injection hb with hb; dsimp only at hb; omega)
      have ho6' := ((HE.out.2.2.2.2.2.2.since hs5).trans ho6 (fun _ _ z => z))
      have HE6 := Lib.hid (And.intro hrz6 (And.intro hR6 (And.intro ho6' HE.out.1)))
      clear hrz6 hR6 ho6' ho6 hs5 hb5
      by_cases ht0 : t.2 = 0
      · rw [if_pos ht0]
        go_wp2
        go_ret
        refine ⟨_, _, _, rfl, ?_, HE6.out.2.1, HE6.out.2.2.1⟩
        have := HE6.out.2.2.2
        rw [HE.out.2.1, if_pos ht0] at this
        rw [← this]
        exact HE6.out.1
      · rw [if_neg ht0]
        go_wp2
        go_ret
        refine ⟨_, _, _, rfl, ?_, HE6.out.2.1, HE6.out.2.2.1⟩
        have := HE6.out.2.2.2
        rw [HE.out.2.1, if_neg ht0] at this
        rw [← this]
        exact RZ.nil _ _
end
end Go.Proofs.YtimmnmidhjbanaaDoor
