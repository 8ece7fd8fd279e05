/- gleberef11.PutChain, Put. -/
import Derived.Test.YtimmnmidhjbanaaDoorK10
import Derived.Test.YtimmnmidhjbanaaDoorK27
import Derived.Test.YtimmnmidhjbanaaDoorK32
import Derived.Test.YtimmnmidhjbanaaDoorK34
import Derived.Test.YtimmnmidhjbanaaDoorK35
namespace Go.Proofs.YtimmnmidhjbanaaDoor
open Go.RowKit
set_option linter.unusedVariables false
set_option linter.unusedSimpArgs false
set_option maxRecDepth 100000 in
theorem refPutChain_no {B : Nat} {v : Value} {l : List Int} {w : World} (h : LZ B w v l) (hB : B ≤ w.heap.size) (hl : l.length ≤ 1000) (hc : chainB l = false) :
    Calls Tryd.prog 21 #[v] w fun e w' => e = .returned (.slice none 0 0) ∧ Below w.heap.size w w' := by
  obtain ⟨a, cap, rfl, -⟩ := h.form
  have HR := Lib.hid (refRightChain_any h hB (by omega) hc)
  clear h hc
  go_enter Tryd.func21, Tryd.ntmps21
  go_wp2_with (go_at_call 22; (with_reducible refine HR.out.mono ?_); rintro e w2 ⟨rfl, hb2⟩)
  go_ret
  exact ⟨rfl, hb2⟩
set_option maxRecDepth 100000 in
set_option maxHeartbeats 1600000 in
theorem refPutChain_yes {B : Nat} {v : Value} {l : List Int} {w : World} (h : LZ B w v l) (hB : B ≤ w.heap.size) (hc : chainB l = true) :
    Calls Tryd.prog 21 #[v] w (SlicePost w.heap.size (chainL l) w) := by
  have h8 := chain_len ((chainB_iff _).1 hc)
  obtain ⟨a, cap, rfl, -⟩ := h.form
  obtain ⟨N, hN⟩ : ∃ N, l.length = N := ⟨_, rfl⟩
  have HR := Lib.hid (refRightChain_any h hB (by omega) hc)
  rw [hN] at h h8 HR ⊢
  have HA := Lib.hid (fun W (hW : Since w W) => h.since hW hB)
  have HN := Lib.hid hN
  clear h hN hB hc
  go_enter Tryd.func21, Tryd.ntmps21
  go_wp2_with (go_at_call 22; (with_reducible refine HR.out.mono ?_); rintro e w1 ⟨rfl, hb1⟩; have hs1 : Since w w1 := hb1)
  refine (refNum_any _ _).mono ?_
  rintro e w2 ⟨v2, rfl, ho2, hb2⟩
  have hs2 : Since w w2 := hs1.trans hb2
  obtain ⟨A2, n2, c2, rfl, hh2⟩ := (ho2.lower hs1.size_).has
  have hown2 : Own w2 w.heap.size (.slice A2 n2 c2) (numL N) := hh2.own
  clear ho2 hh2 hb1 hb2 hs1
  go_wp2
  go_loopw [3, 4] (fun s i wr => ∃ k : Nat, i = .int .i64 (k : Int) ∧ k ≤ N ∧ Own wr w.heap.size s (numL N ++ (l.take k).flatMap numL) ∧ Since w wr) (fun _ i _ => N - (intOf i).toNat)
  case atStart => exact ⟨0, rfl, Nat.zero_le _, by simpa using hown2, hs2⟩
  case round =>
    obtain ⟨k, rfl, hk, hown, hsw⟩ := hrel
    clear hs2 hown2
    by_cases hlt : k < N
    · have hlk : k < l.length := by have := HN.out; omega
      obtain ⟨z, hz⟩ : ∃ z, l[k]? = some z := ⟨_, List.getElem?_eq_getElem hlk⟩
      obtain ⟨b1, off, rfl, _⟩ := LZ.addr (HA.out w (Since.refl w)) (by omega)
      have hcc := LZ.cellsAt (HA.out wr hsw) hz
      have hX : numL N ++ (l.take (k + 1)).flatMap numL = (numL N ++ (l.take k).flatMap numL) ++ numL z := by rw [nums_next hz, List.append_assoc]
      have hlen := nums_len (l.take k)
      rw [List.length_take] at hlen
      have hn1 := numL_len (N : Int)
      have hln2 : (numL N ++ (l.take k).flatMap numL).length ≤ 9000 := by rw [List.length_append]; omega
      have hbs := hsw.size_
      have hn9 := numL_len z
      clear hlk hz hlen hn1
      generalize numL N ++ (l.take k).flatMap numL = T at hown hX hln2
      have HX := Lib.hid hX
      clear hX
      have hrr : Since wr wr := Since.refl wr
      go_wp2_with (first
        | (go_at_call 46; (with_reducible refine (refNum_any _ _).mono ?_); rintro e w3 ⟨v3, rfl, hh, hb⟩; have hs3 : Since wr w3 := hb; obtain ⟨A, n, c, rfl, hx⟩ := hh.has; have hb3 : Since w w3 := hsw.trans hs3; have hbs3 := hb3.size_)
        | (at_builtin; refine wpList_app _ rfl (.tmp 17) (.tmp 22) _ rfl w.heap.size _ T rfl (hown.below hs3) _ (numL z) rfl (src_at n c hx.rd hx.len) (by omega) hbs3 ?_; intro v4 w4 hown4 hb4; have hs4 : Since w w4 := Below.trans hb3 hb4))
      go_roundw
      case rel => exact ⟨k + 1, by go_num, by omega, by rw [HX.out]; exact hown4, hs4⟩
      case measure => simp [intOf]; omega
    · obtain rfl : k = N := by omega
      rw [List.take_of_length_le (Nat.le_of_eq HN.out)] at hown
      obtain ⟨A, n, c, rfl, hh⟩ := hown.has
      have HH := Lib.hid (And.intro hh hsw)
      clear hh hown hsw
      go_wp2
      go_ret
      refine ⟨A, n, c, rfl, ?_, HH.out.2⟩
      unfold chainL
      rw [HN.out]
      exact HH.out.1
section
variable {B : Nat} {kind ok x y : Int} {key val : ByteArray} {cl seq nd ep bx : Int} {ca : Option Addr} {cn cc : Nat} {l : List Int} {w : World}
set_option maxRecDepth 100000 in
theorem refPut11_no (h : LZ B w (.slice ca cn cc) l) (hB : B ≤ w.heap.size) (hl : l.length ≤ 1000) (hr : rightB (⟨kind, ok, x, y, key, val, cl, seq, nd, ep, bx⟩ : En) l = false) :
    Calls Tryd.prog 18 #[.agg #[.int .i64 kind, .int .i64 ok, .int .i64 x, .int .i64 y, .string key, .string val, .int .i64 cl, .int .i64 seq, .int .i64 nd, .int .i64 ep, .int .i64 bx, .slice ca cn cc]] w fun e w' => e = .returned (.slice none 0 0) ∧ Below w.heap.size w w' := by
  have HA := Lib.hid (fun W (hW : Since w W) => refRight11_any (h.since hW hB) (Nat.le_trans hB hW.size_) (by omega) hr)
  clear h hr
  obtain ⟨w0, hw0⟩ : ∃ w0, w0 = w.alloc (.cells #[.int .i64 kind, .int .i64 ok, .int .i64 x, .int .i64 y, .string key, .string val, .int .i64 cl, .int .i64 seq, .int .i64 nd, .int .i64 ep, .int .i64 bx, .slice ca cn cc] 28) := ⟨_, rfl⟩
  have hs0 : Since w w0 := by rw [hw0]; exact (Since.refl w).alloc _
  have wh0 : Whole w0 (w.heap.size) 28 #[.int .i64 kind, .int .i64 ok, .int .i64 x, .int .i64 y, .string key, .string val, .int .i64 cl, .int .i64 seq, .int .i64 nd, .int .i64 ep, .int .i64 bx, .slice ca cn cc] := by rw [hw0]; exact Whole.new w _ _
  have HW := Lib.hid hw0
  have c0_0 := box_cell wh0 0 (.int .i64 kind) rfl
  have c0_1 := box_cell wh0 1 (.int .i64 ok) rfl
  have c0_2 := box_cell wh0 2 (.int .i64 x) rfl
  have c0_3 := box_cell wh0 3 (.int .i64 y) rfl
  have c0_4 := box_cell wh0 4 (.string key) rfl
  have c0_5 := box_cell wh0 5 (.string val) rfl
  have c0_6 := box_cell wh0 6 (.int .i64 cl) rfl
  have c0_7 := box_cell wh0 7 (.int .i64 seq) rfl
  have c0_8 := box_cell wh0 8 (.int .i64 nd) rfl
  have c0_9 := box_cell wh0 9 (.int .i64 ep) rfl
  have c0_10 := box_cell wh0 10 (.int .i64 bx) rfl
  have c0_11 := box_cell wh0 11 (.slice ca cn cc) rfl
  have hsr := Since.refl w0
  have hsd := hsr.drew
  clear hw0 wh0
  go_enter Tryd.func18, Tryd.ntmps18
  go_wp2_with fail
  rw [← HW.out]
  go_wp2_with fail
  refine (HA.out _ hs0).mono ?_
  rintro e w1 ⟨rfl, hb1⟩
  go_wp2
  go_ret
  exact ⟨rfl, hs0.trans hb1⟩
theorem off_since2 {F : Nat → Prop} {w W W' : World} (h : Off F W W') (hs : Since w W) (hF : ∀ b, F b → w.heap.size ≤ b) : Since w W' :=
  Below.trans (show Below w.heap.size w W from hs) (h.below hs.size_ hF)
set_option maxRecDepth 100000 in
set_option maxHeartbeats 12800000 in
theorem refPut11_yes (h : LZ B w (.slice ca cn cc) l) (hB : B ≤ w.heap.size) (hr : rightB (⟨kind, ok, x, y, key, val, cl, seq, nd, ep, bx⟩ : En) l = true) :
    Calls Tryd.prog 18 #[.agg #[.int .i64 kind, .int .i64 ok, .int .i64 x, .int .i64 y, .string key, .string val, .int .i64 cl, .int .i64 seq, .int .i64 nd, .int .i64 ep, .int .i64 bx, .slice ca cn cc]] w (SlicePost w.heap.size (entL (⟨kind, ok, x, y, key, val, cl, seq, nd, ep, bx⟩ : En) l) w) := by
  have hl8 := right_len hr
  have HR := Lib.hid (fun W (hW : Since w W) => refRight11_any (h.since hW hB) (Nat.le_trans hB hW.size_) (by omega) hr)
  have HC0 := Lib.hid (fun W (hW : Since w W) => h.since hW hB)
  have HBB := Lib.hid hB
  unfold rightB at hr
  unfold entL contL
  dsimp only at hr ⊢
  obtain ⟨w0, hw0⟩ : ∃ w0, w0 = w.alloc (.cells #[.int .i64 kind, .int .i64 ok, .int .i64 x, .int .i64 y, .string key, .string val, .int .i64 cl, .int .i64 seq, .int .i64 nd, .int .i64 ep, .int .i64 bx, .slice ca cn cc] 28) := ⟨_, rfl⟩
  have hs0 : Since w w0 := by rw [hw0]; exact (Since.refl w).alloc _
  have wh0 : Whole w0 (w.heap.size) 28 #[.int .i64 kind, .int .i64 ok, .int .i64 x, .int .i64 y, .string key, .string val, .int .i64 cl, .int .i64 seq, .int .i64 nd, .int .i64 ep, .int .i64 bx, .slice ca cn cc] := by rw [hw0]; exact Whole.new w _ _
  have HW := Lib.hid hw0
  have c0_0 := box_cell wh0 0 (.int .i64 kind) rfl
  have c0_1 := box_cell wh0 1 (.int .i64 ok) rfl
  have c0_2 := box_cell wh0 2 (.int .i64 x) rfl
  have c0_3 := box_cell wh0 3 (.int .i64 y) rfl
  have c0_4 := box_cell wh0 4 (.string key) rfl
  have c0_5 := box_cell wh0 5 (.string val) rfl
  have c0_6 := box_cell wh0 6 (.int .i64 cl) rfl
  have c0_7 := box_cell wh0 7 (.int .i64 seq) rfl
  have c0_8 := box_cell wh0 8 (.int .i64 nd) rfl
  have c0_9 := box_cell wh0 9 (.int .i64 ep) rfl
  have c0_10 := box_cell wh0 10 (.int .i64 bx) rfl
  have c0_11 := box_cell wh0 11 (.slice ca cn cc) rfl
  have hsr := Since.refl w0
  have hsd := hsr.drew
  clear hw0 wh0
  by_cases k1 : kind = 1
  · rw [if_pos k1] at hr ⊢
    have HO := Lib.hid (show opB ok x y key val cl seq = true from (Bool.and_eq_true_iff.1 hr).1)
    have HLO := Lib.hid (opL_short HO.out)
    have k1' : (kind == 1) = true := by simpa using k1
    have HN9 := Lib.hid (numL_len kind)
    clear hr k1 h hB
    go_enter Tryd.func18, Tryd.ntmps18
    go_wp2_with fail
    rw [← HW.out]
    go_wp2_with (go_at_call 20; (with_reducible refine (HR.out _ hs0).mono ?_); rintro e w1 ⟨rfl, hb1⟩; have hs1 : Since w0 w1 := hb1)
    refine (refNum_any _ _).mono ?_
    rintro e w2 ⟨v2, rfl, ho2, hb2⟩
    have hs2 : Since w0 w2 := hs1.trans hb2
    obtain ⟨A2, n2, c2, rfl, hh2⟩ := (ho2.lower (hs0.trans hs1).size_).has
    go_wp2_with fail
    refine (refPutOp_yes ok x y key val cl seq _ HO.out).mono ?_
    rintro e w3 ⟨A3, n3, c3, rfl, hh3, hb3⟩
    have hs3 : Since w0 w3 := hs2.trans hb3
    have hown : Own w3 w.heap.size (.slice A2 n2 c2) (numL kind) := hh2.own.below hb3
    have hbs : w.heap.size ≤ w3.heap.size := (hs0.trans hs3).size_
    go_wp2_with (at_builtin; refine wpList_app _ rfl (.tmp 14) (.tmp 17) _ rfl w.heap.size _ (numL kind) rfl hown _ (opL ok x y key val cl seq) rfl (src_at n3 c3 hh3.rd hh3.len) (by have := HN9.out; have := HLO.out; omega) hbs ?_; intro v4 w4 hown4 hb4)
    obtain ⟨A, n, c, rfl, hh⟩ := hown4.has
    go_ret
    exact ⟨A, n, c, rfl, hh, Below.trans (show Below w.heap.size w w3 from hs0.trans hs3) hb4⟩
  · rw [if_neg k1] at hr ⊢
    have k1' : (kind == 1) = false := by simpa using k1
    by_cases k23 : kind = 2 ∨ kind = 3
    · rw [if_pos k23] at hr ⊢
      have KK : (kind == 2) = true ∨ ((kind == 2) = false ∧ (kind == 3) = true) := by
        rcases k23 with k | k
        · exact .inl (by simpa using k)
        · exact .inr ⟨by rw [beq_eq_false_iff_ne]; omega, by simpa using k⟩
      have HN9 := Lib.hid (And.intro (numL_len kind) (numL_len nd))
      clear hr k1 k23 h hB
      rcases KK with k2 | ⟨k2, k3⟩
      all_goals
        go_enter Tryd.func18, Tryd.ntmps18
        go_wp2_with fail
        rw [← HW.out]
        go_wp2_with (go_at_call 20; (with_reducible refine (HR.out _ hs0).mono ?_); rintro e w1 ⟨rfl, hb1⟩; have hs1 : Since w0 w1 := hb1)
        refine (refNum_any _ _).mono ?_
        rintro e w2 ⟨v2, rfl, ho2, hb2⟩
        have hs2 : Since w0 w2 := hs1.trans hb2
        obtain ⟨A2, n2, c2, rfl, hh2⟩ := (ho2.lower (hs0.trans hs1).size_).has
        go_wp2_with fail
        refine (refNum_any _ _).mono ?_
        rintro e w3 ⟨v3, rfl, ho3, hb3⟩
        obtain ⟨A3, n3, c3, rfl, hh3⟩ := ho3.has
        have hs3 : Since w0 w3 := hs2.trans hb3
        have hown : Own w3 w.heap.size (.slice A2 n2 c2) (numL kind) := hh2.own.below hb3
        have hbs : w.heap.size ≤ w3.heap.size := (hs0.trans hs3).size_
        go_wp2_with (at_builtin; refine wpList_app _ rfl (.tmp 22) (.tmp 25) _ rfl w.heap.size _ (numL kind) rfl hown _ (numL nd) rfl (src_at n3 c3 hh3.rd hh3.len) (by have := HN9.out; omega) hbs ?_; intro v4 w4 hown4 hb4)
        obtain ⟨A, n, c, rfl, hh⟩ := hown4.has
        go_ret
        exact ⟨A, n, c, rfl, hh, Below.trans (show Below w.heap.size w w3 from hs0.trans hs3) hb4⟩
    · rw [if_neg k23] at hr ⊢
      have k2 : (kind == 2) = false := by rw [beq_eq_false_iff_ne]; omega
      have k3 : (kind == 3) = false := by rw [beq_eq_false_iff_ne]; omega
      have hch : chainB l = true := by
        split at hr
        · simp only [Bool.and_eq_true] at hr
          exact hr.2.2.2.1
        · cases hr
      have HB := Lib.hid (And.intro hB hch)
      have HLN := Lib.hid (show (numL kind).length + (numL nd).length ≤ 100000 ∧ (numL kind ++ numL nd).length + (numL ep).length ≤ 100000 ∧ ((numL kind ++ numL nd) ++ numL ep).length + (numL bx).length ≤ 100000 ∧ (((numL kind ++ numL nd) ++ numL ep) ++ numL bx).length + (chainL l).length ≤ 100000 from by
        have := numL_len kind
        have := numL_len nd
        have := numL_len ep
        have := numL_len bx
        have := chainL_len ((chainB_iff _).1 hch)
        simp only [List.length_append]
        omega)
      clear hr k1 k23 h hB hch
      go_enter Tryd.func18, Tryd.ntmps18
      go_wp2_with fail
      rw [← HW.out]
      go_wp2_with (go_at_call 20; (with_reducible refine (HR.out _ hs0).mono ?_); rintro e w1 ⟨rfl, hb1⟩; have hs1 : Since w0 w1 := hb1)
      refine (refNum_any _ _).mono ?_
      rintro e w2 ⟨v2, rfl, ho2, hb2⟩
      have hs2 : Since w0 w2 := hs1.trans hb2
      have hsd2 := hs2.drew
      obtain ⟨x2, m2, c2, rfl⟩ := RowE.shape3 (own_row.1 ho2)
      have hr0 := RowE.since (RowE.mono (own_row.1 ho2) hs1.size_) (Since.refl w2).drew
      clear ho2 hb2 hb1
      go_wp2_with fail
      refine wp_region_held_drew (S := fun W => Since w0 W) (by kernel_rfl) hsd2 (fun hHeld => ?_)
      generalize w2.drew = wq at hHeld hr0 ⊢
      refine wpAnyH_take (i := 0) (v := ?_) rfl (by kernel_rfl) (by kernel_rfl) (by kernel_rfl) (fun _ _ _ h => h) (Or.inl ⟨by rfl, ?_⟩) (by assumption) ?_
      rotate_left 1
      · (intro W hW; clear hW; go_simp; try with_reducible rfl)
      simp only [Act.put, List.getElem_toArray, List.getElem_cons_zero, List.setIfInBounds_toArray, List.set_cons_zero, List.set_cons_succ]
      refine wpAnyH_take (i := 1) (v := ?_) rfl (by kernel_rfl) (by kernel_rfl) (by kernel_rfl) (fun _ _ _ h => h) (Or.inl ⟨by rfl, ?_⟩) (by assumption) ?_
      rotate_left 1
      · (intro W hW; clear hW; go_simp; try with_reducible rfl)
      simp only [Act.put, List.getElem_toArray, List.getElem_cons_succ, List.getElem_cons_zero, List.setIfInBounds_toArray, List.set_cons_zero, List.set_cons_succ]
      refine wpAnyH_take (i := 2) (v := ?_) rfl (by kernel_rfl) (by kernel_rfl) (by kernel_rfl) (fun _ _ _ h => h) (Or.inl ⟨by rfl, ?_⟩) (by assumption) ?_
      rotate_left 1
      · (intro W hW; skip; go_simp; try with_reducible rfl)
      simp only [Act.put, List.getElem_toArray, List.getElem_cons_succ, List.getElem_cons_zero, List.setIfInBounds_toArray, List.set_cons_zero, List.set_cons_succ]
      refine wpAnyH_take (i := 5) (v := ?_) rfl (by kernel_rfl) (by kernel_rfl) (by kernel_rfl) (fun _ _ _ h => h) (Or.inl ⟨by rfl, ?_⟩) (by assumption) ?_
      rotate_left 1
      · (intro W hW; clear hW; go_simp; try with_reducible rfl)
      simp only [Act.put, List.getElem_toArray, List.getElem_cons_succ, List.getElem_cons_zero, List.setIfInBounds_toArray, List.set_cons_zero, List.set_cons_succ]
      refine wpAnyH_take (i := 6) (v := ?_) rfl (by kernel_rfl) (by kernel_rfl) (by kernel_rfl) (fun _ _ _ h => h) (Or.inl ⟨by rfl, ?_⟩) (by assumption) ?_
      rotate_left 1
      · (intro W hW; skip; go_simp; try with_reducible rfl)
      simp only [Act.put, List.getElem_toArray, List.getElem_cons_succ, List.getElem_cons_zero, List.setIfInBounds_toArray, List.set_cons_zero, List.set_cons_succ]
      refine wpAnyH_ready (rs := [3]) (by kernel_rfl) (by simp) ?_
      refine AllReadyH.cons rfl (fun K hK => ?_) AllReadyH.nil
      go_simp
      refine (refNum_any _ _).mono ?_
      rintro e w3 ⟨v3, rfl, ho3, hb3⟩
      obtain ⟨x3, m3, c3, rfl⟩ := RowE.shape3 (own_row.1 ho3)
      have hr0 := RowE.since hr0 hb3
      have hlt0 := fun b hb => (RowE.own hr0 b hb).2
      go_wp2_with fail
      refine hK.out _ _ (Since.trans hHeld hb3) (fun hHeld => ?_)
      clear hK K
      try simp only [Act.put, List.getElem_toArray, List.getElem_cons_succ, List.getElem_cons_zero, List.setIfInBounds_toArray, List.set_cons_zero, List.set_cons_succ]
      refine wpAnyH_ready (rs := [4]) (by kernel_rfl) (by simp) ?_
      refine AllReadyH.cons rfl (fun K hK => ?_) AllReadyH.nil
      refine step_append_val rfl (.tmp 27) (.tmp 30) 31 rfl w0.heap.size 5 _ 1 Tryd.underlying31 byte_info rfl (by decide) hr0 (RowE.part (own_row.1 ho3) encB_len) encB_len encB_one rfl rfl (HLN.out.1) (by decide) hHeld.size_ ?_
      intro v4 w4 hr4 hoff4
      obtain ⟨x4, m4, c4, rfl⟩ := RowE.shape3 hr4
      refine hK.out _ _ (off_since2 hoff4 hHeld (fun b hb => (RowE.own hr0 b hb).1)) (fun hHeld => ?_)
      clear hK K
      try simp only [Act.put, List.getElem_toArray, List.getElem_cons_succ, List.getElem_cons_zero, List.setIfInBounds_toArray, List.set_cons_zero, List.set_cons_succ]
      refine wpAnyH_ready (rs := [7]) (by kernel_rfl) (by simp) ?_
      refine AllReadyH.cons rfl (fun K hK => ?_) AllReadyH.nil
      go_simp
      refine (refNum_any _ _).mono ?_
      rintro e w7 ⟨v7, rfl, ho7, hb7⟩
      obtain ⟨x7, m7, c7, rfl⟩ := RowE.shape3 (own_row.1 ho7)
      have hr4 := RowE.since hr4 hb7
      go_wp2_with fail
      refine hK.out _ _ (Since.trans hHeld hb7) (fun hHeld => ?_)
      clear hK K
      try simp only [Act.put, List.getElem_toArray, List.getElem_cons_succ, List.getElem_cons_zero, List.setIfInBounds_toArray, List.set_cons_zero, List.set_cons_succ]
      refine wpAnyH_ready (rs := [8]) (by kernel_rfl) (by simp) ?_
      refine AllReadyH.cons rfl (fun K hK => ?_) AllReadyH.nil
      refine step_append_val rfl (.tmp 31) (.tmp 34) 31 rfl w0.heap.size 5 _ 1 Tryd.underlying31 byte_info rfl (by decide) hr4 (RowE.part (own_row.1 ho7) encB_len) encB_len encB_one rfl rfl (HLN.out.2.1) (by decide) hHeld.size_ ?_
      intro v8 w8 hr8 hoff8
      obtain ⟨x8, m8, c8, rfl⟩ := RowE.shape3 hr8
      refine hK.out _ _ (off_since2 hoff8 hHeld (fun b hb => (RowE.own hr4 b hb).1)) (fun hHeld => ?_)
      clear hK K
      try simp only [Act.put, List.getElem_toArray, List.getElem_cons_succ, List.getElem_cons_zero, List.setIfInBounds_toArray, List.set_cons_zero, List.set_cons_succ]
      refine wpAnyH_take (i := 9) (v := ?_) rfl (by kernel_rfl) (by kernel_rfl) (by kernel_rfl) (fun _ _ _ h => h) (Or.inl ⟨by rfl, ?_⟩) (by assumption) ?_
      rotate_left 1
      · (intro W hW; clear hW; go_simp; try with_reducible rfl)
      simp only [Act.put, List.getElem_toArray, List.getElem_cons_succ, List.getElem_cons_zero, List.setIfInBounds_toArray, List.set_cons_zero, List.set_cons_succ]
      refine wpAnyH_done (by kernel_rfl) ?_ _
      go_wp2_with fail
      have hsd8 := hHeld.drew
      refine wp_region_held_drew (S := fun W => Since w0 W) (by kernel_rfl) hsd8 (fun hHeld => ?_)
      have hr8 : RowE encB 1 w8.drew w0.heap.size 5 _ _ := RowE.since hr8 (Since.refl w8).drew
      generalize w8.drew = wy at hHeld hr8 ⊢
      refine wpAnyH_take (i := 0) (v := ?_) rfl (by kernel_rfl) (by kernel_rfl) (by kernel_rfl) (fun _ _ _ h => h) (Or.inl ⟨by rfl, ?_⟩) (by assumption) ?_
      rotate_left 1
      · (intro W hW; clear hW; go_simp; try with_reducible rfl)
      simp only [Act.put, List.getElem_toArray, List.getElem_cons_zero, List.setIfInBounds_toArray, List.set_cons_zero, List.set_cons_succ]
      refine wpAnyH_take (i := 1) (v := ?_) rfl (by kernel_rfl) (by kernel_rfl) (by kernel_rfl) (fun _ _ _ h => h) (Or.inl ⟨by rfl, ?_⟩) (by assumption) ?_
      rotate_left 1
      · (intro W hW; clear hW; go_simp; try with_reducible rfl)
      simp only [Act.put, List.getElem_toArray, List.getElem_cons_succ, List.getElem_cons_zero, List.setIfInBounds_toArray, List.set_cons_zero, List.set_cons_succ]
      refine wpAnyH_take (i := 2) (v := ?_) rfl (by kernel_rfl) (by kernel_rfl) (by kernel_rfl) (fun _ _ _ h => h) (Or.inl ⟨by rfl, ?_⟩) (by assumption) ?_
      rotate_left 1
      · (intro W hW; skip; go_simp; try with_reducible rfl)
      simp only [Act.put, List.getElem_toArray, List.getElem_cons_succ, List.getElem_cons_zero, List.setIfInBounds_toArray, List.set_cons_zero, List.set_cons_succ]
      refine wpAnyH_take (i := 5) (v := ?_) rfl (by kernel_rfl) (by kernel_rfl) (by kernel_rfl) (fun _ _ _ h => h) (Or.inl ⟨by rfl, ?_⟩) (by assumption) ?_
      rotate_left 1
      · (intro W hW; clear hW; go_simp; try with_reducible rfl)
      simp only [Act.put, List.getElem_toArray, List.getElem_cons_succ, List.getElem_cons_zero, List.setIfInBounds_toArray, List.set_cons_zero, List.set_cons_succ]
      refine wpAnyH_take (i := 6) (v := ?_) rfl (by kernel_rfl) (by kernel_rfl) (by kernel_rfl) (fun _ _ _ h => h) (Or.inl ⟨by rfl, ?_⟩) (by assumption) ?_
      rotate_left 1
      · (intro W hW; skip; go_simp; try with_reducible rfl)
      simp only [Act.put, List.getElem_toArray, List.getElem_cons_succ, List.getElem_cons_zero, List.setIfInBounds_toArray, List.set_cons_zero, List.set_cons_succ]
      refine wpAnyH_ready (rs := [3]) (by kernel_rfl) (by simp) ?_
      refine AllReadyH.cons rfl (fun K hK => ?_) AllReadyH.nil
      go_simp
      refine (refNum_any _ _).mono ?_
      rintro e wc ⟨vc, rfl, hoc, hbc⟩
      obtain ⟨xc, mc, dc, rfl⟩ := RowE.shape3 (own_row.1 hoc)
      have hr8 := RowE.since hr8 hbc
      have hltc := fun b hb => (RowE.own hr8 b hb).2
      go_wp2_with fail
      refine hK.out _ _ (Since.trans hHeld hbc) (fun hHeld => ?_)
      clear hK K
      try simp only [Act.put, List.getElem_toArray, List.getElem_cons_succ, List.getElem_cons_zero, List.setIfInBounds_toArray, List.set_cons_zero, List.set_cons_succ]
      refine wpAnyH_ready (rs := [4]) (by kernel_rfl) (by simp) ?_
      refine AllReadyH.cons rfl (fun K hK => ?_) AllReadyH.nil
      refine step_append_val rfl (.tmp 36) (.tmp 39) 31 rfl w0.heap.size 5 _ 1 Tryd.underlying31 byte_info rfl (by decide) hr8 (RowE.part (own_row.1 hoc) encB_len) encB_len encB_one rfl rfl (HLN.out.2.2.1) (by decide) hHeld.size_ ?_
      intro vd wd hrd hoffd
      obtain ⟨xd, md, cd, rfl⟩ := RowE.shape3 hrd
      refine hK.out _ _ (off_since2 hoffd hHeld (fun b hb => (RowE.own hr8 b hb).1)) (fun hHeld => ?_)
      clear hK K
      try simp only [Act.put, List.getElem_toArray, List.getElem_cons_succ, List.getElem_cons_zero, List.setIfInBounds_toArray, List.set_cons_zero, List.set_cons_succ]
      refine wpAnyH_ready (rs := [7]) (by kernel_rfl) (by simp) ?_
      refine AllReadyH.cons rfl (fun K hK => ?_) AllReadyH.nil
      go_simp
      refine (refPutChain_yes (HC0.out _ (hs0.trans hHeld)) (Nat.le_trans HB.out.1 (hs0.trans hHeld).size_) HB.out.2).mono ?_
      rintro e wg ⟨xg, mg, dg, rfl, hhg, hbg⟩
      have hog := hhg.own
      have hrd := RowE.since hrd hbg
      go_wp2_with fail
      refine hK.out _ _ (Since.trans hHeld hbg) (fun hHeld => ?_)
      clear hK K
      try simp only [Act.put, List.getElem_toArray, List.getElem_cons_succ, List.getElem_cons_zero, List.setIfInBounds_toArray, List.set_cons_zero, List.set_cons_succ]
      refine wpAnyH_ready (rs := [8]) (by kernel_rfl) (by simp) ?_
      refine AllReadyH.cons rfl (fun K hK => ?_) AllReadyH.nil
      refine step_append_val rfl (.tmp 40) (.tmp 43) 31 rfl w0.heap.size 5 _ 1 Tryd.underlying31 byte_info rfl (by decide) hrd (RowE.part (own_row.1 hog) encB_len) encB_len encB_one rfl rfl (HLN.out.2.2.2) (by decide) hHeld.size_ ?_
      intro vh wh hrh hoffh
      obtain ⟨xh, mh, ch, rfl⟩ := RowE.shape3 hrh
      refine hK.out _ _ (off_since2 hoffh hHeld (fun b hb => (RowE.own hrd b hb).1)) (fun hHeld => ?_)
      clear hK K
      try simp only [Act.put, List.getElem_toArray, List.getElem_cons_succ, List.getElem_cons_zero, List.setIfInBounds_toArray, List.set_cons_zero, List.set_cons_succ]
      refine wpAnyH_take (i := 9) (v := ?_) rfl (by kernel_rfl) (by kernel_rfl) (by kernel_rfl) (fun _ _ _ h => h) (Or.inl ⟨by rfl, ?_⟩) (by assumption) ?_
      rotate_left 1
      · (intro W hW; clear hW; go_simp; try with_reducible rfl)
      simp only [Act.put, List.getElem_toArray, List.getElem_cons_succ, List.getElem_cons_zero, List.setIfInBounds_toArray, List.set_cons_zero, List.set_cons_succ]
      refine wpAnyH_done (by kernel_rfl) ?_ _
      obtain ⟨Ah, nh, ch2, eh, hhh⟩ := Own.has (own_row.2 hrh)
      obtain ⟨rfl, rfl, rfl⟩ : Ah = xh ∧ nh = mh ∧ ch2 = ch := by injection eh with e1 e2 e3; exact ⟨e1.symm, e2.symm, e3.symm⟩
      clear eh
      go_wp2
      go_ret
      refine ⟨_, _, _, rfl, ?_, hs0.trans hHeld⟩
      have e9 : (((numL kind ++ numL nd) ++ numL ep) ++ numL bx) ++ chainL l = numL kind ++ ([nd, ep, bx].flatMap numL ++ chainL l) := by simp
      rw [e9] at hhh
      exact hhh.lower hs0.size_
end
end Go.Proofs.YtimmnmidhjbanaaDoor
