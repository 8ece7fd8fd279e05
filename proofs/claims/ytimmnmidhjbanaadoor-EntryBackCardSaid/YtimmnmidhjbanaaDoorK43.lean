/- The walk of the law EntryBack. -/
import Derived.Test.YtimmnmidhjbanaaDoorK18
import Derived.Test.YtimmnmidhjbanaaDoorK24
import Derived.Test.YtimmnmidhjbanaaDoorK32
import Derived.Test.YtimmnmidhjbanaaDoorK40
import Derived.Test.YtimmnmidhjbanaaDoorK41
import Derived.Test.YtimmnmidhjbanaaDoorK42
namespace Go.Proofs.YtimmnmidhjbanaaDoor
open Go.RowKit
set_option linter.unusedVariables false
set_option linter.unusedSimpArgs false
theorem readEnt_len11 (s : RSt) : (readEnt s).1.2.length ≤ 8 := by
  have h := readRaw_len s
  unfold readEnt
  dsimp only
  split
  · exact h
  · simp
theorem entL_pos {e : En} {l : List Int} (h : rightB e l = true) : 0 < (entL e l).length := by
  have hk : 0 ≤ e.kind ∧ e.kind ≤ 9007199254740992 := by
    unfold rightB at h
    split at h
    · omega
    · split at h
      · omega
      · split at h
        · omega
        · cases h
  have := numL_pos hk
  unfold entL
  rw [List.length_append]
  omega
theorem entL_len {e : En} {l : List Int} (h : rightB e l = true) : (entL e l).length ≤ 10000 := by
  have h1 := contL_len h
  have h2 := numL_len e.kind
  unfold entL
  rw [List.length_append]
  omega
section
variable {B : Nat} {kind ok x y : Int} {key val : ByteArray} {cl seq nd ep bx : Int} {ca : Option Addr} {cn cc : Nat} {l : List Int} {w : World}
theorem put11_at (h : LZ B w (.slice ca cn cc) l) (hB : B ≤ w.heap.size) (hl : l.length ≤ 1000) {b : Bool} {L : List UInt8} {E : Int} (hb : rightB (⟨kind, ok, x, y, key, val, cl, seq, nd, ep, bx⟩ : En) l = b) (hL : (if b then entL (⟨kind, ok, x, y, key, val, cl, seq, nd, ep, bx⟩ : En) l else []) = L) (hE : (if b then 0 else 1) = E) :
    Calls Tryd.prog 9 #[.agg #[.int .i64 kind, .int .i64 ok, .int .i64 x, .int .i64 y, .string key, .string val, .int .i64 cl, .int .i64 seq, .int .i64 nd, .int .i64 ep, .int .i64 bx, .slice ca cn cc]] w (SliceNumPost w.heap.size L E w) := by
  subst hL; subst hE
  cases b with
  | true => exact put11_yes h hB hl hb
  | false =>
    refine (put11_no h hB hl hb).mono ?_
    rintro e w' ⟨rfl, h⟩
    exact ⟨none, 0, 0, rfl, Has.nil _ _, h⟩
end
section
variable {kind ok x y : Int} {key val : ByteArray} {cl seq nd ep bx : Int} {ca : Option Addr} {cn cc : Nat} {l : List Int} {A0 : Option Addr} {n0 c0 : Nat} {w : World}
set_option maxRecDepth 100000 in
set_option maxHeartbeats 3200000 in
theorem eback_heavy (hl : lightB11 key val cn = false) : Calls Tryd.prog 5 #[.agg #[.int .i64 kind, .int .i64 ok, .int .i64 x, .int .i64 y, .string key, .string val, .int .i64 cl, .int .i64 seq, .int .i64 nd, .int .i64 ep, .int .i64 bx, .slice ca cn cc], .slice A0 n0 c0] w fun e w' => e = .returned (.bool true) ∧ Below w.heap.size w w' := by
  have HL := Lib.hid hl
  clear hl
  obtain ⟨w0, hw0⟩ : ∃ w0, w0 = w.alloc (.cells #[.int .i64 kind, .int .i64 ok, .int .i64 x, .int .i64 y, .string key, .string val, .int .i64 cl, .int .i64 seq, .int .i64 nd, .int .i64 ep, .int .i64 bx, .slice ca cn cc] 28) := ⟨_, rfl⟩
  have hs0 : Since w w0 := by rw [hw0]; exact (Since.refl w).alloc _
  have wh0 : Whole w0 (w.heap.size) 28 #[.int .i64 kind, .int .i64 ok, .int .i64 x, .int .i64 y, .string key, .string val, .int .i64 cl, .int .i64 seq, .int .i64 nd, .int .i64 ep, .int .i64 bx, .slice ca cn cc] := by rw [hw0]; exact Whole.new w _ _
  have HW := Lib.hid hw0
  have c0_0 := box_cell wh0 0 (.int .i64 kind) rfl
  have c0_1 := box_cell wh0 1 (.int .i64 ok) rfl
  have c0_2 := box_cell wh0 2 (.int .i64 x) rfl
  have c0_3 := box_cell wh0 3 (.int .i64 y) rfl
  have c0_4 := box_cell wh0 4 (.string key) rfl
  have c0_5 := box_cell wh0 5 (.string val) rfl
  have c0_6 := box_cell wh0 6 (.int .i64 cl) rfl
  have c0_7 := box_cell wh0 7 (.int .i64 seq) rfl
  have c0_8 := box_cell wh0 8 (.int .i64 nd) rfl
  have c0_9 := box_cell wh0 9 (.int .i64 ep) rfl
  have c0_10 := box_cell wh0 10 (.int .i64 bx) rfl
  have c0_11 := box_cell wh0 11 (.slice ca cn cc) rfl
  have hsr := Since.refl w0
  have hsd := hsr.drew
  clear hw0 wh0
  go_enter Tryd.func5, Tryd.ntmps5
  go_wp2_with fail
  rw [← HW.out]
  go_wp2_with fail
  refine (light11_any kind ok x y key val cl seq nd ep bx ca cn cc HL.out _).mono ?_
  rintro e w1 ⟨rfl, hb1⟩
  have hs1 : Since w0 w1 := hb1
  go_wp2_with fail
  refine (knows11_any _).mono ?_
  rintro e w2 ⟨rfl, hb2⟩
  go_wp2
  go_ret
  exact ⟨rfl, (hs0.trans hs1).trans hb2⟩
set_option maxRecDepth 100000 in
set_option maxHeartbeats 3200000 in
theorem eback_wide (hl : lightB11 key val cn = true) (h3 : 300 < n0) : Calls Tryd.prog 5 #[.agg #[.int .i64 kind, .int .i64 ok, .int .i64 x, .int .i64 y, .string key, .string val, .int .i64 cl, .int .i64 seq, .int .i64 nd, .int .i64 ep, .int .i64 bx, .slice ca cn cc], .slice A0 n0 c0] w fun e w' => e = .returned (.bool true) ∧ Below w.heap.size w w' := by
  have HL := Lib.hid hl
  clear hl
  obtain ⟨w0, hw0⟩ : ∃ w0, w0 = w.alloc (.cells #[.int .i64 kind, .int .i64 ok, .int .i64 x, .int .i64 y, .string key, .string val, .int .i64 cl, .int .i64 seq, .int .i64 nd, .int .i64 ep, .int .i64 bx, .slice ca cn cc] 28) := ⟨_, rfl⟩
  have hs0 : Since w w0 := by rw [hw0]; exact (Since.refl w).alloc _
  have wh0 : Whole w0 (w.heap.size) 28 #[.int .i64 kind, .int .i64 ok, .int .i64 x, .int .i64 y, .string key, .string val, .int .i64 cl, .int .i64 seq, .int .i64 nd, .int .i64 ep, .int .i64 bx, .slice ca cn cc] := by rw [hw0]; exact Whole.new w _ _
  have HW := Lib.hid hw0
  have c0_0 := box_cell wh0 0 (.int .i64 kind) rfl
  have c0_1 := box_cell wh0 1 (.int .i64 ok) rfl
  have c0_2 := box_cell wh0 2 (.int .i64 x) rfl
  have c0_3 := box_cell wh0 3 (.int .i64 y) rfl
  have c0_4 := box_cell wh0 4 (.string key) rfl
  have c0_5 := box_cell wh0 5 (.string val) rfl
  have c0_6 := box_cell wh0 6 (.int .i64 cl) rfl
  have c0_7 := box_cell wh0 7 (.int .i64 seq) rfl
  have c0_8 := box_cell wh0 8 (.int .i64 nd) rfl
  have c0_9 := box_cell wh0 9 (.int .i64 ep) rfl
  have c0_10 := box_cell wh0 10 (.int .i64 bx) rfl
  have c0_11 := box_cell wh0 11 (.slice ca cn cc) rfl
  have hsr := Since.refl w0
  have hsd := hsr.drew
  clear hw0 wh0
  go_enter Tryd.func5, Tryd.ntmps5
  go_wp2_with fail
  rw [← HW.out]
  go_wp2_with fail
  refine (light11_any kind ok x y key val cl seq nd ep bx ca cn cc HL.out _).mono ?_
  rintro e w1 ⟨rfl, hb1⟩
  have hs1 : Since w0 w1 := hb1
  go_wp2_with fail
  refine (knows11_any _).mono ?_
  rintro e w2 ⟨rfl, hb2⟩
  go_wp2
  go_ret
  exact ⟨rfl, (hs0.trans hs1).trans hb2⟩
set_option maxRecDepth 100000 in
set_option maxHeartbeats 25600000 in
theorem eback_short (h : LZ w.heap.size w (.slice ca cn cc) l) (hl : lightB11 key val cn = true) (b : List UInt8) (hr : Rd w w.heap.size A0 b) (hn : b.length = n0) (hc : n0 ≤ c0) (h3 : n0 ≤ 300) (hA : Seen A0 n0 c0) : Calls Tryd.prog 5 #[.agg #[.int .i64 kind, .int .i64 ok, .int .i64 x, .int .i64 y, .string key, .string val, .int .i64 cl, .int .i64 seq, .int .i64 nd, .int .i64 ep, .int .i64 bx, .slice ca cn cc], .slice A0 n0 c0] w fun e w' => e = .returned (.bool true) ∧ Below w.heap.size w w' := by
  have h40 := light11_len hl
  have hln := h.len
  have HLT := Lib.hid hl
  have HC0 := Lib.hid (fun W (hW : Since w W) => h.since hW (Nat.le_refl _))
  have HL8 := Lib.hid (show l.length ≤ 1000 by omega)
  have HN := Lib.hid hn
  have HA := Lib.hid hA
  have HRD := Lib.hid hr
  have hlf : leftOf b.length 0 = (n0 : Int) := by unfold leftOf; rw [if_pos rfl, hn]
  obtain ⟨r, hrb⟩ : ∃ r, rightB (⟨kind, ok, x, y, key, val, cl, seq, nd, ep, bx⟩ : En) l = r := ⟨_, rfl⟩
  obtain ⟨LE, hLE⟩ : ∃ L, (if r then entL (⟨kind, ok, x, y, key, val, cl, seq, nd, ep, bx⟩ : En) l else []) = L := ⟨_, rfl⟩
  obtain ⟨E0, hE0⟩ : ∃ E : Int, (if r then 0 else 1) = E := ⟨_, rfl⟩
  have eq0 : (E0 == 0) = r := by rw [← hE0]; cases r <;> rfl
  have HM : Hid (LE.length ≤ 10000) := by
    unfold Hid
    rw [← hLE]
    cases hq : r with
    | true => rw [if_pos rfl]; exact entL_len (hrb.trans hq)
    | false => simp
  have HB := Lib.hid hrb
  have HLE := Lib.hid hLE
  have HE := Lib.hid hE0
  clear h hl hln hn hA hr hrb hLE hE0
  obtain ⟨w0, hw0⟩ : ∃ w0, w0 = w.alloc (.cells #[.int .i64 kind, .int .i64 ok, .int .i64 x, .int .i64 y, .string key, .string val, .int .i64 cl, .int .i64 seq, .int .i64 nd, .int .i64 ep, .int .i64 bx, .slice ca cn cc] 28) := ⟨_, rfl⟩
  have hs0 : Since w w0 := by rw [hw0]; exact (Since.refl w).alloc _
  have wh0 : Whole w0 (w.heap.size) 28 #[.int .i64 kind, .int .i64 ok, .int .i64 x, .int .i64 y, .string key, .string val, .int .i64 cl, .int .i64 seq, .int .i64 nd, .int .i64 ep, .int .i64 bx, .slice ca cn cc] := by rw [hw0]; exact Whole.new w _ _
  have HW := Lib.hid hw0
  have c0_0 := box_cell wh0 0 (.int .i64 kind) rfl
  have c0_1 := box_cell wh0 1 (.int .i64 ok) rfl
  have c0_2 := box_cell wh0 2 (.int .i64 x) rfl
  have c0_3 := box_cell wh0 3 (.int .i64 y) rfl
  have c0_4 := box_cell wh0 4 (.string key) rfl
  have c0_5 := box_cell wh0 5 (.string val) rfl
  have c0_6 := box_cell wh0 6 (.int .i64 cl) rfl
  have c0_7 := box_cell wh0 7 (.int .i64 seq) rfl
  have c0_8 := box_cell wh0 8 (.int .i64 nd) rfl
  have c0_9 := box_cell wh0 9 (.int .i64 ep) rfl
  have c0_10 := box_cell wh0 10 (.int .i64 bx) rfl
  have c0_11 := box_cell wh0 11 (.slice ca cn cc) rfl
  have hsr := Since.refl w0
  have hsd := hsr.drew
  clear hw0 wh0
  go_enter Tryd.func5, Tryd.ntmps5
  go_wp2_with fail
  rw [← HW.out]
  go_wp2_with fail
  refine (light11_any kind ok x y key val cl seq nd ep bx ca cn cc HLT.out _).mono ?_
  rintro e w1 ⟨rfl, hb1⟩
  have hs1 : Since w0 w1 := hb1
  go_wp2_with fail
  refine (own11_any (HC0.out _ (hs0.trans hs1)) (hs0.trans hs1).size_ HL8.out).mono ?_
  rintro e w2 ⟨xa, na, da, rfl, hra, hb2⟩
  have hs2 : Since w0 w2 := hs1.trans hb2
  go_wp2_with fail
  refine (put11_at (RZ.lz hra) (Nat.le_refl _) HL8.out HB.out HLE.out HE.out).mono ?_
  rintro e wz ⟨A3, n3, c3, rfl, hh3, hb3⟩
  have hSz : Since w0 wz := hs2.trans hb3
  have HH := Lib.hid hh3
  have HR0 : Hid (Rd wz wz.heap.size A0 b) := (HRD.out.below (hs0.trans hSz) (Nat.le_refl _)).more (hs0.trans hSz).size_
  have hS0 : Since wz wz := Since.refl wz
  have hZz := (hs0.trans hSz).size_
  clear hra hb1 hb2 hb3 hs1 hs2 hh3 hsr hsd
  cases r with
  | false =>
    skip
    clear c0_0 c0_1 c0_2 c0_3 c0_4 c0_5 c0_6 c0_7 c0_8 c0_9 c0_10 c0_11
    obtain ⟨⟨⟨⟨kind2, ok2, x2, y2, key2, val2, cl2, seq2, nd2, ep2, bx2⟩, l2⟩, t⟩, hrd⟩ : ∃ r, readEnt (b, 0) = r := ⟨_, rfl⟩
    have hl8 := readEnt_len11 (b, 0)
    rw [hrd] at hl8
    have HL9 := Lib.hid (show l2.length ≤ 1000 by dsimp only at hl8; omega)
    clear hl8
    obtain ⟨B2, hB⟩ : ∃ b, rightB (⟨kind2, ok2, x2, y2, key2, val2, cl2, seq2, nd2, ep2, bx2⟩ : En) l2 = b := ⟨_, rfl⟩
    obtain ⟨L2, hL⟩ : ∃ L, (if B2 then entL (⟨kind2, ok2, x2, y2, key2, val2, cl2, seq2, nd2, ep2, bx2⟩ : En) l2 else []) = L := ⟨_, rfl⟩
    obtain ⟨E2, hE⟩ : ∃ e : Int, (if B2 then 0 else 1) = e := ⟨_, rfl⟩
    have HC2 : Hid (t.2 = 0 → B2 = true ∧ b = L2 ++ t.1 ∧ 0 < L2.length) := by
      unfold Hid
      intro h0
      obtain ⟨h1, h2⟩ := readEnt_came hrd h0
      have h3 : B2 = true := hB.symm.trans h1
      have h4 : entL (⟨kind2, ok2, x2, y2, key2, val2, cl2, seq2, nd2, ep2, bx2⟩ : En) l2 = L2 := by rw [← hL, h3, if_pos rfl]
      rw [h4] at h2
      exact ⟨h3, h2, by rw [← h4]; exact entL_pos h1⟩
    have hEz : B2 = true → E2 = 0 := fun h => by rw [← hE, h]; rfl
    have HEz := Lib.hid hEz
    have HRDp := Lib.hid hrd
    have HBp := Lib.hid hB
    have HLp := Lib.hid hL
    have HEp := Lib.hid hE
    clear hrd hB hL hE hEz
    have hxr := HR0.out.below (hS0.trans ((Since.refl _).alloc (.cells #[] 5))) (Nat.le_refl _)
    go_wp2_with (first | (go_at_call 19; (with_reducible refine (num11_any _ _).mono ?_); rintro e w' ⟨rfl, rfl⟩) | (at_builtin; refine wpList_grow _ rfl (.tmp 48) (.tmp 49) _ rfl wz.heap.size _ [] rfl (own_lit wz wz.heap.size _ [] rfl (by simp) (Nat.le_refl _)) _ b rfl (src_at n0 c0 hxr HN.out) (by have := HN.out; simp; omega) (by simp) ?_; intro AY nY cY wY hY hbY))
    rw [List.nil_append] at hY
    have hWY : Since wz wY := Below.trans hS0 (Below.mono (((Below.refl _ _).alloc (Nat.le_refl _) _).trans hbY) hS0.size_)
    have hYl := hY.len
    refine (open_any AY nY cY _ wY hY.rd hY.len (by have := HN.out; (try simp at hYl); omega)).mono ?_
    rintro e wP ⟨gP, A9, n9, c9, rfl, hP, hbP⟩
    have hlP : wz.heap.size ≤ gP := Nat.le_trans hWY.size_ hP.lie
    have hWP : Since wz wP := hWY.trans hbP
    go_wp2_with fail
    refine (take11_any (s := (b, 0)) ⟨_, _, _, hP⟩ HRDp.out).mono ?_
    rintro z wa ⟨xc, nc, dc, rfl, hrc, hPa, hoa⟩
    have hWa : Since wz wa := Below.trans hWP (Off.below hoa hWP.size_ (fun b z => by subst z; exact hlP))
    go_wp2_with fail
    refine (put11_at (RZ.lz hrc) (Nat.le_refl _) HL9.out HBp.out HLp.out HEp.out).mono ?_
    rintro e wb ⟨Ap, np, cp, rfl, hhp, hbb⟩
    have hWb : Since wz wb := hWa.trans hbb
    have hPb := hPa.since hbb
    clear hPa hoa hbb hWa hWP hP hbP hY hYl hbY hWY hrc
    have txp := fun W (hW : Since wb W) => text_of W np cp (hhp.rd.below hW (Nat.le_refl _)) hhp.len
    clear hhp hxr
    have hdr : Since wb wb.drew := (Since.refl wb).drew
    go_wp2_with fail
    obtain ⟨wq, hwq⟩ : ∃ wq, wq = wb.drew := ⟨_, rfl⟩
    have hPq := hPb.since hdr
    by_cases h0 : t.2 = 0
    · have z0 : (t.2 == 0) = true := by simp [h0]
      have z1 : (t.2 != 0) = false := by simp [h0]
      obtain ⟨hB1, hbl, hLp⟩ := HC2.out h0
      have hEE := HEz.out hB1
      have hsum : n0 = L2.length + t.1.length := by rw [← HN.out, hbl, List.length_append]
      have htk : b.take L2.length = L2 := by rw [hbl, List.take_left]
      obtain ⟨k, hk⟩ : ∃ k, k = L2.length := ⟨_, rfl⟩
      obtain ⟨m, hm⟩ : ∃ m, m = t.1.length := ⟨_, rfl⟩
      rw [← hm] at hsum
      have hLe : leftOf t.1.length t.2 = (m : Int) := by unfold leftOf; rw [if_pos h0, hm]
      rw [← hk] at hsum htk hLp
      have s1 : wrap64 ((n0 : Int) - (m : Int)) = (k : Int) := by rw [IntWalk.wrap64_in _ ⟨by omega, by omega⟩]; omega
      have s2 : IntKind.i64.wrap ((n0 : Int) - (m : Int)) = (k : Int) := by rw [IntWalk.i64_in _ (by omega)]; omega
      have g1 : decide ((n0 : Int) < (m : Int)) = false := by simp; omega
      have g2 : decide ((m : Int) ≤ (n0 : Int)) = true := by simp; omega
      have g4 : decide (n0 < m) = false := by simp; omega
      have g5 : decide (m ≤ n0) = true := by simp; omega
      have g3 : (k : Int) ≤ (c0 : Int) := by omega
      have e0 : (E2 == 0) = true := by simp [hEE]
      have e1 : (E2 != 0) = false := by simp [hEE]
      have txr := fun W (hW : Since wb W) => text_of W k c0 ((HR0.out.below (hWb.trans hW) (Nat.le_refl _)).take k) (by rw [htk]; exact hk.symm)
      rw [htk] at txr
      rcases A0 with _ | ad
      · exfalso
        have := HR0.out.none_nil
        have h9 := HN.out
        rw [this] at h9
        simp at h9
        omega
      · clear h0 hbl htk hsum hk hm hEE hB1 hLp
        refine wp_region_held_drew (S := fun W => Since wb W) (by kernel_rfl) hdr (fun hHeld => ?_)
        rw [← hwq] at hHeld hPq ⊢
        have hq : Since wb wq := hHeld
        clear hwq hdr
        refine wpAnyH_take (i := 0) (v := ?_) rfl (by kernel_rfl) (by kernel_rfl) (by kernel_rfl) (fun _ _ _ h => h) (Or.inl ⟨by rfl, ?_⟩) (by assumption) ?_
        rotate_left 1
        · (intro W hW; clear hW; go_simp; try with_reducible rfl)
        simp only [Act.put, List.getElem_toArray, List.getElem_cons_zero, List.setIfInBounds_toArray, List.set_cons_zero, List.set_cons_succ]
        refine wpAnyH_ready (rs := [1]) (by kernel_rfl) (by simp) ?_
        refine AllReadyH.cons rfl (fun K hK => ?_) AllReadyH.nil
        go_simp
        refine (errP hPq).mono ?_
        rintro z w9 ⟨rfl, rfl⟩
        go_wp2_with fail
        refine hK.out _ _ (hq) (fun hHeld => ?_)
        clear hK K
        try simp only [Act.put, List.getElem_toArray, List.getElem_cons_succ, List.getElem_cons_zero, List.setIfInBounds_toArray, List.set_cons_zero, List.set_cons_succ]
        refine wpAnyH_ready (rs := [2]) (by kernel_rfl) (by simp) ?_
        refine AllReadyH.cons rfl (fun K hK => ?_) AllReadyH.nil
        go_simp
        refine (num11_any _ _).mono ?_
        rintro z w9 ⟨rfl, rfl⟩
        go_wp2_with fail
        refine hK.out _ _ (hq) (fun hHeld => ?_)
        clear hK K
        try simp only [Act.put, List.getElem_toArray, List.getElem_cons_succ, List.getElem_cons_zero, List.setIfInBounds_toArray, List.set_cons_zero, List.set_cons_succ]
        refine wpAnyH_take (i := 3) (v := ?_) rfl (by kernel_rfl) (by kernel_rfl) (by kernel_rfl) (fun _ _ _ h => h) (Or.inl ⟨by rfl, ?_⟩) (by assumption) ?_
        rotate_left 1
        · (intro W hW; clear hW; go_simp; try with_reducible rfl)
        simp only [Act.put, List.getElem_toArray, List.getElem_cons_succ, List.getElem_cons_zero, List.setIfInBounds_toArray, List.set_cons_zero, List.set_cons_succ]
        refine wpAnyH_take (i := 4) (v := ?_) rfl (by kernel_rfl) (by kernel_rfl) (by kernel_rfl) (fun _ _ _ h => h) (Or.inl ⟨by rfl, ?_⟩) (by assumption) ?_
        rotate_left 1
        · (intro W hW; clear hW; go_simp; try with_reducible rfl)
        simp only [Act.put, List.getElem_toArray, List.getElem_cons_succ, List.getElem_cons_zero, List.setIfInBounds_toArray, List.set_cons_zero, List.set_cons_succ]
        refine wpAnyH_take (i := 5) (v := ?_) rfl (by kernel_rfl) (by kernel_rfl) (by kernel_rfl) (fun _ _ _ h => h) (Or.inl ⟨by rfl, ?_⟩) (by assumption) ?_
        rotate_left 1
        · (intro W hW; clear hW; go_simp; try with_reducible rfl)
        simp only [Act.put, List.getElem_toArray, List.getElem_cons_succ, List.getElem_cons_zero, List.setIfInBounds_toArray, List.set_cons_zero, List.set_cons_succ]
        refine wpAnyH_ready (rs := [6]) (by kernel_rfl) (by simp) ?_
        refine AllReadyH.cons rfl (fun K hK => ?_) AllReadyH.nil
        go_simp
        refine (num11_any _ _).mono ?_
        rintro z w9 ⟨rfl, rfl⟩
        go_wp2_with fail
        refine hK.out _ _ (hq) (fun hHeld => ?_)
        clear hK K
        try simp only [Act.put, List.getElem_toArray, List.getElem_cons_succ, List.getElem_cons_zero, List.setIfInBounds_toArray, List.set_cons_zero, List.set_cons_succ]
        refine wpAnyH_take (i := 7) (v := ?_) rfl (by kernel_rfl) (by kernel_rfl) (by kernel_rfl) (fun _ _ _ h => h) (Or.inl ⟨by rfl, ?_⟩) (by assumption) ?_
        rotate_left 1
        · (intro W hW; clear hW; go_simp; try with_reducible rfl)
        simp only [Act.put, List.getElem_toArray, List.getElem_cons_succ, List.getElem_cons_zero, List.setIfInBounds_toArray, List.set_cons_zero, List.set_cons_succ]
        refine wpAnyH_take (i := 8) (v := ?_) rfl (by kernel_rfl) (by kernel_rfl) (by kernel_rfl) (fun _ _ _ h => h) (Or.inl ⟨by rfl, ?_⟩) (by assumption) ?_
        rotate_left 1
        · (intro W hW; clear hW; go_simp; try with_reducible rfl)
        simp only [Act.put, List.getElem_toArray, List.getElem_cons_succ, List.getElem_cons_zero, List.setIfInBounds_toArray, List.set_cons_zero, List.set_cons_succ]
        refine wpAnyH_take (i := 9) (v := ?_) rfl (by kernel_rfl) (by kernel_rfl) (by kernel_rfl) (fun _ _ _ h => h) (Or.inl ⟨by rfl, ?_⟩) (by assumption) ?_
        rotate_left 1
        · (intro W hW; clear hW; go_simp; try with_reducible rfl)
        simp only [Act.put, List.getElem_toArray, List.getElem_cons_succ, List.getElem_cons_zero, List.setIfInBounds_toArray, List.set_cons_zero, List.set_cons_succ]
        refine wpAnyH_take (i := 11) (v := ?_) rfl (by kernel_rfl) (by kernel_rfl) (by kernel_rfl) (fun _ _ _ h => h) (Or.inl ⟨by rfl, ?_⟩) (by assumption) ?_
        rotate_left 1
        · (intro W hW; clear hW; go_simp; try with_reducible rfl)
        simp only [Act.put, List.getElem_toArray, List.getElem_cons_succ, List.getElem_cons_zero, List.setIfInBounds_toArray, List.set_cons_zero, List.set_cons_succ]
        refine wpAnyH_take (i := 12) (v := ?_) rfl (by kernel_rfl) (by kernel_rfl) (by kernel_rfl) (fun _ _ _ h => h) (Or.inl ⟨by rfl, ?_⟩) (by assumption) ?_
        rotate_left 1
        · (intro W hW; clear hW; go_simp; try with_reducible rfl)
        simp only [Act.put, List.getElem_toArray, List.getElem_cons_succ, List.getElem_cons_zero, List.setIfInBounds_toArray, List.set_cons_zero, List.set_cons_succ]
        refine wpAnyH_ready (rs := [10]) (by kernel_rfl) (by simp) ?_
        refine AllReadyH.cons rfl (fun K hK => ?_) AllReadyH.nil
        go_simp
        refine (leftP hPq).mono ?_
        rintro z w9 ⟨rfl, rfl⟩
        go_wp2_with fail
        refine hK.out _ _ (hq) (fun hHeld => ?_)
        clear hK K
        try simp only [Act.put, List.getElem_toArray, List.getElem_cons_succ, List.getElem_cons_zero, List.setIfInBounds_toArray, List.set_cons_zero, List.set_cons_succ]
        refine wpAnyH_take (i := 13) (v := ?_) rfl (by kernel_rfl) (by kernel_rfl) (by kernel_rfl) (fun _ _ _ h => h) (Or.inl ⟨by rfl, ?_⟩) (by assumption) ?_
        rotate_left 1
        · (intro W hW; clear hW; go_simp; try with_reducible rfl)
        simp only [Act.put, List.getElem_toArray, List.getElem_cons_succ, List.getElem_cons_zero, List.setIfInBounds_toArray, List.set_cons_zero, List.set_cons_succ]
        refine wpAnyH_take (i := 14) (v := ?_) rfl (by kernel_rfl) (by kernel_rfl) (by kernel_rfl) (fun _ _ _ h => h) (Or.inl ⟨by rfl, ?_⟩) (by assumption) ?_
        rotate_left 1
        · (intro W hW; clear hW; go_simp; try with_reducible rfl)
        simp only [Act.put, List.getElem_toArray, List.getElem_cons_succ, List.getElem_cons_zero, List.setIfInBounds_toArray, List.set_cons_zero, List.set_cons_succ]
        refine wpAnyH_take (i := 15) (v := ?_) rfl (by kernel_rfl) (by kernel_rfl) (by kernel_rfl) (fun _ _ _ h => h) (Or.inl ⟨by rfl, ?_⟩) (by assumption) ?_
        rotate_left 1
        · (intro W hW; clear hW; go_simp; try with_reducible rfl)
        simp only [Act.put, List.getElem_toArray, List.getElem_cons_succ, List.getElem_cons_zero, List.setIfInBounds_toArray, List.set_cons_zero, List.set_cons_succ]
        refine wpAnyH_take (i := 16) (v := ?_) rfl (by kernel_rfl) (by kernel_rfl) (by kernel_rfl) (fun _ _ _ h => h) (Or.inl ⟨by rfl, ?_⟩) (by assumption) ?_
        rotate_left 1
        · (intro W hW; clear hW; go_simp; try with_reducible rfl)
        simp only [Act.put, List.getElem_toArray, List.getElem_cons_succ, List.getElem_cons_zero, List.setIfInBounds_toArray, List.set_cons_zero, List.set_cons_succ]
        refine wpAnyH_take (i := 17) (v := ?_) rfl (by kernel_rfl) (by kernel_rfl) (by kernel_rfl) (fun _ _ _ h => h) (Or.inl ⟨by rfl, ?_⟩) (by assumption) ?_
        rotate_left 1
        · (intro W hW; skip; go_simp; try with_reducible rfl)
        simp only [Act.put, List.getElem_toArray, List.getElem_cons_succ, List.getElem_cons_zero, List.setIfInBounds_toArray, List.set_cons_zero, List.set_cons_succ]
        refine wpAnyH_take (i := 18) (v := ?_) rfl (by kernel_rfl) (by kernel_rfl) (by kernel_rfl) (fun _ _ _ h => h) (Or.inl ⟨by rfl, ?_⟩) (by assumption) ?_
        rotate_left 1
        · (intro W hW; clear hW; go_simp; try with_reducible rfl)
        simp only [Act.put, List.getElem_toArray, List.getElem_cons_succ, List.getElem_cons_zero, List.setIfInBounds_toArray, List.set_cons_zero, List.set_cons_succ]
        refine wpAnyH_take (i := 19) (v := ?_) rfl (by kernel_rfl) (by kernel_rfl) (by kernel_rfl) (fun _ _ _ h => h) (Or.inl ⟨by rfl, ?_⟩) (by assumption) ?_
        rotate_left 1
        · (intro W hW; clear hW; go_simp; try with_reducible rfl)
        simp only [Act.put, List.getElem_toArray, List.getElem_cons_succ, List.getElem_cons_zero, List.setIfInBounds_toArray, List.set_cons_zero, List.set_cons_succ]
        refine wpAnyH_take (i := 20) (v := ?_) rfl (by kernel_rfl) (by kernel_rfl) (by kernel_rfl) (fun _ _ _ h => h) (Or.inl ⟨by rfl, ?_⟩) (by assumption) ?_
        rotate_left 1
        · (intro W hW; clear hW; go_simp; try with_reducible rfl)
        simp only [Act.put, List.getElem_toArray, List.getElem_cons_succ, List.getElem_cons_zero, List.setIfInBounds_toArray, List.set_cons_zero, List.set_cons_succ]
        refine wpAnyH_take (i := 21) (v := ?_) rfl (by kernel_rfl) (by kernel_rfl) (by kernel_rfl) (fun _ _ _ h => h) (Or.inl ⟨by rfl, ?_⟩) (by assumption) ?_
        rotate_left 1
        · (intro W hW; clear hW; go_simp; try with_reducible rfl)
        simp only [Act.put, List.getElem_toArray, List.getElem_cons_succ, List.getElem_cons_zero, List.setIfInBounds_toArray, List.set_cons_zero, List.set_cons_succ]
        refine wpAnyH_ready (rs := [22]) (by kernel_rfl) (by simp) ?_
        refine AllReadyH.cons rfl (fun K hK => ?_) AllReadyH.nil
        go_simp
        refine (leftP hPq).mono ?_
        rintro z w9 ⟨rfl, rfl⟩
        go_wp2_with fail
        refine hK.out _ _ (hq) (fun hHeld => ?_)
        clear hK K
        try simp only [Act.put, List.getElem_toArray, List.getElem_cons_succ, List.getElem_cons_zero, List.setIfInBounds_toArray, List.set_cons_zero, List.set_cons_succ]
        refine wpAnyH_take (i := 23) (v := ?_) rfl (by kernel_rfl) (by kernel_rfl) (by kernel_rfl) (fun _ _ _ h => h) (Or.inl ⟨by rfl, ?_⟩) (by assumption) ?_
        rotate_left 1
        · (intro W hW; clear hW; go_simp; try with_reducible rfl)
        simp only [Act.put, List.getElem_toArray, List.getElem_cons_succ, List.getElem_cons_zero, List.setIfInBounds_toArray, List.set_cons_zero, List.set_cons_succ]
        refine wpAnyH_take (i := 24) (v := ?_) rfl (by kernel_rfl) (by kernel_rfl) (by kernel_rfl) (fun _ _ _ h => h) (Or.inl ⟨by rfl, ?_⟩) (by assumption) ?_
        rotate_left 1
        · (intro W hW; clear hW; go_simp; try with_reducible rfl)
        simp only [Act.put, List.getElem_toArray, List.getElem_cons_succ, List.getElem_cons_zero, List.setIfInBounds_toArray, List.set_cons_zero, List.set_cons_succ]
        refine wpAnyH_take (i := 25) (v := ?_) rfl (by kernel_rfl) (by kernel_rfl) (by kernel_rfl) (fun _ _ _ h => h) (Or.inl ⟨by rfl, ?_⟩) (by assumption) ?_
        rotate_left 1
        · (intro W hW; skip; go_simp; try with_reducible rfl)
        simp only [Act.put, List.getElem_toArray, List.getElem_cons_succ, List.getElem_cons_zero, List.setIfInBounds_toArray, List.set_cons_zero, List.set_cons_succ]
        refine wpAnyH_take (i := 26) (v := ?_) rfl (by kernel_rfl) (by kernel_rfl) (by kernel_rfl) (fun _ _ _ h => h) (Or.inl ⟨by rfl, ?_⟩) (by assumption) ?_
        rotate_left 1
        · (intro W hW; clear hW; go_simp; try with_reducible rfl)
        simp only [Act.put, List.getElem_toArray, List.getElem_cons_succ, List.getElem_cons_zero, List.setIfInBounds_toArray, List.set_cons_zero, List.set_cons_succ]
        refine wpAnyH_take (i := 27) (v := ?_) rfl (by kernel_rfl) (by kernel_rfl) (by kernel_rfl) (fun _ _ _ h => h) (Or.inl ⟨by rfl, ?_⟩) (by assumption) ?_
        rotate_left 1
        · (intro W hW; clear hW; go_simp; try with_reducible rfl)
        simp only [Act.put, List.getElem_toArray, List.getElem_cons_succ, List.getElem_cons_zero, List.setIfInBounds_toArray, List.set_cons_zero, List.set_cons_succ]
        refine wpAnyH_take (i := 28) (v := ?_) rfl (by kernel_rfl) (by kernel_rfl) (by kernel_rfl) (fun _ _ _ h => h) (Or.inl ⟨by rfl, ?_⟩) (by assumption) ?_
        rotate_left 1
        · (intro W hW; clear hW; go_simp; try with_reducible rfl)
        simp only [Act.put, List.getElem_toArray, List.getElem_cons_succ, List.getElem_cons_zero, List.setIfInBounds_toArray, List.set_cons_zero, List.set_cons_succ]
        refine wpAnyH_take (i := 29) (v := ?_) rfl (by kernel_rfl) (by kernel_rfl) (by kernel_rfl) (fun _ _ _ h => h) (Or.inl ⟨by rfl, ?_⟩) (by assumption) ?_
        rotate_left 1
        · (intro W hW; clear hW; go_simp; try with_reducible rfl)
        simp only [Act.put, List.getElem_toArray, List.getElem_cons_succ, List.getElem_cons_zero, List.setIfInBounds_toArray, List.set_cons_zero, List.set_cons_succ]
        refine wpAnyH_ready (rs := [30]) (by kernel_rfl) (by simp) ?_
        refine AllReadyH.cons rfl (fun K hK => ?_) AllReadyH.nil
        go_simp
        refine (knows11_any _).mono ?_
        rintro e wk ⟨rfl, hbk⟩
        go_wp2_with fail
        refine hK.out _ _ (hq.trans hbk) (fun hHeld => ?_)
        clear hK K
        try simp only [Act.put, List.getElem_toArray, List.getElem_cons_succ, List.getElem_cons_zero, List.setIfInBounds_toArray, List.set_cons_zero, List.set_cons_succ]
        refine wpAnyH_take (i := 31) (v := ?_) rfl (by kernel_rfl) (by kernel_rfl) (by kernel_rfl) (fun _ _ _ h => h) (Or.inl ⟨by rfl, ?_⟩) (by assumption) ?_
        rotate_left 1
        · (intro W hW; clear hW; go_simp; try with_reducible rfl)
        simp only [Act.put, List.getElem_toArray, List.getElem_cons_succ, List.getElem_cons_zero, List.setIfInBounds_toArray, List.set_cons_zero, List.set_cons_succ]
        refine wpAnyH_take (i := 32) (v := ?_) rfl (by kernel_rfl) (by kernel_rfl) (by kernel_rfl) (fun _ _ _ h => h) (Or.inl ⟨by rfl, ?_⟩) (by assumption) ?_
        rotate_left 1
        · (intro W hW; clear hW; go_simp; try with_reducible rfl)
        simp only [Act.put, List.getElem_toArray, List.getElem_cons_succ, List.getElem_cons_zero, List.setIfInBounds_toArray, List.set_cons_zero, List.set_cons_succ]
        refine wpAnyH_done (by kernel_rfl) ?_ _
        go_wp2
        go_ret
        exact ⟨by first | rfl | simp [*], hs0.trans (hSz.trans (hWb.trans (hq.trans hbk)))⟩
    · have z0 : (t.2 == 0) = false := by simp [h0]
      have z1 : (t.2 != 0) = true := by simp [h0]
      clear h0
      refine wp_region_held_drew (S := fun W => Since wb W) (by kernel_rfl) hdr (fun hHeld => ?_)
      rw [← hwq] at hHeld hPq ⊢
      have hq : Since wb wq := hHeld
      clear hwq hdr
      refine wpAnyH_take (i := 0) (v := ?_) rfl (by kernel_rfl) (by kernel_rfl) (by kernel_rfl) (fun _ _ _ h => h) (Or.inl ⟨by rfl, ?_⟩) (by assumption) ?_
      rotate_left 1
      · (intro W hW; clear hW; go_simp; try with_reducible rfl)
      simp only [Act.put, List.getElem_toArray, List.getElem_cons_zero, List.setIfInBounds_toArray, List.set_cons_zero, List.set_cons_succ]
      refine wpAnyH_ready (rs := [1]) (by kernel_rfl) (by simp) ?_
      refine AllReadyH.cons rfl (fun K hK => ?_) AllReadyH.nil
      go_simp
      refine (errP hPq).mono ?_
      rintro z w9 ⟨rfl, rfl⟩
      go_wp2_with fail
      refine hK.out _ _ (hq) (fun hHeld => ?_)
      clear hK K
      try simp only [Act.put, List.getElem_toArray, List.getElem_cons_succ, List.getElem_cons_zero, List.setIfInBounds_toArray, List.set_cons_zero, List.set_cons_succ]
      refine wpAnyH_ready (rs := [2]) (by kernel_rfl) (by simp) ?_
      refine AllReadyH.cons rfl (fun K hK => ?_) AllReadyH.nil
      go_simp
      refine (num11_any _ _).mono ?_
      rintro z w9 ⟨rfl, rfl⟩
      go_wp2_with fail
      refine hK.out _ _ (hq) (fun hHeld => ?_)
      clear hK K
      try simp only [Act.put, List.getElem_toArray, List.getElem_cons_succ, List.getElem_cons_zero, List.setIfInBounds_toArray, List.set_cons_zero, List.set_cons_succ]
      refine wpAnyH_take (i := 3) (v := ?_) rfl (by kernel_rfl) (by kernel_rfl) (by kernel_rfl) (fun _ _ _ h => h) (Or.inl ⟨by rfl, ?_⟩) (by assumption) ?_
      rotate_left 1
      · (intro W hW; clear hW; go_simp; try with_reducible rfl)
      simp only [Act.put, List.getElem_toArray, List.getElem_cons_succ, List.getElem_cons_zero, List.setIfInBounds_toArray, List.set_cons_zero, List.set_cons_succ]
      refine wpAnyH_take (i := 4) (v := ?_) rfl (by kernel_rfl) (by kernel_rfl) (by kernel_rfl) (fun _ _ _ h => h) (Or.inl ⟨by rfl, ?_⟩) (by assumption) ?_
      rotate_left 1
      · (intro W hW; clear hW; go_simp; try with_reducible rfl)
      simp only [Act.put, List.getElem_toArray, List.getElem_cons_succ, List.getElem_cons_zero, List.setIfInBounds_toArray, List.set_cons_zero, List.set_cons_succ]
      refine wpAnyH_take (i := 5) (v := undef) rfl (by kernel_rfl) (by kernel_rfl) (by kernel_rfl) (fun _ _ _ h => h) (Or.inr ⟨by rfl, rfl⟩) (by assumption) ?_
      simp only [Act.put, List.getElem_toArray, List.getElem_cons_succ, List.getElem_cons_zero, List.setIfInBounds_toArray, List.set_cons_zero, List.set_cons_succ]
      refine wpAnyH_take (i := 6) (v := undef) rfl (by kernel_rfl) (by kernel_rfl) (by kernel_rfl) (fun _ _ _ h => h) (Or.inr ⟨by rfl, rfl⟩) (by assumption) ?_
      simp only [Act.put, List.getElem_toArray, List.getElem_cons_succ, List.getElem_cons_zero, List.setIfInBounds_toArray, List.set_cons_zero, List.set_cons_succ]
      refine wpAnyH_take (i := 7) (v := undef) rfl (by kernel_rfl) (by kernel_rfl) (by kernel_rfl) (fun _ _ _ h => h) (Or.inr ⟨by rfl, rfl⟩) (by assumption) ?_
      simp only [Act.put, List.getElem_toArray, List.getElem_cons_succ, List.getElem_cons_zero, List.setIfInBounds_toArray, List.set_cons_zero, List.set_cons_succ]
      refine wpAnyH_take (i := 8) (v := undef) rfl (by kernel_rfl) (by kernel_rfl) (by kernel_rfl) (fun _ _ _ h => h) (Or.inr ⟨by rfl, rfl⟩) (by assumption) ?_
      simp only [Act.put, List.getElem_toArray, List.getElem_cons_succ, List.getElem_cons_zero, List.setIfInBounds_toArray, List.set_cons_zero, List.set_cons_succ]
      refine wpAnyH_take (i := 9) (v := undef) rfl (by kernel_rfl) (by kernel_rfl) (by kernel_rfl) (fun _ _ _ h => h) (Or.inr ⟨by rfl, rfl⟩) (by assumption) ?_
      simp only [Act.put, List.getElem_toArray, List.getElem_cons_succ, List.getElem_cons_zero, List.setIfInBounds_toArray, List.set_cons_zero, List.set_cons_succ]
      refine wpAnyH_take (i := 10) (v := undef) rfl (by kernel_rfl) (by kernel_rfl) (by kernel_rfl) (fun _ _ _ h => h) (Or.inr ⟨by rfl, rfl⟩) (by assumption) ?_
      simp only [Act.put, List.getElem_toArray, List.getElem_cons_succ, List.getElem_cons_zero, List.setIfInBounds_toArray, List.set_cons_zero, List.set_cons_succ]
      refine wpAnyH_take (i := 11) (v := undef) rfl (by kernel_rfl) (by kernel_rfl) (by kernel_rfl) (fun _ _ _ h => h) (Or.inr ⟨by rfl, rfl⟩) (by assumption) ?_
      simp only [Act.put, List.getElem_toArray, List.getElem_cons_succ, List.getElem_cons_zero, List.setIfInBounds_toArray, List.set_cons_zero, List.set_cons_succ]
      refine wpAnyH_take (i := 12) (v := undef) rfl (by kernel_rfl) (by kernel_rfl) (by kernel_rfl) (fun _ _ _ h => h) (Or.inr ⟨by rfl, rfl⟩) (by assumption) ?_
      simp only [Act.put, List.getElem_toArray, List.getElem_cons_succ, List.getElem_cons_zero, List.setIfInBounds_toArray, List.set_cons_zero, List.set_cons_succ]
      refine wpAnyH_take (i := 13) (v := undef) rfl (by kernel_rfl) (by kernel_rfl) (by kernel_rfl) (fun _ _ _ h => h) (Or.inr ⟨by rfl, rfl⟩) (by assumption) ?_
      simp only [Act.put, List.getElem_toArray, List.getElem_cons_succ, List.getElem_cons_zero, List.setIfInBounds_toArray, List.set_cons_zero, List.set_cons_succ]
      refine wpAnyH_take (i := 14) (v := undef) rfl (by kernel_rfl) (by kernel_rfl) (by kernel_rfl) (fun _ _ _ h => h) (Or.inr ⟨by rfl, rfl⟩) (by assumption) ?_
      simp only [Act.put, List.getElem_toArray, List.getElem_cons_succ, List.getElem_cons_zero, List.setIfInBounds_toArray, List.set_cons_zero, List.set_cons_succ]
      refine wpAnyH_take (i := 15) (v := undef) rfl (by kernel_rfl) (by kernel_rfl) (by kernel_rfl) (fun _ _ _ h => h) (Or.inr ⟨by rfl, rfl⟩) (by assumption) ?_
      simp only [Act.put, List.getElem_toArray, List.getElem_cons_succ, List.getElem_cons_zero, List.setIfInBounds_toArray, List.set_cons_zero, List.set_cons_succ]
      refine wpAnyH_take (i := 16) (v := undef) rfl (by kernel_rfl) (by kernel_rfl) (by kernel_rfl) (fun _ _ _ h => h) (Or.inr ⟨by rfl, rfl⟩) (by assumption) ?_
      simp only [Act.put, List.getElem_toArray, List.getElem_cons_succ, List.getElem_cons_zero, List.setIfInBounds_toArray, List.set_cons_zero, List.set_cons_succ]
      refine wpAnyH_take (i := 17) (v := undef) rfl (by kernel_rfl) (by kernel_rfl) (by kernel_rfl) (fun _ _ _ h => h) (Or.inr ⟨by rfl, rfl⟩) (by assumption) ?_
      simp only [Act.put, List.getElem_toArray, List.getElem_cons_succ, List.getElem_cons_zero, List.setIfInBounds_toArray, List.set_cons_zero, List.set_cons_succ]
      refine wpAnyH_take (i := 18) (v := undef) rfl (by kernel_rfl) (by kernel_rfl) (by kernel_rfl) (fun _ _ _ h => h) (Or.inr ⟨by rfl, rfl⟩) (by assumption) ?_
      simp only [Act.put, List.getElem_toArray, List.getElem_cons_succ, List.getElem_cons_zero, List.setIfInBounds_toArray, List.set_cons_zero, List.set_cons_succ]
      refine wpAnyH_take (i := 19) (v := undef) rfl (by kernel_rfl) (by kernel_rfl) (by kernel_rfl) (fun _ _ _ h => h) (Or.inr ⟨by rfl, rfl⟩) (by assumption) ?_
      simp only [Act.put, List.getElem_toArray, List.getElem_cons_succ, List.getElem_cons_zero, List.setIfInBounds_toArray, List.set_cons_zero, List.set_cons_succ]
      refine wpAnyH_take (i := 20) (v := undef) rfl (by kernel_rfl) (by kernel_rfl) (by kernel_rfl) (fun _ _ _ h => h) (Or.inr ⟨by rfl, rfl⟩) (by assumption) ?_
      simp only [Act.put, List.getElem_toArray, List.getElem_cons_succ, List.getElem_cons_zero, List.setIfInBounds_toArray, List.set_cons_zero, List.set_cons_succ]
      refine wpAnyH_take (i := 21) (v := undef) rfl (by kernel_rfl) (by kernel_rfl) (by kernel_rfl) (fun _ _ _ h => h) (Or.inr ⟨by rfl, rfl⟩) (by assumption) ?_
      simp only [Act.put, List.getElem_toArray, List.getElem_cons_succ, List.getElem_cons_zero, List.setIfInBounds_toArray, List.set_cons_zero, List.set_cons_succ]
      refine wpAnyH_take (i := 22) (v := undef) rfl (by kernel_rfl) (by kernel_rfl) (by kernel_rfl) (fun _ _ _ h => h) (Or.inr ⟨by rfl, rfl⟩) (by assumption) ?_
      simp only [Act.put, List.getElem_toArray, List.getElem_cons_succ, List.getElem_cons_zero, List.setIfInBounds_toArray, List.set_cons_zero, List.set_cons_succ]
      refine wpAnyH_take (i := 23) (v := undef) rfl (by kernel_rfl) (by kernel_rfl) (by kernel_rfl) (fun _ _ _ h => h) (Or.inr ⟨by rfl, rfl⟩) (by assumption) ?_
      simp only [Act.put, List.getElem_toArray, List.getElem_cons_succ, List.getElem_cons_zero, List.setIfInBounds_toArray, List.set_cons_zero, List.set_cons_succ]
      refine wpAnyH_take (i := 24) (v := undef) rfl (by kernel_rfl) (by kernel_rfl) (by kernel_rfl) (fun _ _ _ h => h) (Or.inr ⟨by rfl, rfl⟩) (by assumption) ?_
      simp only [Act.put, List.getElem_toArray, List.getElem_cons_succ, List.getElem_cons_zero, List.setIfInBounds_toArray, List.set_cons_zero, List.set_cons_succ]
      refine wpAnyH_take (i := 25) (v := undef) rfl (by kernel_rfl) (by kernel_rfl) (by kernel_rfl) (fun _ _ _ h => h) (Or.inr ⟨by rfl, rfl⟩) (by assumption) ?_
      simp only [Act.put, List.getElem_toArray, List.getElem_cons_succ, List.getElem_cons_zero, List.setIfInBounds_toArray, List.set_cons_zero, List.set_cons_succ]
      refine wpAnyH_take (i := 26) (v := undef) rfl (by kernel_rfl) (by kernel_rfl) (by kernel_rfl) (fun _ _ _ h => h) (Or.inr ⟨by rfl, rfl⟩) (by assumption) ?_
      simp only [Act.put, List.getElem_toArray, List.getElem_cons_succ, List.getElem_cons_zero, List.setIfInBounds_toArray, List.set_cons_zero, List.set_cons_succ]
      refine wpAnyH_take (i := 27) (v := undef) rfl (by kernel_rfl) (by kernel_rfl) (by kernel_rfl) (fun _ _ _ h => h) (Or.inr ⟨by rfl, rfl⟩) (by assumption) ?_
      simp only [Act.put, List.getElem_toArray, List.getElem_cons_succ, List.getElem_cons_zero, List.setIfInBounds_toArray, List.set_cons_zero, List.set_cons_succ]
      refine wpAnyH_take (i := 28) (v := ?_) rfl (by kernel_rfl) (by kernel_rfl) (by kernel_rfl) (fun _ _ _ h => h) (Or.inl ⟨by rfl, ?_⟩) (by assumption) ?_
      rotate_left 1
      · (intro W hW; clear hW; go_simp; try with_reducible rfl)
      simp only [Act.put, List.getElem_toArray, List.getElem_cons_succ, List.getElem_cons_zero, List.setIfInBounds_toArray, List.set_cons_zero, List.set_cons_succ]
      refine wpAnyH_take (i := 29) (v := ?_) rfl (by kernel_rfl) (by kernel_rfl) (by kernel_rfl) (fun _ _ _ h => h) (Or.inl ⟨by rfl, ?_⟩) (by assumption) ?_
      rotate_left 1
      · (intro W hW; clear hW; go_simp; try with_reducible rfl)
      simp only [Act.put, List.getElem_toArray, List.getElem_cons_succ, List.getElem_cons_zero, List.setIfInBounds_toArray, List.set_cons_zero, List.set_cons_succ]
      refine wpAnyH_ready (rs := [30]) (by kernel_rfl) (by simp) ?_
      refine AllReadyH.cons rfl (fun K hK => ?_) AllReadyH.nil
      go_simp
      refine (knows11_any _).mono ?_
      rintro e wk ⟨rfl, hbk⟩
      go_wp2_with fail
      refine hK.out _ _ (hq.trans hbk) (fun hHeld => ?_)
      clear hK K
      try simp only [Act.put, List.getElem_toArray, List.getElem_cons_succ, List.getElem_cons_zero, List.setIfInBounds_toArray, List.set_cons_zero, List.set_cons_succ]
      refine wpAnyH_take (i := 31) (v := ?_) rfl (by kernel_rfl) (by kernel_rfl) (by kernel_rfl) (fun _ _ _ h => h) (Or.inl ⟨by rfl, ?_⟩) (by assumption) ?_
      rotate_left 1
      · (intro W hW; clear hW; go_simp; try with_reducible rfl)
      simp only [Act.put, List.getElem_toArray, List.getElem_cons_succ, List.getElem_cons_zero, List.setIfInBounds_toArray, List.set_cons_zero, List.set_cons_succ]
      refine wpAnyH_take (i := 32) (v := ?_) rfl (by kernel_rfl) (by kernel_rfl) (by kernel_rfl) (fun _ _ _ h => h) (Or.inl ⟨by rfl, ?_⟩) (by assumption) ?_
      rotate_left 1
      · (intro W hW; clear hW; go_simp; try with_reducible rfl)
      simp only [Act.put, List.getElem_toArray, List.getElem_cons_succ, List.getElem_cons_zero, List.setIfInBounds_toArray, List.set_cons_zero, List.set_cons_succ]
      refine wpAnyH_done (by kernel_rfl) ?_ _
      go_wp2
      go_ret
      exact ⟨by first | rfl | simp [*], hs0.trans (hSz.trans (hWb.trans (hq.trans hbk)))⟩
  | true =>
    have hread : readEnt (LE ++ b, 0) = (((⟨kind, ok, x, y, key, val, cl, seq, nd, ep, bx⟩ : En), l), (b, 0)) := by rw [← HLE.out, if_pos rfl]; exact readEnt_back HB.out b
    have HRE := Lib.hid hread
    clear hread
    have hx1 := (HH.out.below hS0).rd.below ((Below.refl _ _).alloc (Nat.le_refl _) (.cells #[] 5)) (Nat.le_refl _)
    have hln1 := HH.out.len
    go_wp2_with (first
    | (go_at_call 19; (with_reducible refine (num11_any _ _).mono ?_); rintro e w' ⟨rfl, rfl⟩)
    | (at_builtin; refine wpList_grow _ rfl (.tmp 29) (.tmp 30) _ rfl wz.heap.size _ [] rfl (own_lit wz wz.heap.size _ [] rfl (by simp) (Nat.le_refl _)) _ LE rfl (src_at n3 c3 hx1 hln1) (by have := HM.out; simp; omega) (by simp) ?_; intro AX nX cX wX hX hbX; have hWX : Since wz wX := Below.trans hS0 (Below.mono (((Below.refl _ _).alloc (Nat.le_refl _) _).trans hbX) (Since.size_ hS0)); have hxr := HR0.out.below hWX (Nat.le_refl _); have hXl := hX.len)
    | (at_builtin; refine wpList_grow _ rfl (.tmp 31) (.tmp 32) _ rfl wz.heap.size _ _ rfl hX.own _ b rfl (src_at n0 c0 hxr HN.out) (by have := HN.out; have := HM.out; rw [List.nil_append]; omega) (by have := hbX.size; simp at this ⊢; omega) ?_; intro AY nY cY wY hY hbY))
    rw [List.nil_append] at hY
    have hWY : Since wz wY := Below.trans hS0 (Below.mono ((((Below.refl _ _).alloc (Nat.le_refl _) _).trans hbX).trans hbY) hS0.size_)
    have hYl := hY.len
    refine (open_any AY nY cY _ wY hY.rd hY.len (by have := HN.out; have := HM.out; (try simp at hYl); omega)).mono ?_
    rintro e wP ⟨gP, A9, n9, c9, rfl, hP, hbP⟩
    have hlP : wz.heap.size ≤ gP := Nat.le_trans hWY.size_ hP.lie
    have hWP : Since wz wP := hWY.trans hbP
    go_wp2_with fail
    obtain ⟨wq, hwq⟩ : ∃ wq, wq = wP.drew := ⟨_, rfl⟩
    have hPq : RdS wq wY.heap.size gP (LE ++ b, 0) := by rw [hwq]; exact RdS.since ⟨_, _, _, hP⟩ (Since.refl _).drew
    refine wp_region_held_drew (S := fun W => Since w0 W) (by kernel_rfl) (hSz.trans hWP).drew (fun hHeld => ?_)
    have hWq : Since wz wq := by rw [hwq]; exact hWP.drew
    rw [← hwq] at hHeld ⊢
    clear hwq hP
    refine wpAnyH_take (i := 0) (v := ?_) rfl (by kernel_rfl) (by kernel_rfl) (by kernel_rfl) (fun _ _ _ h => h) (Or.inl ⟨by rfl, ?_⟩) (by assumption) ?_
    rotate_left 1
    · (intro W hW; clear hW; go_simp; try with_reducible rfl)
    simp only [Act.put, List.getElem_toArray, List.getElem_cons_zero, List.setIfInBounds_toArray, List.set_cons_zero, List.set_cons_succ]
    refine wpAnyH_take (i := 2) (v := ?_) rfl (by kernel_rfl) (by kernel_rfl) (by kernel_rfl) (fun _ _ _ h => h) (Or.inl ⟨by rfl, ?_⟩) (by assumption) ?_
    rotate_left 1
    · (intro W hW; skip; go_simp; try with_reducible rfl)
    simp only [Act.put, List.getElem_toArray, List.getElem_cons_succ, List.getElem_cons_zero, List.setIfInBounds_toArray, List.set_cons_zero, List.set_cons_succ]
    refine wpAnyH_ready (rs := [1]) (by kernel_rfl) (by simp) ?_
    refine AllReadyH.cons rfl (fun K hK => ?_) AllReadyH.nil
    go_simp
    refine (take11_any hPq HRE.out).mono ?_
    rintro z wa ⟨xb, nb, db, rfl, hrb, hPa, hoa⟩
    have hWa : Since wz wa := Below.trans hWq (Off.below hoa hWq.size_ (fun b z => by subst z; exact hlP))
    go_wp2_with fail
    refine hK.out _ _ (hSz.trans hWa) (fun hHeld => ?_)
    clear hK K
    try simp only [Act.put, List.getElem_toArray, List.getElem_cons_succ, List.getElem_cons_zero, List.setIfInBounds_toArray, List.set_cons_zero, List.set_cons_succ]
    refine wpAnyH_ready (rs := [3]) (by kernel_rfl) (by simp) ?_
    refine AllReadyH.cons rfl (fun K hK => ?_) AllReadyH.nil
    go_simp
    refine (own11_any (HC0.out _ (hs0.trans hHeld)) (hs0.trans hHeld).size_ HL8.out).mono ?_
    rintro z wb ⟨xc, nc, dc, rfl, hrc, hbb⟩
    have hWb : Since wz wb := hWa.trans hbb
    have hPb := hPa.since hbb
    have hrb2 := RZ.since hrb hbb
    go_wp2_with fail
    refine hK.out _ _ (hSz.trans hWb) (fun hHeld => ?_)
    clear hK K
    try simp only [Act.put, List.getElem_toArray, List.getElem_cons_succ, List.getElem_cons_zero, List.setIfInBounds_toArray, List.set_cons_zero, List.set_cons_succ]
    refine wpAnyH_ready (rs := [4]) (by kernel_rfl) (by simp) ?_
    refine AllReadyH.cons rfl (fun K hK => ?_) AllReadyH.nil
    go_simp
    refine (esame_any (RZ.lz hrb2) (RZ.lz hrc) (Nat.le_refl _) (by have := HL8.out; omega) ((plainE_iff _ _).2 rfl) ((sameZ_iff _ _).2 rfl)).mono ?_
    rintro z wd ⟨rfl, hbd⟩
    have hWd : Since wz wd := hWb.trans hbd
    have hPd := hPb.since hbd
    go_wp2_with fail
    refine hK.out _ _ (hSz.trans hWd) (fun hHeld => ?_)
    clear hK K
    try simp only [Act.put, List.getElem_toArray, List.getElem_cons_succ, List.getElem_cons_zero, List.setIfInBounds_toArray, List.set_cons_zero, List.set_cons_succ]
    refine wpAnyH_take (i := 5) (v := ?_) rfl (by kernel_rfl) (by kernel_rfl) (by kernel_rfl) (fun _ _ _ h => h) (Or.inl ⟨by rfl, ?_⟩) (by assumption) ?_
    rotate_left 1
    · (intro W hW; clear hW; go_simp; try with_reducible rfl)
    simp only [Act.put, List.getElem_toArray, List.getElem_cons_succ, List.getElem_cons_zero, List.setIfInBounds_toArray, List.set_cons_zero, List.set_cons_succ]
    refine wpAnyH_take (i := 6) (v := ?_) rfl (by kernel_rfl) (by kernel_rfl) (by kernel_rfl) (fun _ _ _ h => h) (Or.inl ⟨by rfl, ?_⟩) (by assumption) ?_
    rotate_left 1
    · (intro W hW; clear hW; go_simp; try with_reducible rfl)
    simp only [Act.put, List.getElem_toArray, List.getElem_cons_succ, List.getElem_cons_zero, List.setIfInBounds_toArray, List.set_cons_zero, List.set_cons_succ]
    refine wpAnyH_take (i := 7) (v := ?_) rfl (by kernel_rfl) (by kernel_rfl) (by kernel_rfl) (fun _ _ _ h => h) (Or.inl ⟨by rfl, ?_⟩) (by assumption) ?_
    rotate_left 1
    · (intro W hW; clear hW; go_simp; try with_reducible rfl)
    simp only [Act.put, List.getElem_toArray, List.getElem_cons_succ, List.getElem_cons_zero, List.setIfInBounds_toArray, List.set_cons_zero, List.set_cons_succ]
    refine wpAnyH_take (i := 9) (v := ?_) rfl (by kernel_rfl) (by kernel_rfl) (by kernel_rfl) (fun _ _ _ h => h) (Or.inl ⟨by rfl, ?_⟩) (by assumption) ?_
    rotate_left 1
    · (intro W hW; clear hW; go_simp; try with_reducible rfl)
    simp only [Act.put, List.getElem_toArray, List.getElem_cons_succ, List.getElem_cons_zero, List.setIfInBounds_toArray, List.set_cons_zero, List.set_cons_succ]
    refine wpAnyH_take (i := 10) (v := ?_) rfl (by kernel_rfl) (by kernel_rfl) (by kernel_rfl) (fun _ _ _ h => h) (Or.inl ⟨by rfl, ?_⟩) (by assumption) ?_
    rotate_left 1
    · (intro W hW; clear hW; go_simp; try with_reducible rfl)
    simp only [Act.put, List.getElem_toArray, List.getElem_cons_succ, List.getElem_cons_zero, List.setIfInBounds_toArray, List.set_cons_zero, List.set_cons_succ]
    refine wpAnyH_ready (rs := [8]) (by kernel_rfl) (by simp) ?_
    refine AllReadyH.cons rfl (fun K hK => ?_) AllReadyH.nil
    go_simp
    refine (leftP hPd).mono ?_
    rintro z w9 ⟨rfl, rfl⟩
    go_wp2_with fail
    refine hK.out _ _ (hSz.trans hWd) (fun hHeld => ?_)
    clear hK K
    try simp only [Act.put, List.getElem_toArray, List.getElem_cons_succ, List.getElem_cons_zero, List.setIfInBounds_toArray, List.set_cons_zero, List.set_cons_succ]
    refine wpAnyH_take (i := 11) (v := ?_) rfl (by kernel_rfl) (by kernel_rfl) (by kernel_rfl) (fun _ _ _ h => h) (Or.inl ⟨by rfl, ?_⟩) (by assumption) ?_
    rotate_left 1
    · (intro W hW; clear hW; go_simp; try with_reducible rfl)
    simp only [Act.put, List.getElem_toArray, List.getElem_cons_succ, List.getElem_cons_zero, List.setIfInBounds_toArray, List.set_cons_zero, List.set_cons_succ]
    refine wpAnyH_take (i := 12) (v := ?_) rfl (by kernel_rfl) (by kernel_rfl) (by kernel_rfl) (fun _ _ _ h => h) (Or.inl ⟨by rfl, ?_⟩) (by assumption) ?_
    rotate_left 1
    · (intro W hW; clear hW; go_simp; try with_reducible rfl)
    simp only [Act.put, List.getElem_toArray, List.getElem_cons_succ, List.getElem_cons_zero, List.setIfInBounds_toArray, List.set_cons_zero, List.set_cons_succ]
    refine wpAnyH_done (by kernel_rfl) ?_ _
    obtain ⟨wS, hnw⟩ : ∃ w', w' = wd := ⟨_, rfl⟩
    rw [← hnw] at hWd ⊢
    clear hnw hPq hWq hPa hoa hWa hrb hPb hWb hbb hrb2 hrc hPd hbd hHeld hWP hlP hbP hWY hYl hY hbY hX hbX hWX hxr hXl hx1 hln1
    clear c0_0 c0_1 c0_2 c0_3 c0_4 c0_5 c0_6 c0_7 c0_8 c0_9 c0_10 c0_11
    obtain ⟨⟨⟨⟨kind2, ok2, x2, y2, key2, val2, cl2, seq2, nd2, ep2, bx2⟩, l2⟩, t⟩, hrd⟩ : ∃ r, readEnt (b, 0) = r := ⟨_, rfl⟩
    have hl8 := readEnt_len11 (b, 0)
    rw [hrd] at hl8
    have HL9 := Lib.hid (show l2.length ≤ 1000 by dsimp only at hl8; omega)
    clear hl8
    obtain ⟨B2, hB⟩ : ∃ b, rightB (⟨kind2, ok2, x2, y2, key2, val2, cl2, seq2, nd2, ep2, bx2⟩ : En) l2 = b := ⟨_, rfl⟩
    obtain ⟨L2, hL⟩ : ∃ L, (if B2 then entL (⟨kind2, ok2, x2, y2, key2, val2, cl2, seq2, nd2, ep2, bx2⟩ : En) l2 else []) = L := ⟨_, rfl⟩
    obtain ⟨E2, hE⟩ : ∃ e : Int, (if B2 then 0 else 1) = e := ⟨_, rfl⟩
    have HC2 : Hid (t.2 = 0 → B2 = true ∧ b = L2 ++ t.1 ∧ 0 < L2.length) := by
      unfold Hid
      intro h0
      obtain ⟨h1, h2⟩ := readEnt_came hrd h0
      have h3 : B2 = true := hB.symm.trans h1
      have h4 : entL (⟨kind2, ok2, x2, y2, key2, val2, cl2, seq2, nd2, ep2, bx2⟩ : En) l2 = L2 := by rw [← hL, h3, if_pos rfl]
      rw [h4] at h2
      exact ⟨h3, h2, by rw [← h4]; exact entL_pos h1⟩
    have hEz : B2 = true → E2 = 0 := fun h => by rw [← hE, h]; rfl
    have HEz := Lib.hid hEz
    have HRDp := Lib.hid hrd
    have HBp := Lib.hid hB
    have HLp := Lib.hid hL
    have HEp := Lib.hid hE
    clear hrd hB hL hE hEz
    have hxr := HR0.out.below (hWd.trans ((Since.refl _).alloc (.cells #[] 5))) (Nat.le_refl _)
    go_wp2_with (first | (go_at_call 19; (with_reducible refine (num11_any _ _).mono ?_); rintro e w' ⟨rfl, rfl⟩) | (at_builtin; refine wpList_grow _ rfl (.tmp 48) (.tmp 49) _ rfl wS.heap.size _ [] rfl (own_lit wS wS.heap.size _ [] rfl (by simp) (Nat.le_refl _)) _ b rfl (src_at n0 c0 hxr HN.out) (by have := HN.out; simp; omega) (by simp) ?_; intro AY nY cY wY hY hbY))
    rw [List.nil_append] at hY
    have hWY : Since wz wY := Below.trans hWd (Below.mono (((Below.refl _ _).alloc (Nat.le_refl _) _).trans hbY) hWd.size_)
    have hYl := hY.len
    refine (open_any AY nY cY _ wY hY.rd hY.len (by have := HN.out; (try simp at hYl); omega)).mono ?_
    rintro e wP ⟨gP, A9, n9, c9, rfl, hP, hbP⟩
    have hlP : wz.heap.size ≤ gP := Nat.le_trans hWY.size_ hP.lie
    have hWP : Since wz wP := hWY.trans hbP
    go_wp2_with fail
    refine (take11_any (s := (b, 0)) ⟨_, _, _, hP⟩ HRDp.out).mono ?_
    rintro z wa ⟨xc, nc, dc, rfl, hrc, hPa, hoa⟩
    have hWa : Since wz wa := Below.trans hWP (Off.below hoa hWP.size_ (fun b z => by subst z; exact hlP))
    go_wp2_with fail
    refine (put11_at (RZ.lz hrc) (Nat.le_refl _) HL9.out HBp.out HLp.out HEp.out).mono ?_
    rintro e wb ⟨Ap, np, cp, rfl, hhp, hbb⟩
    have hWb : Since wz wb := hWa.trans hbb
    have hPb := hPa.since hbb
    clear hPa hoa hbb hWa hWP hP hbP hY hYl hbY hWY hrc
    have txp := fun W (hW : Since wb W) => text_of W np cp (hhp.rd.below hW (Nat.le_refl _)) hhp.len
    clear hhp hxr
    have hdr : Since wb wb.drew := (Since.refl wb).drew
    go_wp2_with fail
    obtain ⟨wq, hwq⟩ : ∃ wq, wq = wb.drew := ⟨_, rfl⟩
    have hPq := hPb.since hdr
    by_cases h0 : t.2 = 0
    · have z0 : (t.2 == 0) = true := by simp [h0]
      have z1 : (t.2 != 0) = false := by simp [h0]
      obtain ⟨hB1, hbl, hLp⟩ := HC2.out h0
      have hEE := HEz.out hB1
      have hsum : n0 = L2.length + t.1.length := by rw [← HN.out, hbl, List.length_append]
      have htk : b.take L2.length = L2 := by rw [hbl, List.take_left]
      obtain ⟨k, hk⟩ : ∃ k, k = L2.length := ⟨_, rfl⟩
      obtain ⟨m, hm⟩ : ∃ m, m = t.1.length := ⟨_, rfl⟩
      rw [← hm] at hsum
      have hLe : leftOf t.1.length t.2 = (m : Int) := by unfold leftOf; rw [if_pos h0, hm]
      rw [← hk] at hsum htk hLp
      have s1 : wrap64 ((n0 : Int) - (m : Int)) = (k : Int) := by rw [IntWalk.wrap64_in _ ⟨by omega, by omega⟩]; omega
      have s2 : IntKind.i64.wrap ((n0 : Int) - (m : Int)) = (k : Int) := by rw [IntWalk.i64_in _ (by omega)]; omega
      have g1 : decide ((n0 : Int) < (m : Int)) = false := by simp; omega
      have g2 : decide ((m : Int) ≤ (n0 : Int)) = true := by simp; omega
      have g4 : decide (n0 < m) = false := by simp; omega
      have g5 : decide (m ≤ n0) = true := by simp; omega
      have g3 : (k : Int) ≤ (c0 : Int) := by omega
      have e0 : (E2 == 0) = true := by simp [hEE]
      have e1 : (E2 != 0) = false := by simp [hEE]
      have txr := fun W (hW : Since wb W) => text_of W k c0 ((HR0.out.below (hWb.trans hW) (Nat.le_refl _)).take k) (by rw [htk]; exact hk.symm)
      rw [htk] at txr
      rcases A0 with _ | ad
      · exfalso
        have := HR0.out.none_nil
        have h9 := HN.out
        rw [this] at h9
        simp at h9
        omega
      · clear h0 hbl htk hsum hk hm hEE hB1 hLp
        refine wp_region_held_drew (S := fun W => Since wb W) (by kernel_rfl) hdr (fun hHeld => ?_)
        rw [← hwq] at hHeld hPq ⊢
        have hq : Since wb wq := hHeld
        clear hwq hdr
        refine wpAnyH_take (i := 0) (v := ?_) rfl (by kernel_rfl) (by kernel_rfl) (by kernel_rfl) (fun _ _ _ h => h) (Or.inl ⟨by rfl, ?_⟩) (by assumption) ?_
        rotate_left 1
        · (intro W hW; clear hW; go_simp; try with_reducible rfl)
        simp only [Act.put, List.getElem_toArray, List.getElem_cons_zero, List.setIfInBounds_toArray, List.set_cons_zero, List.set_cons_succ]
        refine wpAnyH_ready (rs := [1]) (by kernel_rfl) (by simp) ?_
        refine AllReadyH.cons rfl (fun K hK => ?_) AllReadyH.nil
        go_simp
        refine (errP hPq).mono ?_
        rintro z w9 ⟨rfl, rfl⟩
        go_wp2_with fail
        refine hK.out _ _ (hq) (fun hHeld => ?_)
        clear hK K
        try simp only [Act.put, List.getElem_toArray, List.getElem_cons_succ, List.getElem_cons_zero, List.setIfInBounds_toArray, List.set_cons_zero, List.set_cons_succ]
        refine wpAnyH_ready (rs := [2]) (by kernel_rfl) (by simp) ?_
        refine AllReadyH.cons rfl (fun K hK => ?_) AllReadyH.nil
        go_simp
        refine (num11_any _ _).mono ?_
        rintro z w9 ⟨rfl, rfl⟩
        go_wp2_with fail
        refine hK.out _ _ (hq) (fun hHeld => ?_)
        clear hK K
        try simp only [Act.put, List.getElem_toArray, List.getElem_cons_succ, List.getElem_cons_zero, List.setIfInBounds_toArray, List.set_cons_zero, List.set_cons_succ]
        refine wpAnyH_take (i := 3) (v := ?_) rfl (by kernel_rfl) (by kernel_rfl) (by kernel_rfl) (fun _ _ _ h => h) (Or.inl ⟨by rfl, ?_⟩) (by assumption) ?_
        rotate_left 1
        · (intro W hW; clear hW; go_simp; try with_reducible rfl)
        simp only [Act.put, List.getElem_toArray, List.getElem_cons_succ, List.getElem_cons_zero, List.setIfInBounds_toArray, List.set_cons_zero, List.set_cons_succ]
        refine wpAnyH_take (i := 4) (v := ?_) rfl (by kernel_rfl) (by kernel_rfl) (by kernel_rfl) (fun _ _ _ h => h) (Or.inl ⟨by rfl, ?_⟩) (by assumption) ?_
        rotate_left 1
        · (intro W hW; clear hW; go_simp; try with_reducible rfl)
        simp only [Act.put, List.getElem_toArray, List.getElem_cons_succ, List.getElem_cons_zero, List.setIfInBounds_toArray, List.set_cons_zero, List.set_cons_succ]
        refine wpAnyH_take (i := 5) (v := ?_) rfl (by kernel_rfl) (by kernel_rfl) (by kernel_rfl) (fun _ _ _ h => h) (Or.inl ⟨by rfl, ?_⟩) (by assumption) ?_
        rotate_left 1
        · (intro W hW; clear hW; go_simp; try with_reducible rfl)
        simp only [Act.put, List.getElem_toArray, List.getElem_cons_succ, List.getElem_cons_zero, List.setIfInBounds_toArray, List.set_cons_zero, List.set_cons_succ]
        refine wpAnyH_ready (rs := [6]) (by kernel_rfl) (by simp) ?_
        refine AllReadyH.cons rfl (fun K hK => ?_) AllReadyH.nil
        go_simp
        refine (num11_any _ _).mono ?_
        rintro z w9 ⟨rfl, rfl⟩
        go_wp2_with fail
        refine hK.out _ _ (hq) (fun hHeld => ?_)
        clear hK K
        try simp only [Act.put, List.getElem_toArray, List.getElem_cons_succ, List.getElem_cons_zero, List.setIfInBounds_toArray, List.set_cons_zero, List.set_cons_succ]
        refine wpAnyH_take (i := 7) (v := ?_) rfl (by kernel_rfl) (by kernel_rfl) (by kernel_rfl) (fun _ _ _ h => h) (Or.inl ⟨by rfl, ?_⟩) (by assumption) ?_
        rotate_left 1
        · (intro W hW; clear hW; go_simp; try with_reducible rfl)
        simp only [Act.put, List.getElem_toArray, List.getElem_cons_succ, List.getElem_cons_zero, List.setIfInBounds_toArray, List.set_cons_zero, List.set_cons_succ]
        refine wpAnyH_take (i := 8) (v := ?_) rfl (by kernel_rfl) (by kernel_rfl) (by kernel_rfl) (fun _ _ _ h => h) (Or.inl ⟨by rfl, ?_⟩) (by assumption) ?_
        rotate_left 1
        · (intro W hW; clear hW; go_simp; try with_reducible rfl)
        simp only [Act.put, List.getElem_toArray, List.getElem_cons_succ, List.getElem_cons_zero, List.setIfInBounds_toArray, List.set_cons_zero, List.set_cons_succ]
        refine wpAnyH_take (i := 9) (v := ?_) rfl (by kernel_rfl) (by kernel_rfl) (by kernel_rfl) (fun _ _ _ h => h) (Or.inl ⟨by rfl, ?_⟩) (by assumption) ?_
        rotate_left 1
        · (intro W hW; clear hW; go_simp; try with_reducible rfl)
        simp only [Act.put, List.getElem_toArray, List.getElem_cons_succ, List.getElem_cons_zero, List.setIfInBounds_toArray, List.set_cons_zero, List.set_cons_succ]
        refine wpAnyH_take (i := 11) (v := ?_) rfl (by kernel_rfl) (by kernel_rfl) (by kernel_rfl) (fun _ _ _ h => h) (Or.inl ⟨by rfl, ?_⟩) (by assumption) ?_
        rotate_left 1
        · (intro W hW; clear hW; go_simp; try with_reducible rfl)
        simp only [Act.put, List.getElem_toArray, List.getElem_cons_succ, List.getElem_cons_zero, List.setIfInBounds_toArray, List.set_cons_zero, List.set_cons_succ]
        refine wpAnyH_take (i := 12) (v := ?_) rfl (by kernel_rfl) (by kernel_rfl) (by kernel_rfl) (fun _ _ _ h => h) (Or.inl ⟨by rfl, ?_⟩) (by assumption) ?_
        rotate_left 1
        · (intro W hW; clear hW; go_simp; try with_reducible rfl)
        simp only [Act.put, List.getElem_toArray, List.getElem_cons_succ, List.getElem_cons_zero, List.setIfInBounds_toArray, List.set_cons_zero, List.set_cons_succ]
        refine wpAnyH_ready (rs := [10]) (by kernel_rfl) (by simp) ?_
        refine AllReadyH.cons rfl (fun K hK => ?_) AllReadyH.nil
        go_simp
        refine (leftP hPq).mono ?_
        rintro z w9 ⟨rfl, rfl⟩
        go_wp2_with fail
        refine hK.out _ _ (hq) (fun hHeld => ?_)
        clear hK K
        try simp only [Act.put, List.getElem_toArray, List.getElem_cons_succ, List.getElem_cons_zero, List.setIfInBounds_toArray, List.set_cons_zero, List.set_cons_succ]
        refine wpAnyH_take (i := 13) (v := ?_) rfl (by kernel_rfl) (by kernel_rfl) (by kernel_rfl) (fun _ _ _ h => h) (Or.inl ⟨by rfl, ?_⟩) (by assumption) ?_
        rotate_left 1
        · (intro W hW; clear hW; go_simp; try with_reducible rfl)
        simp only [Act.put, List.getElem_toArray, List.getElem_cons_succ, List.getElem_cons_zero, List.setIfInBounds_toArray, List.set_cons_zero, List.set_cons_succ]
        refine wpAnyH_take (i := 14) (v := ?_) rfl (by kernel_rfl) (by kernel_rfl) (by kernel_rfl) (fun _ _ _ h => h) (Or.inl ⟨by rfl, ?_⟩) (by assumption) ?_
        rotate_left 1
        · (intro W hW; clear hW; go_simp; try with_reducible rfl)
        simp only [Act.put, List.getElem_toArray, List.getElem_cons_succ, List.getElem_cons_zero, List.setIfInBounds_toArray, List.set_cons_zero, List.set_cons_succ]
        refine wpAnyH_take (i := 15) (v := ?_) rfl (by kernel_rfl) (by kernel_rfl) (by kernel_rfl) (fun _ _ _ h => h) (Or.inl ⟨by rfl, ?_⟩) (by assumption) ?_
        rotate_left 1
        · (intro W hW; clear hW; go_simp; try with_reducible rfl)
        simp only [Act.put, List.getElem_toArray, List.getElem_cons_succ, List.getElem_cons_zero, List.setIfInBounds_toArray, List.set_cons_zero, List.set_cons_succ]
        refine wpAnyH_take (i := 16) (v := ?_) rfl (by kernel_rfl) (by kernel_rfl) (by kernel_rfl) (fun _ _ _ h => h) (Or.inl ⟨by rfl, ?_⟩) (by assumption) ?_
        rotate_left 1
        · (intro W hW; clear hW; go_simp; try with_reducible rfl)
        simp only [Act.put, List.getElem_toArray, List.getElem_cons_succ, List.getElem_cons_zero, List.setIfInBounds_toArray, List.set_cons_zero, List.set_cons_succ]
        refine wpAnyH_take (i := 17) (v := ?_) rfl (by kernel_rfl) (by kernel_rfl) (by kernel_rfl) (fun _ _ _ h => h) (Or.inl ⟨by rfl, ?_⟩) (by assumption) ?_
        rotate_left 1
        · (intro W hW; skip; go_simp; try with_reducible rfl)
        simp only [Act.put, List.getElem_toArray, List.getElem_cons_succ, List.getElem_cons_zero, List.setIfInBounds_toArray, List.set_cons_zero, List.set_cons_succ]
        refine wpAnyH_take (i := 18) (v := ?_) rfl (by kernel_rfl) (by kernel_rfl) (by kernel_rfl) (fun _ _ _ h => h) (Or.inl ⟨by rfl, ?_⟩) (by assumption) ?_
        rotate_left 1
        · (intro W hW; clear hW; go_simp; try with_reducible rfl)
        simp only [Act.put, List.getElem_toArray, List.getElem_cons_succ, List.getElem_cons_zero, List.setIfInBounds_toArray, List.set_cons_zero, List.set_cons_succ]
        refine wpAnyH_take (i := 19) (v := ?_) rfl (by kernel_rfl) (by kernel_rfl) (by kernel_rfl) (fun _ _ _ h => h) (Or.inl ⟨by rfl, ?_⟩) (by assumption) ?_
        rotate_left 1
        · (intro W hW; clear hW; go_simp; try with_reducible rfl)
        simp only [Act.put, List.getElem_toArray, List.getElem_cons_succ, List.getElem_cons_zero, List.setIfInBounds_toArray, List.set_cons_zero, List.set_cons_succ]
        refine wpAnyH_take (i := 20) (v := ?_) rfl (by kernel_rfl) (by kernel_rfl) (by kernel_rfl) (fun _ _ _ h => h) (Or.inl ⟨by rfl, ?_⟩) (by assumption) ?_
        rotate_left 1
        · (intro W hW; clear hW; go_simp; try with_reducible rfl)
        simp only [Act.put, List.getElem_toArray, List.getElem_cons_succ, List.getElem_cons_zero, List.setIfInBounds_toArray, List.set_cons_zero, List.set_cons_succ]
        refine wpAnyH_take (i := 21) (v := ?_) rfl (by kernel_rfl) (by kernel_rfl) (by kernel_rfl) (fun _ _ _ h => h) (Or.inl ⟨by rfl, ?_⟩) (by assumption) ?_
        rotate_left 1
        · (intro W hW; clear hW; go_simp; try with_reducible rfl)
        simp only [Act.put, List.getElem_toArray, List.getElem_cons_succ, List.getElem_cons_zero, List.setIfInBounds_toArray, List.set_cons_zero, List.set_cons_succ]
        refine wpAnyH_ready (rs := [22]) (by kernel_rfl) (by simp) ?_
        refine AllReadyH.cons rfl (fun K hK => ?_) AllReadyH.nil
        go_simp
        refine (leftP hPq).mono ?_
        rintro z w9 ⟨rfl, rfl⟩
        go_wp2_with fail
        refine hK.out _ _ (hq) (fun hHeld => ?_)
        clear hK K
        try simp only [Act.put, List.getElem_toArray, List.getElem_cons_succ, List.getElem_cons_zero, List.setIfInBounds_toArray, List.set_cons_zero, List.set_cons_succ]
        refine wpAnyH_take (i := 23) (v := ?_) rfl (by kernel_rfl) (by kernel_rfl) (by kernel_rfl) (fun _ _ _ h => h) (Or.inl ⟨by rfl, ?_⟩) (by assumption) ?_
        rotate_left 1
        · (intro W hW; clear hW; go_simp; try with_reducible rfl)
        simp only [Act.put, List.getElem_toArray, List.getElem_cons_succ, List.getElem_cons_zero, List.setIfInBounds_toArray, List.set_cons_zero, List.set_cons_succ]
        refine wpAnyH_take (i := 24) (v := ?_) rfl (by kernel_rfl) (by kernel_rfl) (by kernel_rfl) (fun _ _ _ h => h) (Or.inl ⟨by rfl, ?_⟩) (by assumption) ?_
        rotate_left 1
        · (intro W hW; clear hW; go_simp; try with_reducible rfl)
        simp only [Act.put, List.getElem_toArray, List.getElem_cons_succ, List.getElem_cons_zero, List.setIfInBounds_toArray, List.set_cons_zero, List.set_cons_succ]
        refine wpAnyH_take (i := 25) (v := ?_) rfl (by kernel_rfl) (by kernel_rfl) (by kernel_rfl) (fun _ _ _ h => h) (Or.inl ⟨by rfl, ?_⟩) (by assumption) ?_
        rotate_left 1
        · (intro W hW; skip; go_simp; try with_reducible rfl)
        simp only [Act.put, List.getElem_toArray, List.getElem_cons_succ, List.getElem_cons_zero, List.setIfInBounds_toArray, List.set_cons_zero, List.set_cons_succ]
        refine wpAnyH_take (i := 26) (v := ?_) rfl (by kernel_rfl) (by kernel_rfl) (by kernel_rfl) (fun _ _ _ h => h) (Or.inl ⟨by rfl, ?_⟩) (by assumption) ?_
        rotate_left 1
        · (intro W hW; clear hW; go_simp; try with_reducible rfl)
        simp only [Act.put, List.getElem_toArray, List.getElem_cons_succ, List.getElem_cons_zero, List.setIfInBounds_toArray, List.set_cons_zero, List.set_cons_succ]
        refine wpAnyH_take (i := 27) (v := ?_) rfl (by kernel_rfl) (by kernel_rfl) (by kernel_rfl) (fun _ _ _ h => h) (Or.inl ⟨by rfl, ?_⟩) (by assumption) ?_
        rotate_left 1
        · (intro W hW; clear hW; go_simp; try with_reducible rfl)
        simp only [Act.put, List.getElem_toArray, List.getElem_cons_succ, List.getElem_cons_zero, List.setIfInBounds_toArray, List.set_cons_zero, List.set_cons_succ]
        refine wpAnyH_take (i := 28) (v := ?_) rfl (by kernel_rfl) (by kernel_rfl) (by kernel_rfl) (fun _ _ _ h => h) (Or.inl ⟨by rfl, ?_⟩) (by assumption) ?_
        rotate_left 1
        · (intro W hW; clear hW; go_simp; try with_reducible rfl)
        simp only [Act.put, List.getElem_toArray, List.getElem_cons_succ, List.getElem_cons_zero, List.setIfInBounds_toArray, List.set_cons_zero, List.set_cons_succ]
        refine wpAnyH_take (i := 29) (v := ?_) rfl (by kernel_rfl) (by kernel_rfl) (by kernel_rfl) (fun _ _ _ h => h) (Or.inl ⟨by rfl, ?_⟩) (by assumption) ?_
        rotate_left 1
        · (intro W hW; clear hW; go_simp; try with_reducible rfl)
        simp only [Act.put, List.getElem_toArray, List.getElem_cons_succ, List.getElem_cons_zero, List.setIfInBounds_toArray, List.set_cons_zero, List.set_cons_succ]
        refine wpAnyH_ready (rs := [30]) (by kernel_rfl) (by simp) ?_
        refine AllReadyH.cons rfl (fun K hK => ?_) AllReadyH.nil
        go_simp
        refine (knows11_any _).mono ?_
        rintro e wk ⟨rfl, hbk⟩
        go_wp2_with fail
        refine hK.out _ _ (hq.trans hbk) (fun hHeld => ?_)
        clear hK K
        try simp only [Act.put, List.getElem_toArray, List.getElem_cons_succ, List.getElem_cons_zero, List.setIfInBounds_toArray, List.set_cons_zero, List.set_cons_succ]
        refine wpAnyH_take (i := 31) (v := ?_) rfl (by kernel_rfl) (by kernel_rfl) (by kernel_rfl) (fun _ _ _ h => h) (Or.inl ⟨by rfl, ?_⟩) (by assumption) ?_
        rotate_left 1
        · (intro W hW; clear hW; go_simp; try with_reducible rfl)
        simp only [Act.put, List.getElem_toArray, List.getElem_cons_succ, List.getElem_cons_zero, List.setIfInBounds_toArray, List.set_cons_zero, List.set_cons_succ]
        refine wpAnyH_take (i := 32) (v := ?_) rfl (by kernel_rfl) (by kernel_rfl) (by kernel_rfl) (fun _ _ _ h => h) (Or.inl ⟨by rfl, ?_⟩) (by assumption) ?_
        rotate_left 1
        · (intro W hW; clear hW; go_simp; try with_reducible rfl)
        simp only [Act.put, List.getElem_toArray, List.getElem_cons_succ, List.getElem_cons_zero, List.setIfInBounds_toArray, List.set_cons_zero, List.set_cons_succ]
        refine wpAnyH_done (by kernel_rfl) ?_ _
        go_wp2
        go_ret
        exact ⟨by first | rfl | simp [*], hs0.trans (hSz.trans (hWb.trans (hq.trans hbk)))⟩
    · have z0 : (t.2 == 0) = false := by simp [h0]
      have z1 : (t.2 != 0) = true := by simp [h0]
      clear h0
      refine wp_region_held_drew (S := fun W => Since wb W) (by kernel_rfl) hdr (fun hHeld => ?_)
      rw [← hwq] at hHeld hPq ⊢
      have hq : Since wb wq := hHeld
      clear hwq hdr
      refine wpAnyH_take (i := 0) (v := ?_) rfl (by kernel_rfl) (by kernel_rfl) (by kernel_rfl) (fun _ _ _ h => h) (Or.inl ⟨by rfl, ?_⟩) (by assumption) ?_
      rotate_left 1
      · (intro W hW; clear hW; go_simp; try with_reducible rfl)
      simp only [Act.put, List.getElem_toArray, List.getElem_cons_zero, List.setIfInBounds_toArray, List.set_cons_zero, List.set_cons_succ]
      refine wpAnyH_ready (rs := [1]) (by kernel_rfl) (by simp) ?_
      refine AllReadyH.cons rfl (fun K hK => ?_) AllReadyH.nil
      go_simp
      refine (errP hPq).mono ?_
      rintro z w9 ⟨rfl, rfl⟩
      go_wp2_with fail
      refine hK.out _ _ (hq) (fun hHeld => ?_)
      clear hK K
      try simp only [Act.put, List.getElem_toArray, List.getElem_cons_succ, List.getElem_cons_zero, List.setIfInBounds_toArray, List.set_cons_zero, List.set_cons_succ]
      refine wpAnyH_ready (rs := [2]) (by kernel_rfl) (by simp) ?_
      refine AllReadyH.cons rfl (fun K hK => ?_) AllReadyH.nil
      go_simp
      refine (num11_any _ _).mono ?_
      rintro z w9 ⟨rfl, rfl⟩
      go_wp2_with fail
      refine hK.out _ _ (hq) (fun hHeld => ?_)
      clear hK K
      try simp only [Act.put, List.getElem_toArray, List.getElem_cons_succ, List.getElem_cons_zero, List.setIfInBounds_toArray, List.set_cons_zero, List.set_cons_succ]
      refine wpAnyH_take (i := 3) (v := ?_) rfl (by kernel_rfl) (by kernel_rfl) (by kernel_rfl) (fun _ _ _ h => h) (Or.inl ⟨by rfl, ?_⟩) (by assumption) ?_
      rotate_left 1
      · (intro W hW; clear hW; go_simp; try with_reducible rfl)
      simp only [Act.put, List.getElem_toArray, List.getElem_cons_succ, List.getElem_cons_zero, List.setIfInBounds_toArray, List.set_cons_zero, List.set_cons_succ]
      refine wpAnyH_take (i := 4) (v := ?_) rfl (by kernel_rfl) (by kernel_rfl) (by kernel_rfl) (fun _ _ _ h => h) (Or.inl ⟨by rfl, ?_⟩) (by assumption) ?_
      rotate_left 1
      · (intro W hW; clear hW; go_simp; try with_reducible rfl)
      simp only [Act.put, List.getElem_toArray, List.getElem_cons_succ, List.getElem_cons_zero, List.setIfInBounds_toArray, List.set_cons_zero, List.set_cons_succ]
      refine wpAnyH_take (i := 5) (v := undef) rfl (by kernel_rfl) (by kernel_rfl) (by kernel_rfl) (fun _ _ _ h => h) (Or.inr ⟨by rfl, rfl⟩) (by assumption) ?_
      simp only [Act.put, List.getElem_toArray, List.getElem_cons_succ, List.getElem_cons_zero, List.setIfInBounds_toArray, List.set_cons_zero, List.set_cons_succ]
      refine wpAnyH_take (i := 6) (v := undef) rfl (by kernel_rfl) (by kernel_rfl) (by kernel_rfl) (fun _ _ _ h => h) (Or.inr ⟨by rfl, rfl⟩) (by assumption) ?_
      simp only [Act.put, List.getElem_toArray, List.getElem_cons_succ, List.getElem_cons_zero, List.setIfInBounds_toArray, List.set_cons_zero, List.set_cons_succ]
      refine wpAnyH_take (i := 7) (v := undef) rfl (by kernel_rfl) (by kernel_rfl) (by kernel_rfl) (fun _ _ _ h => h) (Or.inr ⟨by rfl, rfl⟩) (by assumption) ?_
      simp only [Act.put, List.getElem_toArray, List.getElem_cons_succ, List.getElem_cons_zero, List.setIfInBounds_toArray, List.set_cons_zero, List.set_cons_succ]
      refine wpAnyH_take (i := 8) (v := undef) rfl (by kernel_rfl) (by kernel_rfl) (by kernel_rfl) (fun _ _ _ h => h) (Or.inr ⟨by rfl, rfl⟩) (by assumption) ?_
      simp only [Act.put, List.getElem_toArray, List.getElem_cons_succ, List.getElem_cons_zero, List.setIfInBounds_toArray, List.set_cons_zero, List.set_cons_succ]
      refine wpAnyH_take (i := 9) (v := undef) rfl (by kernel_rfl) (by kernel_rfl) (by kernel_rfl) (fun _ _ _ h => h) (Or.inr ⟨by rfl, rfl⟩) (by assumption) ?_
      simp only [Act.put, List.getElem_toArray, List.getElem_cons_succ, List.getElem_cons_zero, List.setIfInBounds_toArray, List.set_cons_zero, List.set_cons_succ]
      refine wpAnyH_take (i := 10) (v := undef) rfl (by kernel_rfl) (by kernel_rfl) (by kernel_rfl) (fun _ _ _ h => h) (Or.inr ⟨by rfl, rfl⟩) (by assumption) ?_
      simp only [Act.put, List.getElem_toArray, List.getElem_cons_succ, List.getElem_cons_zero, List.setIfInBounds_toArray, List.set_cons_zero, List.set_cons_succ]
      refine wpAnyH_take (i := 11) (v := undef) rfl (by kernel_rfl) (by kernel_rfl) (by kernel_rfl) (fun _ _ _ h => h) (Or.inr ⟨by rfl, rfl⟩) (by assumption) ?_
      simp only [Act.put, List.getElem_toArray, List.getElem_cons_succ, List.getElem_cons_zero, List.setIfInBounds_toArray, List.set_cons_zero, List.set_cons_succ]
      refine wpAnyH_take (i := 12) (v := undef) rfl (by kernel_rfl) (by kernel_rfl) (by kernel_rfl) (fun _ _ _ h => h) (Or.inr ⟨by rfl, rfl⟩) (by assumption) ?_
      simp only [Act.put, List.getElem_toArray, List.getElem_cons_succ, List.getElem_cons_zero, List.setIfInBounds_toArray, List.set_cons_zero, List.set_cons_succ]
      refine wpAnyH_take (i := 13) (v := undef) rfl (by kernel_rfl) (by kernel_rfl) (by kernel_rfl) (fun _ _ _ h => h) (Or.inr ⟨by rfl, rfl⟩) (by assumption) ?_
      simp only [Act.put, List.getElem_toArray, List.getElem_cons_succ, List.getElem_cons_zero, List.setIfInBounds_toArray, List.set_cons_zero, List.set_cons_succ]
      refine wpAnyH_take (i := 14) (v := undef) rfl (by kernel_rfl) (by kernel_rfl) (by kernel_rfl) (fun _ _ _ h => h) (Or.inr ⟨by rfl, rfl⟩) (by assumption) ?_
      simp only [Act.put, List.getElem_toArray, List.getElem_cons_succ, List.getElem_cons_zero, List.setIfInBounds_toArray, List.set_cons_zero, List.set_cons_succ]
      refine wpAnyH_take (i := 15) (v := undef) rfl (by kernel_rfl) (by kernel_rfl) (by kernel_rfl) (fun _ _ _ h => h) (Or.inr ⟨by rfl, rfl⟩) (by assumption) ?_
      simp only [Act.put, List.getElem_toArray, List.getElem_cons_succ, List.getElem_cons_zero, List.setIfInBounds_toArray, List.set_cons_zero, List.set_cons_succ]
      refine wpAnyH_take (i := 16) (v := undef) rfl (by kernel_rfl) (by kernel_rfl) (by kernel_rfl) (fun _ _ _ h => h) (Or.inr ⟨by rfl, rfl⟩) (by assumption) ?_
      simp only [Act.put, List.getElem_toArray, List.getElem_cons_succ, List.getElem_cons_zero, List.setIfInBounds_toArray, List.set_cons_zero, List.set_cons_succ]
      refine wpAnyH_take (i := 17) (v := undef) rfl (by kernel_rfl) (by kernel_rfl) (by kernel_rfl) (fun _ _ _ h => h) (Or.inr ⟨by rfl, rfl⟩) (by assumption) ?_
      simp only [Act.put, List.getElem_toArray, List.getElem_cons_succ, List.getElem_cons_zero, List.setIfInBounds_toArray, List.set_cons_zero, List.set_cons_succ]
      refine wpAnyH_take (i := 18) (v := undef) rfl (by kernel_rfl) (by kernel_rfl) (by kernel_rfl) (fun _ _ _ h => h) (Or.inr ⟨by rfl, rfl⟩) (by assumption) ?_
      simp only [Act.put, List.getElem_toArray, List.getElem_cons_succ, List.getElem_cons_zero, List.setIfInBounds_toArray, List.set_cons_zero, List.set_cons_succ]
      refine wpAnyH_take (i := 19) (v := undef) rfl (by kernel_rfl) (by kernel_rfl) (by kernel_rfl) (fun _ _ _ h => h) (Or.inr ⟨by rfl, rfl⟩) (by assumption) ?_
      simp only [Act.put, List.getElem_toArray, List.getElem_cons_succ, List.getElem_cons_zero, List.setIfInBounds_toArray, List.set_cons_zero, List.set_cons_succ]
      refine wpAnyH_take (i := 20) (v := undef) rfl (by kernel_rfl) (by kernel_rfl) (by kernel_rfl) (fun _ _ _ h => h) (Or.inr ⟨by rfl, rfl⟩) (by assumption) ?_
      simp only [Act.put, List.getElem_toArray, List.getElem_cons_succ, List.getElem_cons_zero, List.setIfInBounds_toArray, List.set_cons_zero, List.set_cons_succ]
      refine wpAnyH_take (i := 21) (v := undef) rfl (by kernel_rfl) (by kernel_rfl) (by kernel_rfl) (fun _ _ _ h => h) (Or.inr ⟨by rfl, rfl⟩) (by assumption) ?_
      simp only [Act.put, List.getElem_toArray, List.getElem_cons_succ, List.getElem_cons_zero, List.setIfInBounds_toArray, List.set_cons_zero, List.set_cons_succ]
      refine wpAnyH_take (i := 22) (v := undef) rfl (by kernel_rfl) (by kernel_rfl) (by kernel_rfl) (fun _ _ _ h => h) (Or.inr ⟨by rfl, rfl⟩) (by assumption) ?_
      simp only [Act.put, List.getElem_toArray, List.getElem_cons_succ, List.getElem_cons_zero, List.setIfInBounds_toArray, List.set_cons_zero, List.set_cons_succ]
      refine wpAnyH_take (i := 23) (v := undef) rfl (by kernel_rfl) (by kernel_rfl) (by kernel_rfl) (fun _ _ _ h => h) (Or.inr ⟨by rfl, rfl⟩) (by assumption) ?_
      simp only [Act.put, List.getElem_toArray, List.getElem_cons_succ, List.getElem_cons_zero, List.setIfInBounds_toArray, List.set_cons_zero, List.set_cons_succ]
      refine wpAnyH_take (i := 24) (v := undef) rfl (by kernel_rfl) (by kernel_rfl) (by kernel_rfl) (fun _ _ _ h => h) (Or.inr ⟨by rfl, rfl⟩) (by assumption) ?_
      simp only [Act.put, List.getElem_toArray, List.getElem_cons_succ, List.getElem_cons_zero, List.setIfInBounds_toArray, List.set_cons_zero, List.set_cons_succ]
      refine wpAnyH_take (i := 25) (v := undef) rfl (by kernel_rfl) (by kernel_rfl) (by kernel_rfl) (fun _ _ _ h => h) (Or.inr ⟨by rfl, rfl⟩) (by assumption) ?_
      simp only [Act.put, List.getElem_toArray, List.getElem_cons_succ, List.getElem_cons_zero, List.setIfInBounds_toArray, List.set_cons_zero, List.set_cons_succ]
      refine wpAnyH_take (i := 26) (v := undef) rfl (by kernel_rfl) (by kernel_rfl) (by kernel_rfl) (fun _ _ _ h => h) (Or.inr ⟨by rfl, rfl⟩) (by assumption) ?_
      simp only [Act.put, List.getElem_toArray, List.getElem_cons_succ, List.getElem_cons_zero, List.setIfInBounds_toArray, List.set_cons_zero, List.set_cons_succ]
      refine wpAnyH_take (i := 27) (v := undef) rfl (by kernel_rfl) (by kernel_rfl) (by kernel_rfl) (fun _ _ _ h => h) (Or.inr ⟨by rfl, rfl⟩) (by assumption) ?_
      simp only [Act.put, List.getElem_toArray, List.getElem_cons_succ, List.getElem_cons_zero, List.setIfInBounds_toArray, List.set_cons_zero, List.set_cons_succ]
      refine wpAnyH_take (i := 28) (v := ?_) rfl (by kernel_rfl) (by kernel_rfl) (by kernel_rfl) (fun _ _ _ h => h) (Or.inl ⟨by rfl, ?_⟩) (by assumption) ?_
      rotate_left 1
      · (intro W hW; clear hW; go_simp; try with_reducible rfl)
      simp only [Act.put, List.getElem_toArray, List.getElem_cons_succ, List.getElem_cons_zero, List.setIfInBounds_toArray, List.set_cons_zero, List.set_cons_succ]
      refine wpAnyH_take (i := 29) (v := ?_) rfl (by kernel_rfl) (by kernel_rfl) (by kernel_rfl) (fun _ _ _ h => h) (Or.inl ⟨by rfl, ?_⟩) (by assumption) ?_
      rotate_left 1
      · (intro W hW; clear hW; go_simp; try with_reducible rfl)
      simp only [Act.put, List.getElem_toArray, List.getElem_cons_succ, List.getElem_cons_zero, List.setIfInBounds_toArray, List.set_cons_zero, List.set_cons_succ]
      refine wpAnyH_ready (rs := [30]) (by kernel_rfl) (by simp) ?_
      refine AllReadyH.cons rfl (fun K hK => ?_) AllReadyH.nil
      go_simp
      refine (knows11_any _).mono ?_
      rintro e wk ⟨rfl, hbk⟩
      go_wp2_with fail
      refine hK.out _ _ (hq.trans hbk) (fun hHeld => ?_)
      clear hK K
      try simp only [Act.put, List.getElem_toArray, List.getElem_cons_succ, List.getElem_cons_zero, List.setIfInBounds_toArray, List.set_cons_zero, List.set_cons_succ]
      refine wpAnyH_take (i := 31) (v := ?_) rfl (by kernel_rfl) (by kernel_rfl) (by kernel_rfl) (fun _ _ _ h => h) (Or.inl ⟨by rfl, ?_⟩) (by assumption) ?_
      rotate_left 1
      · (intro W hW; clear hW; go_simp; try with_reducible rfl)
      simp only [Act.put, List.getElem_toArray, List.getElem_cons_succ, List.getElem_cons_zero, List.setIfInBounds_toArray, List.set_cons_zero, List.set_cons_succ]
      refine wpAnyH_take (i := 32) (v := ?_) rfl (by kernel_rfl) (by kernel_rfl) (by kernel_rfl) (fun _ _ _ h => h) (Or.inl ⟨by rfl, ?_⟩) (by assumption) ?_
      rotate_left 1
      · (intro W hW; clear hW; go_simp; try with_reducible rfl)
      simp only [Act.put, List.getElem_toArray, List.getElem_cons_succ, List.getElem_cons_zero, List.setIfInBounds_toArray, List.set_cons_zero, List.set_cons_succ]
      refine wpAnyH_done (by kernel_rfl) ?_ _
      go_wp2
      go_ret
      exact ⟨by first | rfl | simp [*], hs0.trans (hSz.trans (hWb.trans (hq.trans hbk)))⟩
end
section
variable {kind ok x y : Int} {key val : ByteArray} {cl seq nd ep bx : Int} {ca : Option Addr} {cn cc : Nat} {l : List Int}
theorem eback_go (kind ok x y : Int) (key val : ByteArray) (cl seq nd ep bx : Int) (ca : Option Addr) (cn cc : Nat) (l : List Int) (A0 : Option Addr) (n0 c0 : Nat) (z0 : List Int) (w : World) (h : LZ w.heap.size w (.slice ca cn cc) l) (hr : RowIn .u8 w A0 n0 c0 z0) : Calls Tryd.prog 5 #[.agg #[.int .i64 kind, .int .i64 ok, .int .i64 x, .int .i64 y, .string key, .string val, .int .i64 cl, .int .i64 seq, .int .i64 nd, .int .i64 ep, .int .i64 bx, .slice ca cn cc], .slice A0 n0 c0] w fun e w' => e = .returned (.bool true) ∧ Below w.heap.size w w' := by
  have hs := seen_of_row hr
  obtain ⟨b, hl, hrd, hc⟩ := rd_of_row hr
  cases hh : lightB11 key val cn with
  | false => exact eback_heavy hh
  | true =>
    by_cases h5 : 300 < n0
    · exact eback_wide hh h5
    · exact eback_short h hh b hrd hl hc (by omega) hs
end
end Go.Proofs.YtimmnmidhjbanaaDoor
