/- gleberef08: Put. -/
import Derived.Test.YthfhpejpjiaikaaGreatK11
import Derived.Test.YthfhpejpjiaikaaGreatK18
import Derived.Test.YthfhpejpjiaikaaGreatK27
import Derived.Test.YthfhpejpjiaikaaGreatK34
namespace Go.Proofs.YthfhpejpjiaikaaGreat
open Go.RowKit
attribute [local go_sem] Oper.semAt_some
set_option linter.unusedVariables false
set_option linter.unusedSimpArgs false
theorem infoRR : (Tryz.prog.info? 52).map (fun i => (i.zero, i.size, i.bytes)) = some (some (.agg #[.int .i64 0, .int .i64 0, .string ⟨#[]⟩, .string ⟨#[]⟩, .int .i64 0]), 5, 56) := by kernel_rfl
theorem DocO.store {gr : Nat} {k d b : Int} {L L' : List Rq} {v v' : Value} {w W : World} (h : DocO gr k d b L v w) (hs : Since w W) {B : Nat} (hB : w.heap.size ≤ B) (hr : RowE encQ 5 W B 52 v' L') (h1 : SortQ L') (h2 : ∀ s ∈ L', inQ (zoneR k d b) s = true) :
    DocO gr k d b L' v' (W.setCell ⟨gr, 3, none⟩ v') ∧ Off (fun c => c = gr) w (W.setCell ⟨gr, 3, none⟩ v') := by
  have hlt := h.box.lt
  refine ⟨⟨(Since.whole hs h.box).set_ 3 _, (hr.far (p := ⟨gr, 3, none⟩) (by show gr < B; omega) _).mono (Nat.zero_le _), fun e => ?_, h.ok, h1, h2⟩, (Since.off hs (fun c => c = gr)).setCell (p := ⟨gr, 3, none⟩) (.inr rfl) _⟩
  have := (hr.own gr e).1; omega
theorem Off.since_of8 {F : Nat → Prop} {w W W' : World} (h : Off F W W') (hs : Since w W) (hF : ∀ b, F b → w.heap.size ≤ b) : Since w W' :=
  Off.below (F := F) ((Since.off hs F).trans h (fun _ _ z => z)) (Nat.le_refl _) hF
theorem put_no {L : List Rq} {r : Rq} {p : Nat} (hp : posQ L r.x r.y r.key = p) (hh : hasQ L r.x r.y r.key = false) : L.take p ++ [r] ++ L.drop p = putQ L r := by
  rw [putQ_new hh, hp, List.append_assoc]; rfl
theorem put_yes {L : List Rq} {r : Rq} {p : Nat} (hp : posQ L r.x r.y r.key = p) (hh : hasQ L r.x r.y r.key = true) (hl : p < L.length) : L.take p ++ [r] ++ L.drop (p + 1) = putQ L r := by
  unfold putQ
  rw [if_pos hh, hp, List.set_eq_take_append_cons_drop, if_pos hl, List.append_assoc]; rfl
/-- What Put leaves. -/
def DPutP (gr : Nat) (k d b : Int) (L : List Rq) (r : Rq) (w : World) (e : Ending) (W' : World) : Prop :=
  e = .returned (.tuple #[.bool (okR (zoneR k d b) r && hasQ L r.x r.y r.key), .int .i64 (if okR (zoneR k d b) r = true then 0 else 1)]) ∧ (∃ v', DocO gr k d b (putT (zoneR k d b) L r) v' W') ∧ Off (fun c => c = gr) w W'
set_option maxRecDepth 100000 in
set_option maxHeartbeats 6400000 in
theorem dput_any {gr : Nat} {k d b : Int} {L : List Rq} {v : Value} {w : World} (h : DocO gr k d b L v w) (hl : L.length ≤ 900) (r : Rq) :
    Calls Tryz.prog 33 #[.pointer (some ⟨gr, 0, none⟩), .agg #[.int .i64 r.x, .int .i64 r.y, .string r.key, .string r.val, .int .i64 r.ver]] w (DPutP gr k d b L r w) := by
  obtain ⟨va, vc, rfl⟩ := h.size
  obtain ⟨e1, he1⟩ : ∃ e, recB r.x r.y r.key r.val r.ver = e := ⟨_, rfl⟩
  obtain ⟨e2, he2⟩ : ∃ e, hasR (zoneR k d b) r.x r.y = e := ⟨_, rfl⟩
  obtain ⟨w0, hw0⟩ : ∃ w0, w0 = w.alloc (.cells #[.int .i64 r.x, .int .i64 r.y, .string r.key, .string r.val, .int .i64 r.ver] 52) := ⟨_, rfl⟩
  have hs0 : Since w w0 := by rw [hw0]; exact (Since.refl w).alloc _
  have wh0 : Whole w0 (w.heap.size) 52 #[.int .i64 r.x, .int .i64 r.y, .string r.key, .string r.val, .int .i64 r.ver] := by rw [hw0]; exact Whole.new w _ _
  have HW := Lib.hid hw0
  have c0_0 := box_cell wh0 0 (.int .i64 r.x) rfl
  have c0_1 := box_cell wh0 1 (.int .i64 r.y) rfl
  have c0_2 := box_cell wh0 2 (.string r.key) rfl
  have c0_3 := box_cell wh0 3 (.string r.val) rfl
  have c0_4 := box_cell wh0 4 (.int .i64 r.ver) rfl
  have hsr := Since.refl w0
  have hsd := hsr.drew
  clear hw0 wh0
  have HR := Lib.hid (fun W => refRightRec_at he1 W)
  have HH := Lib.hid (fun W (hW : Since w0 W) => dhas_any (h.since (hs0.trans hW)) r.x r.y)
  rw [he2] at HH
  have H0 := Lib.hid h
  have HE := Lib.hid (And.intro he1 he2)
  have HS0 := Lib.hid hs0
  have hno : okR (zoneR k d b) r = false → ∀ W', Since w W' → DPutP gr k d b L r w (.returned (.tuple #[.bool false, .int .i64 1])) W' := fun hn W' hW => by
    unfold DPutP putT
    rw [hn]
    exact ⟨rfl, ⟨_, H0.out.since hW⟩, hW.off _⟩
  have HNO := Lib.hid hno
  clear he1 he2 hs0 hno
  cases e1 with
  | false =>
    clear h
    go_enter Tryz.func33, Tryz.ntmps33
    go_wp2_with fail
    rw [← HW.out]
    go_wp2_with (go_at_call 40; (with_reducible refine (HR.out _).mono ?_); rintro e w1 ⟨rfl, hb1⟩; (have hs1 : Since w0 w1 := hb1))
    go_ret2
    exact HNO.out (by unfold okR; rw [HE.out.1, Bool.and_false]) _ (HS0.out.trans hs1)
  | true =>
    cases e2 with
    | false =>
      clear h
      go_enter Tryz.func33, Tryz.ntmps33
      go_wp2_with fail
      rw [← HW.out]
      go_wp2_with (first
        | (go_at_call 40; (with_reducible refine (HR.out _).mono ?_); rintro e w1 ⟨rfl, hb1⟩; (have hs1 : Since w0 w1 := hb1))
        | (go_at_call 58; (with_reducible refine (HH.out _ hs1).mono ?_); rintro e w2 ⟨rfl, hb2⟩; (have hs2 : Since w0 w2 := hs1.trans hb2)))
      go_ret2
      exact HNO.out (by unfold okR inQ; rw [HE.out.2]; rfl) _ (HS0.out.trans hs2)
    | true =>
      have hok : okR (zoneR k d b) r = true := by unfold okR inQ; rw [HE.out.1, HE.out.2]; rfl
      obtain ⟨p, hp⟩ : ∃ p, posQ L r.x r.y r.key = p := ⟨_, rfl⟩
      obtain ⟨E, hE⟩ : ∃ E, hasQ L r.x r.y r.key = E := ⟨_, rfl⟩
      have hpl : p ≤ L.length := hp ▸ posQ_le L r.x r.y r.key
      have HF := Lib.hid (fun W (hW : Since w0 W) => dfind_any (h.since (HS0.out.trans hW)) (by omega) r.x r.y r.key)
      rw [hp, hE] at HF
      have hyes : ∀ v' W', DocO gr k d b (putQ L r) v' W' → Off (fun c => c = gr) w W' → DPutP gr k d b L r w (.returned (.tuple #[.bool E, .int .i64 0])) W' := fun v' W' h1 h2 => by
        unfold DPutP putT
        rw [hok, hE]
        exact ⟨rfl, ⟨_, h1⟩, h2⟩
      have HY := Lib.hid hyes
      have hfs := putQ_sort h.sort r
      have hfi := putQ_in h.sort h.inn (r := r) HE.out.2
      have HFS := Lib.hid (And.intro hfs hfi)
      have HPE := Lib.hid (And.intro hp hE)
      have hcv := h.row.2
      clear h hok hp hE hyes hfs hfi
      go_enter Tryz.func33, Tryz.ntmps33
      go_wp2_with fail
      rw [← HW.out]
      go_upto_region 4 with (first
        | (go_at_call 40; (with_reducible refine (HR.out _).mono ?_); rintro e w1 ⟨rfl, hb1⟩; (have hs1 : Since w0 w1 := hb1))
        | (go_at_call 58; (with_reducible refine (HH.out _ hs1).mono ?_); rintro e w2 ⟨rfl, hb2⟩; (have hs2 : Since w0 w2 := hs1.trans hb2))
        | (go_at_call 59; (with_reducible refine (HF.out _ hs2).mono ?_); rintro e wl ⟨rfl, hb3⟩; (have hs3' : Since w0 wl := hs2.trans hb3)))
      have H := Lib.hid (H0.out.since (HS0.out.trans hs3'))
      have HSW := Lib.hid (HS0.out.trans hs3')
      have a3 := fun W (hW : Since wl W) => (Since.whole hW H.out.box).cell 3
      have b0 := fun W (hW : Since wl W) => c0_0 W (hs3'.trans hW)
      have b1 := fun W (hW : Since wl W) => c0_1 W (hs3'.trans hW)
      have b2 := fun W (hW : Since wl W) => c0_2 W (hs3'.trans hW)
      have b3 := fun W (hW : Since wl W) => c0_3 W (hs3'.trans hW)
      have b4 := fun W (hW : Since wl W) => c0_4 W (hs3'.trans hW)
      have hsl := Since.refl wl
      clear hs1 hs2 hb1 hb2 hb3 hsr hsd c0_0 c0_1 c0_2 c0_3 c0_4 hs3'
      rcases hcv with ⟨e1, e2⟩ | ⟨g, cap, cur, e1, _, _, hcap, hcm, _⟩
      · injection e1 with e1 e3 e4
        subst e1 e4
        obtain rfl : L = [] := List.eq_nil_of_length_eq_zero e2
        obtain rfl : p = 0 := by simpa using hpl
        obtain rfl : E = false := HPE.out.2.symm
        have hX := put_no (r := r) (L := []) HPE.out.1 HPE.out.2
        have HFIN := Lib.hid (And.intro (hX ▸ HFS.out.1) (hX ▸ HFS.out.2))
        have HX := Lib.hid hX
        clear hX
        go_wp2_with fail
        obtain ⟨wq, hwq⟩ : ∃ wq, wq = wl.drew := ⟨_, rfl⟩
        have hqs : Since wl wq := by rw [hwq]; exact (Since.refl wl).drew
        refine wp_region_last (fun W' => Since wl W') 16 (by kernel_rfl) (Since.refl wl).drew (fun hHeld => ?_)
        rw [← hwq] at hHeld ⊢
        clear hwq
        refine wpLast_take (i := 0) (v := ?_) rfl (by decide) (by kernel_rfl) (by kernel_rfl) (by kernel_rfl) (by kernel_rfl) (fun _ _ _ h => h) (Or.inl ⟨by rfl, ?_⟩) (by assumption) ?_
        rotate_left 1
        · (intro W hW; clear hW; go_simp; try with_reducible rfl)
        simp only [Act.put, List.getElem_toArray, List.getElem_cons_zero, List.setIfInBounds_toArray, List.set_cons_zero, List.set_cons_succ]
        refine wpLast_take (i := 2) (v := ?_) rfl (by decide) (by kernel_rfl) (by kernel_rfl) (by kernel_rfl) (by kernel_rfl) (fun _ _ _ h => h) (Or.inl ⟨by rfl, ?_⟩) (by assumption) ?_
        rotate_left 1
        · (intro W hW; clear hW; go_simp; try with_reducible rfl)
        simp only [Act.put, List.getElem_toArray, List.getElem_cons_succ, List.getElem_cons_zero, List.setIfInBounds_toArray, List.set_cons_zero, List.set_cons_succ]
        refine wpLast_take (i := 3) (v := ?_) rfl (by decide) (by kernel_rfl) (by kernel_rfl) (by kernel_rfl) (by kernel_rfl) (fun _ _ _ h => h) (Or.inl ⟨by rfl, ?_⟩) (by assumption) ?_
        rotate_left 1
        · (intro W hW; clear hW; go_simp; try with_reducible rfl)
        simp only [Act.put, List.getElem_toArray, List.getElem_cons_succ, List.getElem_cons_zero, List.setIfInBounds_toArray, List.set_cons_zero, List.set_cons_succ]
        refine wpLast_take (i := 4) (v := ?_) rfl (by decide) (by kernel_rfl) (by kernel_rfl) (by kernel_rfl) (by kernel_rfl) (fun _ _ _ h => h) (Or.inl ⟨by rfl, ?_⟩) (by assumption) ?_
        rotate_left 1
        · (intro W hW; clear hW; go_simp; try with_reducible rfl)
        simp only [Act.put, List.getElem_toArray, List.getElem_cons_succ, List.getElem_cons_zero, List.setIfInBounds_toArray, List.set_cons_zero, List.set_cons_succ]
        refine wpLast_take (i := 5) (v := ?_) rfl (by decide) (by kernel_rfl) (by kernel_rfl) (by kernel_rfl) (by kernel_rfl) (fun _ _ _ h => h) (Or.inl ⟨by rfl, ?_⟩) (by assumption) ?_
        rotate_left 1
        · (intro W hW; skip; go_simp; try with_reducible rfl)
        simp only [Act.put, List.getElem_toArray, List.getElem_cons_succ, List.getElem_cons_zero, List.setIfInBounds_toArray, List.set_cons_zero, List.set_cons_succ]
        refine wpLast_take (i := 6) (v := ?_) rfl (by decide) (by kernel_rfl) (by kernel_rfl) (by kernel_rfl) (by kernel_rfl) (fun _ _ _ h => h) (Or.inl ⟨by rfl, ?_⟩) (by assumption) ?_
        rotate_left 1
        · (intro W hW; clear hW; go_simp; try with_reducible rfl)
        simp only [Act.put, List.getElem_toArray, List.getElem_cons_succ, List.getElem_cons_zero, List.setIfInBounds_toArray, List.set_cons_zero, List.set_cons_succ]
        refine wpLast_take (i := 7) (v := ?_) rfl (by decide) (by kernel_rfl) (by kernel_rfl) (by kernel_rfl) (by kernel_rfl) (fun _ _ _ h => h) (Or.inl ⟨by rfl, ?_⟩) (by assumption) ?_
        rotate_left 1
        · (intro W hW; clear hW; go_simp; try with_reducible rfl)
        simp only [Act.put, List.getElem_toArray, List.getElem_cons_succ, List.getElem_cons_zero, List.setIfInBounds_toArray, List.set_cons_zero, List.set_cons_succ]
        refine wpLast_take (i := 9) (v := ?_) rfl (by decide) (by kernel_rfl) (by kernel_rfl) (by kernel_rfl) (by kernel_rfl) (fun _ _ _ h => h) (Or.inl ⟨by rfl, ?_⟩) (by assumption) ?_
        rotate_left 1
        · (intro W hW; skip; go_simp; try with_reducible rfl)
        simp only [Act.put, List.getElem_toArray, List.getElem_cons_succ, List.getElem_cons_zero, List.setIfInBounds_toArray, List.set_cons_zero, List.set_cons_succ]
        refine wpLast_take (i := 12) (v := ?_) rfl (by decide) (by kernel_rfl) (by kernel_rfl) (by kernel_rfl) (by kernel_rfl) (fun _ _ _ h => h) (Or.inl ⟨by rfl, ?_⟩) (by assumption) ?_
        rotate_left 1
        · (intro W hW; clear hW; go_simp; try with_reducible rfl)
        simp only [Act.put, List.getElem_toArray, List.getElem_cons_succ, List.getElem_cons_zero, List.setIfInBounds_toArray, List.set_cons_zero, List.set_cons_succ]
        refine wpLast_ready (rs := [1, 10]) (by kernel_rfl) (by simp) ?_
        refine LastReady.cons rfl (fun K hK => ?_) (LastReady.cons rfl (fun K hK => ?_) LastReady.nil)
        · go_simp
          have hrow0 := RowE.empty (enc := encQ) (n := 5) wq 52
          have hsx : Since wl (wq.alloc (.cells #[] 52)) := hqs.alloc _
          refine hK.out _ _ (fun _ => hsx) (fun hHeld => ?_)
          replace hHeld := hHeld (by decide)
          clear hK K
          try simp only [Act.put, List.getElem_toArray, List.getElem_cons_succ, List.getElem_cons_zero, List.setIfInBounds_toArray, List.set_cons_zero, List.set_cons_succ]
          refine wpLast_ready (rs := [8, 10]) (by kernel_rfl) (by simp) ?_
          refine LastReady.cons rfl (fun K hK => ?_) (LastReady.cons rfl (fun K hK => ?_) LastReady.nil)
          · refine step_append_val rfl (.tmp 43) (.tmp 49) 24 rfl wq.heap.size 52 _ 56 Tryz.underlying24 infoRR rfl (by decide) hrow0 (show PartE encQ _ _ (([] : List Rq).take 0) from .inl ⟨rfl, rfl⟩) encQ_len encQ_one rfl rfl (by simp only [List.length_append, List.length_take, List.length_drop, List.length_cons, List.length_nil]; omega) (by decide) (by simp only [World.size_alloc]; omega) ?_
            intro V3 w3 hrow3 hoff3
            have hs3 : Since wl w3 := hoff3.since_of8 hsx (fun x e => by have := (hrow0.own x e).1; have := hqs.size; omega)
            have hz3 : wq.heap.size ≤ w3.heap.size := by have := hoff3.size; (try simp at this); omega
            refine hK.out _ _ (fun _ => hs3) (fun hHeld => ?_)
            replace hHeld := hHeld (by decide)
            clear hK K
            try simp only [Act.put, List.getElem_toArray, List.getElem_cons_succ, List.getElem_cons_zero, List.setIfInBounds_toArray, List.set_cons_zero, List.set_cons_succ]
            refine wpLast_ready (rs := [10]) (by kernel_rfl) (by simp) ?_
            refine LastReady.cons rfl (fun K hK => ?_) LastReady.nil
            go_simp
            have hw5 := Whole.new w3 52 #[.int .i64 r.x, .int .i64 r.y, .string r.key, .string r.val, .int .i64 r.ver]
            replace hrow3 := hrow3.alloc (.cells #[.int .i64 r.x, .int .i64 r.y, .string r.key, .string r.val, .int .i64 r.ver] 52)
            replace hs3 := hs3.alloc (.cells #[.int .i64 r.x, .int .i64 r.y, .string r.key, .string r.val, .int .i64 r.ver] 52)
            refine hK.out _ _ (fun _ => hs3) (fun hHeld => ?_)
            replace hHeld := hHeld (by decide)
            clear hK K
            try simp only [Act.put, List.getElem_toArray, List.getElem_cons_succ, List.getElem_cons_zero, List.setIfInBounds_toArray, List.set_cons_zero, List.set_cons_succ]
            refine wpLast_ready (rs := [11]) (by kernel_rfl) (by simp) ?_
            refine LastReady.cons rfl (fun K hK => ?_) LastReady.nil
            refine step_append_val rfl (.tmp 50) (.tmp 52) 24 rfl wq.heap.size 52 _ 56 Tryz.underlying24 infoRR rfl (by decide) hrow3 (PartE.one (r := r) hw5) encQ_len encQ_one rfl rfl (by simp only [List.length_append, List.length_take, List.length_drop, List.length_cons, List.length_nil]; omega) (by decide) (by simp; omega) ?_
            intro V4 w4 hrow4 hoff4
            have hs4 : Since wl w4 := hoff4.since_of8 hs3 (fun x e => by have := (hrow3.own x e).1; have := hqs.size; omega)
            have hz4 : wq.heap.size ≤ w4.heap.size := by have := hoff4.size; (try simp at this); omega
            refine hK.out _ _ (fun _ => hs4) (fun hHeld => ?_)
            replace hHeld := hHeld (by decide)
            clear hK K
            try simp only [Act.put, List.getElem_toArray, List.getElem_cons_succ, List.getElem_cons_zero, List.setIfInBounds_toArray, List.set_cons_zero, List.set_cons_succ]
            refine wpLast_ready (rs := [13]) (by kernel_rfl) (by simp) ?_
            refine LastReady.cons rfl (fun K hK => ?_) LastReady.nil
            refine step_append_val rfl (.tmp 53) (.tmp 54) 24 rfl wq.heap.size 52 _ 56 Tryz.underlying24 infoRR rfl (by decide) hrow4 (show PartE encQ _ _ (([] : List Rq).drop 0) from .inl ⟨rfl, rfl⟩) encQ_len encQ_one rfl rfl (by simp only [List.length_append, List.length_take, List.length_drop, List.length_cons, List.length_nil]; omega) (by decide) hz4 ?_
            intro V5 w5 hrow5 hoff5
            obtain ⟨va5, vn5, vc5, rfl⟩ := hrow5.shape3
            have hs5 : Since wl w5 := hoff5.since_of8 hs4 (fun x e => by have := (hrow4.own x e).1; have := hqs.size; omega)
            have hw6 := Since.whole hs5 H.out.box
            have x5 := hw6.cell 3
            have y5 := hw6.frozen 3
            rw [List.nil_append] at hrow5
            have hfin := H.out.store hs5 hqs.size hrow5 (HFIN.out.1) (HFIN.out.2)
            refine hK.out _ _ (fun _ => hs5) (fun hHeld => ?_)
            replace hHeld := hHeld (by decide)
            clear hK K
            try simp only [Act.put, List.getElem_toArray, List.getElem_cons_succ, List.getElem_cons_zero, List.setIfInBounds_toArray, List.set_cons_zero, List.set_cons_succ]
            refine wpLast_take (i := 14) (v := ?_) rfl (by decide) (by kernel_rfl) (by kernel_rfl) (by kernel_rfl) (by kernel_rfl) (fun _ _ _ h => h) (Or.inl ⟨by rfl, ?_⟩) (by assumption) ?_
            rotate_left 1
            · (intro W hW; clear hW; go_simp; try with_reducible rfl)
            simp only [Act.put, List.getElem_toArray, List.getElem_cons_succ, List.getElem_cons_zero, List.setIfInBounds_toArray, List.set_cons_zero, List.set_cons_succ]
            refine wpLast_take (i := 15) (v := ?_) rfl (by decide) (by kernel_rfl) (by kernel_rfl) (by kernel_rfl) (by kernel_rfl) (fun _ _ _ h => h) (Or.inl ⟨by rfl, ?_⟩) (by assumption) ?_
            rotate_left 1
            · (intro W hW; clear hW; go_simp; try with_reducible rfl)
            simp only [Act.put, List.getElem_toArray, List.getElem_cons_succ, List.getElem_cons_zero, List.setIfInBounds_toArray, List.set_cons_zero, List.set_cons_succ]
            refine wpLast_ready (rs := [16]) (by kernel_rfl) (by simp) ?_
            refine LastReady.cons rfl (fun K hK => ?_) LastReady.nil
            go_simp
            skip
            refine hK.out _ _ (fun h => absurd rfl h) (fun hHeld => ?_)
            clear hK K
            try simp only [Act.put, List.getElem_toArray, List.getElem_cons_succ, List.getElem_cons_zero, List.setIfInBounds_toArray, List.set_cons_zero, List.set_cons_succ]
            refine wpLast_done (by kernel_rfl) ?_ _
            have HZ := Lib.hid hfin
            clear hfin
            go_wp2_with fail
            go_ret2
            exact HY.out _ _ (HX.out ▸ HZ.out.1) ((HSW.out.off _).trans HZ.out.2 (fun _ _ z => z))
          · go_simp
            have hw5 := Whole.new (wq.alloc (.cells #[] 52)) 52 #[.int .i64 r.x, .int .i64 r.y, .string r.key, .string r.val, .int .i64 r.ver]
            rw [World.size_alloc] at hw5
            replace hrow0 := hrow0.alloc (.cells #[.int .i64 r.x, .int .i64 r.y, .string r.key, .string r.val, .int .i64 r.ver] 52)
            replace hsx := hsx.alloc (.cells #[.int .i64 r.x, .int .i64 r.y, .string r.key, .string r.val, .int .i64 r.ver] 52)
            refine hK.out _ _ (fun _ => hsx) (fun hHeld => ?_)
            replace hHeld := hHeld (by decide)
            clear hK K
            try simp only [Act.put, List.getElem_toArray, List.getElem_cons_succ, List.getElem_cons_zero, List.setIfInBounds_toArray, List.set_cons_zero, List.set_cons_succ]
            refine wpLast_ready (rs := [8]) (by kernel_rfl) (by simp) ?_
            refine LastReady.cons rfl (fun K hK => ?_) LastReady.nil
            refine step_append_val rfl (.tmp 43) (.tmp 49) 24 rfl wq.heap.size 52 _ 56 Tryz.underlying24 infoRR rfl (by decide) hrow0 (show PartE encQ _ _ (([] : List Rq).take 0) from .inl ⟨rfl, rfl⟩) encQ_len encQ_one rfl rfl (by simp only [List.length_append, List.length_take, List.length_drop, List.length_cons, List.length_nil]; omega) (by decide) (by simp only [World.size_alloc]; omega) ?_
            intro V3 w3 hrow3 hoff3
            have hs3 : Since wl w3 := hoff3.since_of8 hsx (fun x e => by have := (hrow0.own x e).1; have := hqs.size; omega)
            have hz3 : wq.heap.size ≤ w3.heap.size := by have := hoff3.size; (try simp at this); omega
            replace hw5 := hoff3.whole hw5 (by simp [Value.ownBlock])
            refine hK.out _ _ (fun _ => hs3) (fun hHeld => ?_)
            replace hHeld := hHeld (by decide)
            clear hK K
            try simp only [Act.put, List.getElem_toArray, List.getElem_cons_succ, List.getElem_cons_zero, List.setIfInBounds_toArray, List.set_cons_zero, List.set_cons_succ]
            refine wpLast_ready (rs := [11]) (by kernel_rfl) (by simp) ?_
            refine LastReady.cons rfl (fun K hK => ?_) LastReady.nil
            refine step_append_val rfl (.tmp 50) (.tmp 52) 24 rfl wq.heap.size 52 _ 56 Tryz.underlying24 infoRR rfl (by decide) hrow3 (PartE.one (r := r) hw5) encQ_len encQ_one rfl rfl (by simp only [List.length_append, List.length_take, List.length_drop, List.length_cons, List.length_nil]; omega) (by decide) hz3 ?_
            intro V4 w4 hrow4 hoff4
            have hs4 : Since wl w4 := hoff4.since_of8 hs3 (fun x e => by have := (hrow3.own x e).1; have := hqs.size; omega)
            have hz4 : wq.heap.size ≤ w4.heap.size := by have := hoff4.size; (try simp at this); omega
            refine hK.out _ _ (fun _ => hs4) (fun hHeld => ?_)
            replace hHeld := hHeld (by decide)
            clear hK K
            try simp only [Act.put, List.getElem_toArray, List.getElem_cons_succ, List.getElem_cons_zero, List.setIfInBounds_toArray, List.set_cons_zero, List.set_cons_succ]
            refine wpLast_ready (rs := [13]) (by kernel_rfl) (by simp) ?_
            refine LastReady.cons rfl (fun K hK => ?_) LastReady.nil
            refine step_append_val rfl (.tmp 53) (.tmp 54) 24 rfl wq.heap.size 52 _ 56 Tryz.underlying24 infoRR rfl (by decide) hrow4 (show PartE encQ _ _ (([] : List Rq).drop 0) from .inl ⟨rfl, rfl⟩) encQ_len encQ_one rfl rfl (by simp only [List.length_append, List.length_take, List.length_drop, List.length_cons, List.length_nil]; omega) (by decide) hz4 ?_
            intro V5 w5 hrow5 hoff5
            obtain ⟨va5, vn5, vc5, rfl⟩ := hrow5.shape3
            have hs5 : Since wl w5 := hoff5.since_of8 hs4 (fun x e => by have := (hrow4.own x e).1; have := hqs.size; omega)
            have hw6 := Since.whole hs5 H.out.box
            have x5 := hw6.cell 3
            have y5 := hw6.frozen 3
            rw [List.nil_append] at hrow5
            have hfin := H.out.store hs5 hqs.size hrow5 (HFIN.out.1) (HFIN.out.2)
            refine hK.out _ _ (fun _ => hs5) (fun hHeld => ?_)
            replace hHeld := hHeld (by decide)
            clear hK K
            try simp only [Act.put, List.getElem_toArray, List.getElem_cons_succ, List.getElem_cons_zero, List.setIfInBounds_toArray, List.set_cons_zero, List.set_cons_succ]
            refine wpLast_take (i := 14) (v := ?_) rfl (by decide) (by kernel_rfl) (by kernel_rfl) (by kernel_rfl) (by kernel_rfl) (fun _ _ _ h => h) (Or.inl ⟨by rfl, ?_⟩) (by assumption) ?_
            rotate_left 1
            · (intro W hW; clear hW; go_simp; try with_reducible rfl)
            simp only [Act.put, List.getElem_toArray, List.getElem_cons_succ, List.getElem_cons_zero, List.setIfInBounds_toArray, List.set_cons_zero, List.set_cons_succ]
            refine wpLast_take (i := 15) (v := ?_) rfl (by decide) (by kernel_rfl) (by kernel_rfl) (by kernel_rfl) (by kernel_rfl) (fun _ _ _ h => h) (Or.inl ⟨by rfl, ?_⟩) (by assumption) ?_
            rotate_left 1
            · (intro W hW; clear hW; go_simp; try with_reducible rfl)
            simp only [Act.put, List.getElem_toArray, List.getElem_cons_succ, List.getElem_cons_zero, List.setIfInBounds_toArray, List.set_cons_zero, List.set_cons_succ]
            refine wpLast_ready (rs := [16]) (by kernel_rfl) (by simp) ?_
            refine LastReady.cons rfl (fun K hK => ?_) LastReady.nil
            go_simp
            skip
            refine hK.out _ _ (fun h => absurd rfl h) (fun hHeld => ?_)
            clear hK K
            try simp only [Act.put, List.getElem_toArray, List.getElem_cons_succ, List.getElem_cons_zero, List.setIfInBounds_toArray, List.set_cons_zero, List.set_cons_succ]
            refine wpLast_done (by kernel_rfl) ?_ _
            have HZ := Lib.hid hfin
            clear hfin
            go_wp2_with fail
            go_ret2
            exact HY.out _ _ (HX.out ▸ HZ.out.1) ((HSW.out.off _).trans HZ.out.2 (fun _ _ z => z))
        · go_simp
          have hw5 := Whole.new wq 52 #[.int .i64 r.x, .int .i64 r.y, .string r.key, .string r.val, .int .i64 r.ver]
          refine hK.out _ _ (fun _ => hqs.alloc _) (fun hHeld => ?_)
          replace hHeld := hHeld (by decide)
          clear hK K
          try simp only [Act.put, List.getElem_toArray, List.getElem_cons_succ, List.getElem_cons_zero, List.setIfInBounds_toArray, List.set_cons_zero, List.set_cons_succ]
          refine wpLast_ready (rs := [1]) (by kernel_rfl) (by simp) ?_
          refine LastReady.cons rfl (fun K hK => ?_) LastReady.nil
          go_simp
          have hrow0 := RowE.empty (enc := encQ) (n := 5) (wq.alloc (.cells #[.int .i64 r.x, .int .i64 r.y, .string r.key, .string r.val, .int .i64 r.ver] 52)) 52
          rw [World.size_alloc] at hrow0
          replace hrow0 := hrow0.mono (base' := wq.heap.size) (by omega)
          replace hw5 := hw5.alloc (.cells #[] 52)
          have hsx : Since wl ((wq.alloc (.cells #[.int .i64 r.x, .int .i64 r.y, .string r.key, .string r.val, .int .i64 r.ver] 52)).alloc (.cells #[] 52)) := (hqs.alloc _).alloc _
          refine hK.out _ _ (fun _ => hsx) (fun hHeld => ?_)
          replace hHeld := hHeld (by decide)
          clear hK K
          try simp only [Act.put, List.getElem_toArray, List.getElem_cons_succ, List.getElem_cons_zero, List.setIfInBounds_toArray, List.set_cons_zero, List.set_cons_succ]
          refine wpLast_ready (rs := [8]) (by kernel_rfl) (by simp) ?_
          refine LastReady.cons rfl (fun K hK => ?_) LastReady.nil
          refine step_append_val rfl (.tmp 43) (.tmp 49) 24 rfl wq.heap.size 52 _ 56 Tryz.underlying24 infoRR rfl (by decide) hrow0 (show PartE encQ _ _ (([] : List Rq).take 0) from .inl ⟨rfl, rfl⟩) encQ_len encQ_one rfl rfl (by simp only [List.length_append, List.length_take, List.length_drop, List.length_cons, List.length_nil]; omega) (by decide) (by simp only [World.size_alloc]; omega) ?_
          intro V3 w3 hrow3 hoff3
          have hs3 : Since wl w3 := hoff3.since_of8 hsx (fun x e => by have := (hrow0.own x e).1; have := hqs.size; omega)
          have hz3 : wq.heap.size ≤ w3.heap.size := by have := hoff3.size; (try simp at this); omega
          replace hw5 := hoff3.whole hw5 (by simp [Value.ownBlock])
          refine hK.out _ _ (fun _ => hs3) (fun hHeld => ?_)
          replace hHeld := hHeld (by decide)
          clear hK K
          try simp only [Act.put, List.getElem_toArray, List.getElem_cons_succ, List.getElem_cons_zero, List.setIfInBounds_toArray, List.set_cons_zero, List.set_cons_succ]
          refine wpLast_ready (rs := [11]) (by kernel_rfl) (by simp) ?_
          refine LastReady.cons rfl (fun K hK => ?_) LastReady.nil
          refine step_append_val rfl (.tmp 50) (.tmp 52) 24 rfl wq.heap.size 52 _ 56 Tryz.underlying24 infoRR rfl (by decide) hrow3 (PartE.one (r := r) hw5) encQ_len encQ_one rfl rfl (by simp only [List.length_append, List.length_take, List.length_drop, List.length_cons, List.length_nil]; omega) (by decide) hz3 ?_
          intro V4 w4 hrow4 hoff4
          have hs4 : Since wl w4 := hoff4.since_of8 hs3 (fun x e => by have := (hrow3.own x e).1; have := hqs.size; omega)
          have hz4 : wq.heap.size ≤ w4.heap.size := by have := hoff4.size; (try simp at this); omega
          refine hK.out _ _ (fun _ => hs4) (fun hHeld => ?_)
          replace hHeld := hHeld (by decide)
          clear hK K
          try simp only [Act.put, List.getElem_toArray, List.getElem_cons_succ, List.getElem_cons_zero, List.setIfInBounds_toArray, List.set_cons_zero, List.set_cons_succ]
          refine wpLast_ready (rs := [13]) (by kernel_rfl) (by simp) ?_
          refine LastReady.cons rfl (fun K hK => ?_) LastReady.nil
          refine step_append_val rfl (.tmp 53) (.tmp 54) 24 rfl wq.heap.size 52 _ 56 Tryz.underlying24 infoRR rfl (by decide) hrow4 (show PartE encQ _ _ (([] : List Rq).drop 0) from .inl ⟨rfl, rfl⟩) encQ_len encQ_one rfl rfl (by simp only [List.length_append, List.length_take, List.length_drop, List.length_cons, List.length_nil]; omega) (by decide) hz4 ?_
          intro V5 w5 hrow5 hoff5
          obtain ⟨va5, vn5, vc5, rfl⟩ := hrow5.shape3
          have hs5 : Since wl w5 := hoff5.since_of8 hs4 (fun x e => by have := (hrow4.own x e).1; have := hqs.size; omega)
          have hw6 := Since.whole hs5 H.out.box
          have x5 := hw6.cell 3
          have y5 := hw6.frozen 3
          rw [List.nil_append] at hrow5
          have hfin := H.out.store hs5 hqs.size hrow5 (HFIN.out.1) (HFIN.out.2)
          refine hK.out _ _ (fun _ => hs5) (fun hHeld => ?_)
          replace hHeld := hHeld (by decide)
          clear hK K
          try simp only [Act.put, List.getElem_toArray, List.getElem_cons_succ, List.getElem_cons_zero, List.setIfInBounds_toArray, List.set_cons_zero, List.set_cons_succ]
          refine wpLast_take (i := 14) (v := ?_) rfl (by decide) (by kernel_rfl) (by kernel_rfl) (by kernel_rfl) (by kernel_rfl) (fun _ _ _ h => h) (Or.inl ⟨by rfl, ?_⟩) (by assumption) ?_
          rotate_left 1
          · (intro W hW; clear hW; go_simp; try with_reducible rfl)
          simp only [Act.put, List.getElem_toArray, List.getElem_cons_succ, List.getElem_cons_zero, List.setIfInBounds_toArray, List.set_cons_zero, List.set_cons_succ]
          refine wpLast_take (i := 15) (v := ?_) rfl (by decide) (by kernel_rfl) (by kernel_rfl) (by kernel_rfl) (by kernel_rfl) (fun _ _ _ h => h) (Or.inl ⟨by rfl, ?_⟩) (by assumption) ?_
          rotate_left 1
          · (intro W hW; clear hW; go_simp; try with_reducible rfl)
          simp only [Act.put, List.getElem_toArray, List.getElem_cons_succ, List.getElem_cons_zero, List.setIfInBounds_toArray, List.set_cons_zero, List.set_cons_succ]
          refine wpLast_ready (rs := [16]) (by kernel_rfl) (by simp) ?_
          refine LastReady.cons rfl (fun K hK => ?_) LastReady.nil
          go_simp
          skip
          refine hK.out _ _ (fun h => absurd rfl h) (fun hHeld => ?_)
          clear hK K
          try simp only [Act.put, List.getElem_toArray, List.getElem_cons_succ, List.getElem_cons_zero, List.setIfInBounds_toArray, List.set_cons_zero, List.set_cons_succ]
          refine wpLast_done (by kernel_rfl) ?_ _
          have HZ := Lib.hid hfin
          clear hfin
          go_wp2_with fail
          go_ret2
          exact HY.out _ _ (HX.out ▸ HZ.out.1) ((HSW.out.off _).trans HZ.out.2 (fun _ _ z => z))
      · injection e1 with e1 e3 e4
        subst e1 e4
        have hmc : p ≤ vc := Nat.le_trans hpl hcap
        have hmi : (p : Int) ≤ (L.length : Int) := by omega
        have hm0 : (0 : Int) ≤ (p : Int) := by omega
        clear e3
        cases E with
        | false =>
          have hX := put_no (r := r) HPE.out.1 HPE.out.2
          have HFIN := Lib.hid (And.intro (hX ▸ HFS.out.1) (hX ▸ HFS.out.2))
          have HX := Lib.hid hX
          clear hX
          by_cases hvq : vc = p
          · replace hvq := hvq.symm
            subst hvq
            have HREST : Hid (∀ W, Since wl W → PartE encQ W (.slice (some ⟨g, 0, none⟩) 0 0) (L.drop p)) := fun W hW => by rw [List.drop_of_length_le hcap]; exact .inr ⟨⟨g, 0, none⟩, 0, rfl, fun j u hu => by cases hu⟩
            go_wp2_with fail
            obtain ⟨wq, hwq⟩ : ∃ wq, wq = wl.drew := ⟨_, rfl⟩
            have hqs : Since wl wq := by rw [hwq]; exact (Since.refl wl).drew
            refine wp_region_last (fun W' => Since wl W') 16 (by kernel_rfl) (Since.refl wl).drew (fun hHeld => ?_)
            rw [← hwq] at hHeld ⊢
            clear hwq
            refine wpLast_take (i := 0) (v := ?_) rfl (by decide) (by kernel_rfl) (by kernel_rfl) (by kernel_rfl) (by kernel_rfl) (fun _ _ _ h => h) (Or.inl ⟨by rfl, ?_⟩) (by assumption) ?_
            rotate_left 1
            · (intro W hW; clear hW; go_simp; try with_reducible rfl)
            simp only [Act.put, List.getElem_toArray, List.getElem_cons_zero, List.setIfInBounds_toArray, List.set_cons_zero, List.set_cons_succ]
            refine wpLast_take (i := 2) (v := ?_) rfl (by decide) (by kernel_rfl) (by kernel_rfl) (by kernel_rfl) (by kernel_rfl) (fun _ _ _ h => h) (Or.inl ⟨by rfl, ?_⟩) (by assumption) ?_
            rotate_left 1
            · (intro W hW; clear hW; go_simp; try with_reducible rfl)
            simp only [Act.put, List.getElem_toArray, List.getElem_cons_succ, List.getElem_cons_zero, List.setIfInBounds_toArray, List.set_cons_zero, List.set_cons_succ]
            refine wpLast_take (i := 3) (v := ?_) rfl (by decide) (by kernel_rfl) (by kernel_rfl) (by kernel_rfl) (by kernel_rfl) (fun _ _ _ h => h) (Or.inl ⟨by rfl, ?_⟩) (by assumption) ?_
            rotate_left 1
            · (intro W hW; clear hW; go_simp; try with_reducible rfl)
            simp only [Act.put, List.getElem_toArray, List.getElem_cons_succ, List.getElem_cons_zero, List.setIfInBounds_toArray, List.set_cons_zero, List.set_cons_succ]
            refine wpLast_take (i := 4) (v := ?_) rfl (by decide) (by kernel_rfl) (by kernel_rfl) (by kernel_rfl) (by kernel_rfl) (fun _ _ _ h => h) (Or.inl ⟨by rfl, ?_⟩) (by assumption) ?_
            rotate_left 1
            · (intro W hW; clear hW; go_simp; try with_reducible rfl)
            simp only [Act.put, List.getElem_toArray, List.getElem_cons_succ, List.getElem_cons_zero, List.setIfInBounds_toArray, List.set_cons_zero, List.set_cons_succ]
            refine wpLast_take (i := 5) (v := ?_) rfl (by decide) (by kernel_rfl) (by kernel_rfl) (by kernel_rfl) (by kernel_rfl) (fun _ _ _ h => h) (Or.inl ⟨by rfl, ?_⟩) (by assumption) ?_
            rotate_left 1
            · (intro W hW; skip; go_simp; try with_reducible rfl)
            simp only [Act.put, List.getElem_toArray, List.getElem_cons_succ, List.getElem_cons_zero, List.setIfInBounds_toArray, List.set_cons_zero, List.set_cons_succ]
            refine wpLast_take (i := 6) (v := ?_) rfl (by decide) (by kernel_rfl) (by kernel_rfl) (by kernel_rfl) (by kernel_rfl) (fun _ _ _ h => h) (Or.inl ⟨by rfl, ?_⟩) (by assumption) ?_
            rotate_left 1
            · (intro W hW; clear hW; go_simp; try with_reducible rfl)
            simp only [Act.put, List.getElem_toArray, List.getElem_cons_succ, List.getElem_cons_zero, List.setIfInBounds_toArray, List.set_cons_zero, List.set_cons_succ]
            refine wpLast_take (i := 7) (v := ?_) rfl (by decide) (by kernel_rfl) (by kernel_rfl) (by kernel_rfl) (by kernel_rfl) (fun _ _ _ h => h) (Or.inl ⟨by rfl, ?_⟩) (by assumption) ?_
            rotate_left 1
            · (intro W hW; clear hW; go_simp; try with_reducible rfl)
            simp only [Act.put, List.getElem_toArray, List.getElem_cons_succ, List.getElem_cons_zero, List.setIfInBounds_toArray, List.set_cons_zero, List.set_cons_succ]
            refine wpLast_take (i := 9) (v := ?_) rfl (by decide) (by kernel_rfl) (by kernel_rfl) (by kernel_rfl) (by kernel_rfl) (fun _ _ _ h => h) (Or.inl ⟨by rfl, ?_⟩) (by assumption) ?_
            rotate_left 1
            · (intro W hW; skip; go_simp; try with_reducible rfl)
            simp only [Act.put, List.getElem_toArray, List.getElem_cons_succ, List.getElem_cons_zero, List.setIfInBounds_toArray, List.set_cons_zero, List.set_cons_succ]
            refine wpLast_take (i := 12) (v := ?_) rfl (by decide) (by kernel_rfl) (by kernel_rfl) (by kernel_rfl) (by kernel_rfl) (fun _ _ _ h => h) (Or.inl ⟨by rfl, ?_⟩) (by assumption) ?_
            rotate_left 1
            · (intro W hW; clear hW; go_simp; try with_reducible rfl)
            simp only [Act.put, List.getElem_toArray, List.getElem_cons_succ, List.getElem_cons_zero, List.setIfInBounds_toArray, List.set_cons_zero, List.set_cons_succ]
            refine wpLast_ready (rs := [1, 10]) (by kernel_rfl) (by simp) ?_
            refine LastReady.cons rfl (fun K hK => ?_) (LastReady.cons rfl (fun K hK => ?_) LastReady.nil)
            · go_simp
              have hrow0 := RowE.empty (enc := encQ) (n := 5) wq 52
              have hsx : Since wl (wq.alloc (.cells #[] 52)) := hqs.alloc _
              refine hK.out _ _ (fun _ => hsx) (fun hHeld => ?_)
              replace hHeld := hHeld (by decide)
              clear hK K
              try simp only [Act.put, List.getElem_toArray, List.getElem_cons_succ, List.getElem_cons_zero, List.setIfInBounds_toArray, List.set_cons_zero, List.set_cons_succ]
              refine wpLast_ready (rs := [8, 10]) (by kernel_rfl) (by simp) ?_
              refine LastReady.cons rfl (fun K hK => ?_) (LastReady.cons rfl (fun K hK => ?_) LastReady.nil)
              · refine step_append_val rfl (.tmp 43) (.tmp 49) 24 rfl wq.heap.size 52 _ 56 Tryz.underlying24 infoRR rfl (by decide) hrow0 ((H.out.row.since hsx).take encQ_len (by omega)) encQ_len encQ_one rfl rfl (by simp only [List.length_append, List.length_take, List.length_drop, List.length_cons, List.length_nil]; omega) (by decide) (by simp only [World.size_alloc]; omega) ?_
                intro V3 w3 hrow3 hoff3
                have hs3 : Since wl w3 := hoff3.since_of8 hsx (fun x e => by have := (hrow0.own x e).1; have := hqs.size; omega)
                have hz3 : wq.heap.size ≤ w3.heap.size := by have := hoff3.size; (try simp at this); omega
                refine hK.out _ _ (fun _ => hs3) (fun hHeld => ?_)
                replace hHeld := hHeld (by decide)
                clear hK K
                try simp only [Act.put, List.getElem_toArray, List.getElem_cons_succ, List.getElem_cons_zero, List.setIfInBounds_toArray, List.set_cons_zero, List.set_cons_succ]
                refine wpLast_ready (rs := [10]) (by kernel_rfl) (by simp) ?_
                refine LastReady.cons rfl (fun K hK => ?_) LastReady.nil
                go_simp
                have hw5 := Whole.new w3 52 #[.int .i64 r.x, .int .i64 r.y, .string r.key, .string r.val, .int .i64 r.ver]
                replace hrow3 := hrow3.alloc (.cells #[.int .i64 r.x, .int .i64 r.y, .string r.key, .string r.val, .int .i64 r.ver] 52)
                replace hs3 := hs3.alloc (.cells #[.int .i64 r.x, .int .i64 r.y, .string r.key, .string r.val, .int .i64 r.ver] 52)
                refine hK.out _ _ (fun _ => hs3) (fun hHeld => ?_)
                replace hHeld := hHeld (by decide)
                clear hK K
                try simp only [Act.put, List.getElem_toArray, List.getElem_cons_succ, List.getElem_cons_zero, List.setIfInBounds_toArray, List.set_cons_zero, List.set_cons_succ]
                refine wpLast_ready (rs := [11]) (by kernel_rfl) (by simp) ?_
                refine LastReady.cons rfl (fun K hK => ?_) LastReady.nil
                refine step_append_val rfl (.tmp 50) (.tmp 52) 24 rfl wq.heap.size 52 _ 56 Tryz.underlying24 infoRR rfl (by decide) hrow3 (PartE.one (r := r) hw5) encQ_len encQ_one rfl rfl (by simp only [List.length_append, List.length_take, List.length_drop, List.length_cons, List.length_nil]; omega) (by decide) (by simp; omega) ?_
                intro V4 w4 hrow4 hoff4
                have hs4 : Since wl w4 := hoff4.since_of8 hs3 (fun x e => by have := (hrow3.own x e).1; have := hqs.size; omega)
                have hz4 : wq.heap.size ≤ w4.heap.size := by have := hoff4.size; (try simp at this); omega
                refine hK.out _ _ (fun _ => hs4) (fun hHeld => ?_)
                replace hHeld := hHeld (by decide)
                clear hK K
                try simp only [Act.put, List.getElem_toArray, List.getElem_cons_succ, List.getElem_cons_zero, List.setIfInBounds_toArray, List.set_cons_zero, List.set_cons_succ]
                refine wpLast_ready (rs := [13]) (by kernel_rfl) (by simp) ?_
                refine LastReady.cons rfl (fun K hK => ?_) LastReady.nil
                refine step_append_val rfl (.tmp 53) (.tmp 54) 24 rfl wq.heap.size 52 _ 56 Tryz.underlying24 infoRR rfl (by decide) hrow4 (HREST.out w4 hs4) encQ_len encQ_one rfl rfl (by simp only [List.length_append, List.length_take, List.length_drop, List.length_cons, List.length_nil]; omega) (by decide) hz4 ?_
                intro V5 w5 hrow5 hoff5
                obtain ⟨va5, vn5, vc5, rfl⟩ := hrow5.shape3
                have hs5 : Since wl w5 := hoff5.since_of8 hs4 (fun x e => by have := (hrow4.own x e).1; have := hqs.size; omega)
                have hw6 := Since.whole hs5 H.out.box
                have x5 := hw6.cell 3
                have y5 := hw6.frozen 3
                rw [List.nil_append] at hrow5
                have hfin := H.out.store hs5 hqs.size hrow5 (HFIN.out.1) (HFIN.out.2)
                refine hK.out _ _ (fun _ => hs5) (fun hHeld => ?_)
                replace hHeld := hHeld (by decide)
                clear hK K
                try simp only [Act.put, List.getElem_toArray, List.getElem_cons_succ, List.getElem_cons_zero, List.setIfInBounds_toArray, List.set_cons_zero, List.set_cons_succ]
                refine wpLast_take (i := 14) (v := ?_) rfl (by decide) (by kernel_rfl) (by kernel_rfl) (by kernel_rfl) (by kernel_rfl) (fun _ _ _ h => h) (Or.inl ⟨by rfl, ?_⟩) (by assumption) ?_
                rotate_left 1
                · (intro W hW; clear hW; go_simp; try with_reducible rfl)
                simp only [Act.put, List.getElem_toArray, List.getElem_cons_succ, List.getElem_cons_zero, List.setIfInBounds_toArray, List.set_cons_zero, List.set_cons_succ]
                refine wpLast_take (i := 15) (v := ?_) rfl (by decide) (by kernel_rfl) (by kernel_rfl) (by kernel_rfl) (by kernel_rfl) (fun _ _ _ h => h) (Or.inl ⟨by rfl, ?_⟩) (by assumption) ?_
                rotate_left 1
                · (intro W hW; clear hW; go_simp; try with_reducible rfl)
                simp only [Act.put, List.getElem_toArray, List.getElem_cons_succ, List.getElem_cons_zero, List.setIfInBounds_toArray, List.set_cons_zero, List.set_cons_succ]
                refine wpLast_ready (rs := [16]) (by kernel_rfl) (by simp) ?_
                refine LastReady.cons rfl (fun K hK => ?_) LastReady.nil
                go_simp
                skip
                refine hK.out _ _ (fun h => absurd rfl h) (fun hHeld => ?_)
                clear hK K
                try simp only [Act.put, List.getElem_toArray, List.getElem_cons_succ, List.getElem_cons_zero, List.setIfInBounds_toArray, List.set_cons_zero, List.set_cons_succ]
                refine wpLast_done (by kernel_rfl) ?_ _
                have HZ := Lib.hid hfin
                clear hfin
                go_wp2_with fail
                go_ret2
                exact HY.out _ _ (HX.out ▸ HZ.out.1) ((HSW.out.off _).trans HZ.out.2 (fun _ _ z => z))
              · go_simp
                have hw5 := Whole.new (wq.alloc (.cells #[] 52)) 52 #[.int .i64 r.x, .int .i64 r.y, .string r.key, .string r.val, .int .i64 r.ver]
                rw [World.size_alloc] at hw5
                replace hrow0 := hrow0.alloc (.cells #[.int .i64 r.x, .int .i64 r.y, .string r.key, .string r.val, .int .i64 r.ver] 52)
                replace hsx := hsx.alloc (.cells #[.int .i64 r.x, .int .i64 r.y, .string r.key, .string r.val, .int .i64 r.ver] 52)
                refine hK.out _ _ (fun _ => hsx) (fun hHeld => ?_)
                replace hHeld := hHeld (by decide)
                clear hK K
                try simp only [Act.put, List.getElem_toArray, List.getElem_cons_succ, List.getElem_cons_zero, List.setIfInBounds_toArray, List.set_cons_zero, List.set_cons_succ]
                refine wpLast_ready (rs := [8]) (by kernel_rfl) (by simp) ?_
                refine LastReady.cons rfl (fun K hK => ?_) LastReady.nil
                refine step_append_val rfl (.tmp 43) (.tmp 49) 24 rfl wq.heap.size 52 _ 56 Tryz.underlying24 infoRR rfl (by decide) hrow0 ((H.out.row.since hsx).take encQ_len (by omega)) encQ_len encQ_one rfl rfl (by simp only [List.length_append, List.length_take, List.length_drop, List.length_cons, List.length_nil]; omega) (by decide) (by simp only [World.size_alloc]; omega) ?_
                intro V3 w3 hrow3 hoff3
                have hs3 : Since wl w3 := hoff3.since_of8 hsx (fun x e => by have := (hrow0.own x e).1; have := hqs.size; omega)
                have hz3 : wq.heap.size ≤ w3.heap.size := by have := hoff3.size; (try simp at this); omega
                replace hw5 := hoff3.whole hw5 (by simp [Value.ownBlock])
                refine hK.out _ _ (fun _ => hs3) (fun hHeld => ?_)
                replace hHeld := hHeld (by decide)
                clear hK K
                try simp only [Act.put, List.getElem_toArray, List.getElem_cons_succ, List.getElem_cons_zero, List.setIfInBounds_toArray, List.set_cons_zero, List.set_cons_succ]
                refine wpLast_ready (rs := [11]) (by kernel_rfl) (by simp) ?_
                refine LastReady.cons rfl (fun K hK => ?_) LastReady.nil
                refine step_append_val rfl (.tmp 50) (.tmp 52) 24 rfl wq.heap.size 52 _ 56 Tryz.underlying24 infoRR rfl (by decide) hrow3 (PartE.one (r := r) hw5) encQ_len encQ_one rfl rfl (by simp only [List.length_append, List.length_take, List.length_drop, List.length_cons, List.length_nil]; omega) (by decide) hz3 ?_
                intro V4 w4 hrow4 hoff4
                have hs4 : Since wl w4 := hoff4.since_of8 hs3 (fun x e => by have := (hrow3.own x e).1; have := hqs.size; omega)
                have hz4 : wq.heap.size ≤ w4.heap.size := by have := hoff4.size; (try simp at this); omega
                refine hK.out _ _ (fun _ => hs4) (fun hHeld => ?_)
                replace hHeld := hHeld (by decide)
                clear hK K
                try simp only [Act.put, List.getElem_toArray, List.getElem_cons_succ, List.getElem_cons_zero, List.setIfInBounds_toArray, List.set_cons_zero, List.set_cons_succ]
                refine wpLast_ready (rs := [13]) (by kernel_rfl) (by simp) ?_
                refine LastReady.cons rfl (fun K hK => ?_) LastReady.nil
                refine step_append_val rfl (.tmp 53) (.tmp 54) 24 rfl wq.heap.size 52 _ 56 Tryz.underlying24 infoRR rfl (by decide) hrow4 (HREST.out w4 hs4) encQ_len encQ_one rfl rfl (by simp only [List.length_append, List.length_take, List.length_drop, List.length_cons, List.length_nil]; omega) (by decide) hz4 ?_
                intro V5 w5 hrow5 hoff5
                obtain ⟨va5, vn5, vc5, rfl⟩ := hrow5.shape3
                have hs5 : Since wl w5 := hoff5.since_of8 hs4 (fun x e => by have := (hrow4.own x e).1; have := hqs.size; omega)
                have hw6 := Since.whole hs5 H.out.box
                have x5 := hw6.cell 3
                have y5 := hw6.frozen 3
                rw [List.nil_append] at hrow5
                have hfin := H.out.store hs5 hqs.size hrow5 (HFIN.out.1) (HFIN.out.2)
                refine hK.out _ _ (fun _ => hs5) (fun hHeld => ?_)
                replace hHeld := hHeld (by decide)
                clear hK K
                try simp only [Act.put, List.getElem_toArray, List.getElem_cons_succ, List.getElem_cons_zero, List.setIfInBounds_toArray, List.set_cons_zero, List.set_cons_succ]
                refine wpLast_take (i := 14) (v := ?_) rfl (by decide) (by kernel_rfl) (by kernel_rfl) (by kernel_rfl) (by kernel_rfl) (fun _ _ _ h => h) (Or.inl ⟨by rfl, ?_⟩) (by assumption) ?_
                rotate_left 1
                · (intro W hW; clear hW; go_simp; try with_reducible rfl)
                simp only [Act.put, List.getElem_toArray, List.getElem_cons_succ, List.getElem_cons_zero, List.setIfInBounds_toArray, List.set_cons_zero, List.set_cons_succ]
                refine wpLast_take (i := 15) (v := ?_) rfl (by decide) (by kernel_rfl) (by kernel_rfl) (by kernel_rfl) (by kernel_rfl) (fun _ _ _ h => h) (Or.inl ⟨by rfl, ?_⟩) (by assumption) ?_
                rotate_left 1
                · (intro W hW; clear hW; go_simp; try with_reducible rfl)
                simp only [Act.put, List.getElem_toArray, List.getElem_cons_succ, List.getElem_cons_zero, List.setIfInBounds_toArray, List.set_cons_zero, List.set_cons_succ]
                refine wpLast_ready (rs := [16]) (by kernel_rfl) (by simp) ?_
                refine LastReady.cons rfl (fun K hK => ?_) LastReady.nil
                go_simp
                skip
                refine hK.out _ _ (fun h => absurd rfl h) (fun hHeld => ?_)
                clear hK K
                try simp only [Act.put, List.getElem_toArray, List.getElem_cons_succ, List.getElem_cons_zero, List.setIfInBounds_toArray, List.set_cons_zero, List.set_cons_succ]
                refine wpLast_done (by kernel_rfl) ?_ _
                have HZ := Lib.hid hfin
                clear hfin
                go_wp2_with fail
                go_ret2
                exact HY.out _ _ (HX.out ▸ HZ.out.1) ((HSW.out.off _).trans HZ.out.2 (fun _ _ z => z))
            · go_simp
              have hw5 := Whole.new wq 52 #[.int .i64 r.x, .int .i64 r.y, .string r.key, .string r.val, .int .i64 r.ver]
              refine hK.out _ _ (fun _ => hqs.alloc _) (fun hHeld => ?_)
              replace hHeld := hHeld (by decide)
              clear hK K
              try simp only [Act.put, List.getElem_toArray, List.getElem_cons_succ, List.getElem_cons_zero, List.setIfInBounds_toArray, List.set_cons_zero, List.set_cons_succ]
              refine wpLast_ready (rs := [1]) (by kernel_rfl) (by simp) ?_
              refine LastReady.cons rfl (fun K hK => ?_) LastReady.nil
              go_simp
              have hrow0 := RowE.empty (enc := encQ) (n := 5) (wq.alloc (.cells #[.int .i64 r.x, .int .i64 r.y, .string r.key, .string r.val, .int .i64 r.ver] 52)) 52
              rw [World.size_alloc] at hrow0
              replace hrow0 := hrow0.mono (base' := wq.heap.size) (by omega)
              replace hw5 := hw5.alloc (.cells #[] 52)
              have hsx : Since wl ((wq.alloc (.cells #[.int .i64 r.x, .int .i64 r.y, .string r.key, .string r.val, .int .i64 r.ver] 52)).alloc (.cells #[] 52)) := (hqs.alloc _).alloc _
              refine hK.out _ _ (fun _ => hsx) (fun hHeld => ?_)
              replace hHeld := hHeld (by decide)
              clear hK K
              try simp only [Act.put, List.getElem_toArray, List.getElem_cons_succ, List.getElem_cons_zero, List.setIfInBounds_toArray, List.set_cons_zero, List.set_cons_succ]
              refine wpLast_ready (rs := [8]) (by kernel_rfl) (by simp) ?_
              refine LastReady.cons rfl (fun K hK => ?_) LastReady.nil
              refine step_append_val rfl (.tmp 43) (.tmp 49) 24 rfl wq.heap.size 52 _ 56 Tryz.underlying24 infoRR rfl (by decide) hrow0 ((H.out.row.since hsx).take encQ_len (by omega)) encQ_len encQ_one rfl rfl (by simp only [List.length_append, List.length_take, List.length_drop, List.length_cons, List.length_nil]; omega) (by decide) (by simp only [World.size_alloc]; omega) ?_
              intro V3 w3 hrow3 hoff3
              have hs3 : Since wl w3 := hoff3.since_of8 hsx (fun x e => by have := (hrow0.own x e).1; have := hqs.size; omega)
              have hz3 : wq.heap.size ≤ w3.heap.size := by have := hoff3.size; (try simp at this); omega
              replace hw5 := hoff3.whole hw5 (by simp [Value.ownBlock])
              refine hK.out _ _ (fun _ => hs3) (fun hHeld => ?_)
              replace hHeld := hHeld (by decide)
              clear hK K
              try simp only [Act.put, List.getElem_toArray, List.getElem_cons_succ, List.getElem_cons_zero, List.setIfInBounds_toArray, List.set_cons_zero, List.set_cons_succ]
              refine wpLast_ready (rs := [11]) (by kernel_rfl) (by simp) ?_
              refine LastReady.cons rfl (fun K hK => ?_) LastReady.nil
              refine step_append_val rfl (.tmp 50) (.tmp 52) 24 rfl wq.heap.size 52 _ 56 Tryz.underlying24 infoRR rfl (by decide) hrow3 (PartE.one (r := r) hw5) encQ_len encQ_one rfl rfl (by simp only [List.length_append, List.length_take, List.length_drop, List.length_cons, List.length_nil]; omega) (by decide) hz3 ?_
              intro V4 w4 hrow4 hoff4
              have hs4 : Since wl w4 := hoff4.since_of8 hs3 (fun x e => by have := (hrow3.own x e).1; have := hqs.size; omega)
              have hz4 : wq.heap.size ≤ w4.heap.size := by have := hoff4.size; (try simp at this); omega
              refine hK.out _ _ (fun _ => hs4) (fun hHeld => ?_)
              replace hHeld := hHeld (by decide)
              clear hK K
              try simp only [Act.put, List.getElem_toArray, List.getElem_cons_succ, List.getElem_cons_zero, List.setIfInBounds_toArray, List.set_cons_zero, List.set_cons_succ]
              refine wpLast_ready (rs := [13]) (by kernel_rfl) (by simp) ?_
              refine LastReady.cons rfl (fun K hK => ?_) LastReady.nil
              refine step_append_val rfl (.tmp 53) (.tmp 54) 24 rfl wq.heap.size 52 _ 56 Tryz.underlying24 infoRR rfl (by decide) hrow4 (HREST.out w4 hs4) encQ_len encQ_one rfl rfl (by simp only [List.length_append, List.length_take, List.length_drop, List.length_cons, List.length_nil]; omega) (by decide) hz4 ?_
              intro V5 w5 hrow5 hoff5
              obtain ⟨va5, vn5, vc5, rfl⟩ := hrow5.shape3
              have hs5 : Since wl w5 := hoff5.since_of8 hs4 (fun x e => by have := (hrow4.own x e).1; have := hqs.size; omega)
              have hw6 := Since.whole hs5 H.out.box
              have x5 := hw6.cell 3
              have y5 := hw6.frozen 3
              rw [List.nil_append] at hrow5
              have hfin := H.out.store hs5 hqs.size hrow5 (HFIN.out.1) (HFIN.out.2)
              refine hK.out _ _ (fun _ => hs5) (fun hHeld => ?_)
              replace hHeld := hHeld (by decide)
              clear hK K
              try simp only [Act.put, List.getElem_toArray, List.getElem_cons_succ, List.getElem_cons_zero, List.setIfInBounds_toArray, List.set_cons_zero, List.set_cons_succ]
              refine wpLast_take (i := 14) (v := ?_) rfl (by decide) (by kernel_rfl) (by kernel_rfl) (by kernel_rfl) (by kernel_rfl) (fun _ _ _ h => h) (Or.inl ⟨by rfl, ?_⟩) (by assumption) ?_
              rotate_left 1
              · (intro W hW; clear hW; go_simp; try with_reducible rfl)
              simp only [Act.put, List.getElem_toArray, List.getElem_cons_succ, List.getElem_cons_zero, List.setIfInBounds_toArray, List.set_cons_zero, List.set_cons_succ]
              refine wpLast_take (i := 15) (v := ?_) rfl (by decide) (by kernel_rfl) (by kernel_rfl) (by kernel_rfl) (by kernel_rfl) (fun _ _ _ h => h) (Or.inl ⟨by rfl, ?_⟩) (by assumption) ?_
              rotate_left 1
              · (intro W hW; clear hW; go_simp; try with_reducible rfl)
              simp only [Act.put, List.getElem_toArray, List.getElem_cons_succ, List.getElem_cons_zero, List.setIfInBounds_toArray, List.set_cons_zero, List.set_cons_succ]
              refine wpLast_ready (rs := [16]) (by kernel_rfl) (by simp) ?_
              refine LastReady.cons rfl (fun K hK => ?_) LastReady.nil
              go_simp
              skip
              refine hK.out _ _ (fun h => absurd rfl h) (fun hHeld => ?_)
              clear hK K
              try simp only [Act.put, List.getElem_toArray, List.getElem_cons_succ, List.getElem_cons_zero, List.setIfInBounds_toArray, List.set_cons_zero, List.set_cons_succ]
              refine wpLast_done (by kernel_rfl) ?_ _
              have HZ := Lib.hid hfin
              clear hfin
              go_wp2_with fail
              go_ret2
              exact HY.out _ _ (HX.out ▸ HZ.out.1) ((HSW.out.off _).trans HZ.out.2 (fun _ _ z => z))
          · have HREST : Hid (∀ W, Since wl W → PartE encQ W (.slice (some ⟨g, p * 5, none⟩) (L.length - p) (vc - p)) (L.drop p)) := fun W hW => (H.out.row.since hW).drop encQ_len
            go_wp2_with fail
            obtain ⟨wq, hwq⟩ : ∃ wq, wq = wl.drew := ⟨_, rfl⟩
            have hqs : Since wl wq := by rw [hwq]; exact (Since.refl wl).drew
            refine wp_region_last (fun W' => Since wl W') 16 (by kernel_rfl) (Since.refl wl).drew (fun hHeld => ?_)
            rw [← hwq] at hHeld ⊢
            clear hwq
            refine wpLast_take (i := 0) (v := ?_) rfl (by decide) (by kernel_rfl) (by kernel_rfl) (by kernel_rfl) (by kernel_rfl) (fun _ _ _ h => h) (Or.inl ⟨by rfl, ?_⟩) (by assumption) ?_
            rotate_left 1
            · (intro W hW; clear hW; go_simp; try with_reducible rfl)
            simp only [Act.put, List.getElem_toArray, List.getElem_cons_zero, List.setIfInBounds_toArray, List.set_cons_zero, List.set_cons_succ]
            refine wpLast_take (i := 2) (v := ?_) rfl (by decide) (by kernel_rfl) (by kernel_rfl) (by kernel_rfl) (by kernel_rfl) (fun _ _ _ h => h) (Or.inl ⟨by rfl, ?_⟩) (by assumption) ?_
            rotate_left 1
            · (intro W hW; clear hW; go_simp; try with_reducible rfl)
            simp only [Act.put, List.getElem_toArray, List.getElem_cons_succ, List.getElem_cons_zero, List.setIfInBounds_toArray, List.set_cons_zero, List.set_cons_succ]
            refine wpLast_take (i := 3) (v := ?_) rfl (by decide) (by kernel_rfl) (by kernel_rfl) (by kernel_rfl) (by kernel_rfl) (fun _ _ _ h => h) (Or.inl ⟨by rfl, ?_⟩) (by assumption) ?_
            rotate_left 1
            · (intro W hW; clear hW; go_simp; try with_reducible rfl)
            simp only [Act.put, List.getElem_toArray, List.getElem_cons_succ, List.getElem_cons_zero, List.setIfInBounds_toArray, List.set_cons_zero, List.set_cons_succ]
            refine wpLast_take (i := 4) (v := ?_) rfl (by decide) (by kernel_rfl) (by kernel_rfl) (by kernel_rfl) (by kernel_rfl) (fun _ _ _ h => h) (Or.inl ⟨by rfl, ?_⟩) (by assumption) ?_
            rotate_left 1
            · (intro W hW; clear hW; go_simp; try with_reducible rfl)
            simp only [Act.put, List.getElem_toArray, List.getElem_cons_succ, List.getElem_cons_zero, List.setIfInBounds_toArray, List.set_cons_zero, List.set_cons_succ]
            refine wpLast_take (i := 5) (v := ?_) rfl (by decide) (by kernel_rfl) (by kernel_rfl) (by kernel_rfl) (by kernel_rfl) (fun _ _ _ h => h) (Or.inl ⟨by rfl, ?_⟩) (by assumption) ?_
            rotate_left 1
            · (intro W hW; skip; go_simp; try with_reducible rfl)
            simp only [Act.put, List.getElem_toArray, List.getElem_cons_succ, List.getElem_cons_zero, List.setIfInBounds_toArray, List.set_cons_zero, List.set_cons_succ]
            refine wpLast_take (i := 6) (v := ?_) rfl (by decide) (by kernel_rfl) (by kernel_rfl) (by kernel_rfl) (by kernel_rfl) (fun _ _ _ h => h) (Or.inl ⟨by rfl, ?_⟩) (by assumption) ?_
            rotate_left 1
            · (intro W hW; clear hW; go_simp; try with_reducible rfl)
            simp only [Act.put, List.getElem_toArray, List.getElem_cons_succ, List.getElem_cons_zero, List.setIfInBounds_toArray, List.set_cons_zero, List.set_cons_succ]
            refine wpLast_take (i := 7) (v := ?_) rfl (by decide) (by kernel_rfl) (by kernel_rfl) (by kernel_rfl) (by kernel_rfl) (fun _ _ _ h => h) (Or.inl ⟨by rfl, ?_⟩) (by assumption) ?_
            rotate_left 1
            · (intro W hW; clear hW; go_simp; try with_reducible rfl)
            simp only [Act.put, List.getElem_toArray, List.getElem_cons_succ, List.getElem_cons_zero, List.setIfInBounds_toArray, List.set_cons_zero, List.set_cons_succ]
            refine wpLast_take (i := 9) (v := ?_) rfl (by decide) (by kernel_rfl) (by kernel_rfl) (by kernel_rfl) (by kernel_rfl) (fun _ _ _ h => h) (Or.inl ⟨by rfl, ?_⟩) (by assumption) ?_
            rotate_left 1
            · (intro W hW; skip; go_simp; try with_reducible rfl)
            simp only [Act.put, List.getElem_toArray, List.getElem_cons_succ, List.getElem_cons_zero, List.setIfInBounds_toArray, List.set_cons_zero, List.set_cons_succ]
            refine wpLast_take (i := 12) (v := ?_) rfl (by decide) (by kernel_rfl) (by kernel_rfl) (by kernel_rfl) (by kernel_rfl) (fun _ _ _ h => h) (Or.inl ⟨by rfl, ?_⟩) (by assumption) ?_
            rotate_left 1
            · (intro W hW; clear hW; go_simp; try with_reducible rfl)
            simp only [Act.put, List.getElem_toArray, List.getElem_cons_succ, List.getElem_cons_zero, List.setIfInBounds_toArray, List.set_cons_zero, List.set_cons_succ]
            refine wpLast_ready (rs := [1, 10]) (by kernel_rfl) (by simp) ?_
            refine LastReady.cons rfl (fun K hK => ?_) (LastReady.cons rfl (fun K hK => ?_) LastReady.nil)
            · go_simp
              have hrow0 := RowE.empty (enc := encQ) (n := 5) wq 52
              have hsx : Since wl (wq.alloc (.cells #[] 52)) := hqs.alloc _
              refine hK.out _ _ (fun _ => hsx) (fun hHeld => ?_)
              replace hHeld := hHeld (by decide)
              clear hK K
              try simp only [Act.put, List.getElem_toArray, List.getElem_cons_succ, List.getElem_cons_zero, List.setIfInBounds_toArray, List.set_cons_zero, List.set_cons_succ]
              refine wpLast_ready (rs := [8, 10]) (by kernel_rfl) (by simp) ?_
              refine LastReady.cons rfl (fun K hK => ?_) (LastReady.cons rfl (fun K hK => ?_) LastReady.nil)
              · refine step_append_val rfl (.tmp 43) (.tmp 49) 24 rfl wq.heap.size 52 _ 56 Tryz.underlying24 infoRR rfl (by decide) hrow0 ((H.out.row.since hsx).take encQ_len (by omega)) encQ_len encQ_one rfl rfl (by simp only [List.length_append, List.length_take, List.length_drop, List.length_cons, List.length_nil]; omega) (by decide) (by simp only [World.size_alloc]; omega) ?_
                intro V3 w3 hrow3 hoff3
                have hs3 : Since wl w3 := hoff3.since_of8 hsx (fun x e => by have := (hrow0.own x e).1; have := hqs.size; omega)
                have hz3 : wq.heap.size ≤ w3.heap.size := by have := hoff3.size; (try simp at this); omega
                refine hK.out _ _ (fun _ => hs3) (fun hHeld => ?_)
                replace hHeld := hHeld (by decide)
                clear hK K
                try simp only [Act.put, List.getElem_toArray, List.getElem_cons_succ, List.getElem_cons_zero, List.setIfInBounds_toArray, List.set_cons_zero, List.set_cons_succ]
                refine wpLast_ready (rs := [10]) (by kernel_rfl) (by simp) ?_
                refine LastReady.cons rfl (fun K hK => ?_) LastReady.nil
                go_simp
                have hw5 := Whole.new w3 52 #[.int .i64 r.x, .int .i64 r.y, .string r.key, .string r.val, .int .i64 r.ver]
                replace hrow3 := hrow3.alloc (.cells #[.int .i64 r.x, .int .i64 r.y, .string r.key, .string r.val, .int .i64 r.ver] 52)
                replace hs3 := hs3.alloc (.cells #[.int .i64 r.x, .int .i64 r.y, .string r.key, .string r.val, .int .i64 r.ver] 52)
                refine hK.out _ _ (fun _ => hs3) (fun hHeld => ?_)
                replace hHeld := hHeld (by decide)
                clear hK K
                try simp only [Act.put, List.getElem_toArray, List.getElem_cons_succ, List.getElem_cons_zero, List.setIfInBounds_toArray, List.set_cons_zero, List.set_cons_succ]
                refine wpLast_ready (rs := [11]) (by kernel_rfl) (by simp) ?_
                refine LastReady.cons rfl (fun K hK => ?_) LastReady.nil
                refine step_append_val rfl (.tmp 50) (.tmp 52) 24 rfl wq.heap.size 52 _ 56 Tryz.underlying24 infoRR rfl (by decide) hrow3 (PartE.one (r := r) hw5) encQ_len encQ_one rfl rfl (by simp only [List.length_append, List.length_take, List.length_drop, List.length_cons, List.length_nil]; omega) (by decide) (by simp; omega) ?_
                intro V4 w4 hrow4 hoff4
                have hs4 : Since wl w4 := hoff4.since_of8 hs3 (fun x e => by have := (hrow3.own x e).1; have := hqs.size; omega)
                have hz4 : wq.heap.size ≤ w4.heap.size := by have := hoff4.size; (try simp at this); omega
                refine hK.out _ _ (fun _ => hs4) (fun hHeld => ?_)
                replace hHeld := hHeld (by decide)
                clear hK K
                try simp only [Act.put, List.getElem_toArray, List.getElem_cons_succ, List.getElem_cons_zero, List.setIfInBounds_toArray, List.set_cons_zero, List.set_cons_succ]
                refine wpLast_ready (rs := [13]) (by kernel_rfl) (by simp) ?_
                refine LastReady.cons rfl (fun K hK => ?_) LastReady.nil
                refine step_append_val rfl (.tmp 53) (.tmp 54) 24 rfl wq.heap.size 52 _ 56 Tryz.underlying24 infoRR rfl (by decide) hrow4 (HREST.out w4 hs4) encQ_len encQ_one rfl rfl (by simp only [List.length_append, List.length_take, List.length_drop, List.length_cons, List.length_nil]; omega) (by decide) hz4 ?_
                intro V5 w5 hrow5 hoff5
                obtain ⟨va5, vn5, vc5, rfl⟩ := hrow5.shape3
                have hs5 : Since wl w5 := hoff5.since_of8 hs4 (fun x e => by have := (hrow4.own x e).1; have := hqs.size; omega)
                have hw6 := Since.whole hs5 H.out.box
                have x5 := hw6.cell 3
                have y5 := hw6.frozen 3
                rw [List.nil_append] at hrow5
                have hfin := H.out.store hs5 hqs.size hrow5 (HFIN.out.1) (HFIN.out.2)
                refine hK.out _ _ (fun _ => hs5) (fun hHeld => ?_)
                replace hHeld := hHeld (by decide)
                clear hK K
                try simp only [Act.put, List.getElem_toArray, List.getElem_cons_succ, List.getElem_cons_zero, List.setIfInBounds_toArray, List.set_cons_zero, List.set_cons_succ]
                refine wpLast_take (i := 14) (v := ?_) rfl (by decide) (by kernel_rfl) (by kernel_rfl) (by kernel_rfl) (by kernel_rfl) (fun _ _ _ h => h) (Or.inl ⟨by rfl, ?_⟩) (by assumption) ?_
                rotate_left 1
                · (intro W hW; clear hW; go_simp; try with_reducible rfl)
                simp only [Act.put, List.getElem_toArray, List.getElem_cons_succ, List.getElem_cons_zero, List.setIfInBounds_toArray, List.set_cons_zero, List.set_cons_succ]
                refine wpLast_take (i := 15) (v := ?_) rfl (by decide) (by kernel_rfl) (by kernel_rfl) (by kernel_rfl) (by kernel_rfl) (fun _ _ _ h => h) (Or.inl ⟨by rfl, ?_⟩) (by assumption) ?_
                rotate_left 1
                · (intro W hW; clear hW; go_simp; try with_reducible rfl)
                simp only [Act.put, List.getElem_toArray, List.getElem_cons_succ, List.getElem_cons_zero, List.setIfInBounds_toArray, List.set_cons_zero, List.set_cons_succ]
                refine wpLast_ready (rs := [16]) (by kernel_rfl) (by simp) ?_
                refine LastReady.cons rfl (fun K hK => ?_) LastReady.nil
                go_simp
                skip
                refine hK.out _ _ (fun h => absurd rfl h) (fun hHeld => ?_)
                clear hK K
                try simp only [Act.put, List.getElem_toArray, List.getElem_cons_succ, List.getElem_cons_zero, List.setIfInBounds_toArray, List.set_cons_zero, List.set_cons_succ]
                refine wpLast_done (by kernel_rfl) ?_ _
                have HZ := Lib.hid hfin
                clear hfin
                go_wp2_with fail
                go_ret2
                exact HY.out _ _ (HX.out ▸ HZ.out.1) ((HSW.out.off _).trans HZ.out.2 (fun _ _ z => z))
              · go_simp
                have hw5 := Whole.new (wq.alloc (.cells #[] 52)) 52 #[.int .i64 r.x, .int .i64 r.y, .string r.key, .string r.val, .int .i64 r.ver]
                rw [World.size_alloc] at hw5
                replace hrow0 := hrow0.alloc (.cells #[.int .i64 r.x, .int .i64 r.y, .string r.key, .string r.val, .int .i64 r.ver] 52)
                replace hsx := hsx.alloc (.cells #[.int .i64 r.x, .int .i64 r.y, .string r.key, .string r.val, .int .i64 r.ver] 52)
                refine hK.out _ _ (fun _ => hsx) (fun hHeld => ?_)
                replace hHeld := hHeld (by decide)
                clear hK K
                try simp only [Act.put, List.getElem_toArray, List.getElem_cons_succ, List.getElem_cons_zero, List.setIfInBounds_toArray, List.set_cons_zero, List.set_cons_succ]
                refine wpLast_ready (rs := [8]) (by kernel_rfl) (by simp) ?_
                refine LastReady.cons rfl (fun K hK => ?_) LastReady.nil
                refine step_append_val rfl (.tmp 43) (.tmp 49) 24 rfl wq.heap.size 52 _ 56 Tryz.underlying24 infoRR rfl (by decide) hrow0 ((H.out.row.since hsx).take encQ_len (by omega)) encQ_len encQ_one rfl rfl (by simp only [List.length_append, List.length_take, List.length_drop, List.length_cons, List.length_nil]; omega) (by decide) (by simp only [World.size_alloc]; omega) ?_
                intro V3 w3 hrow3 hoff3
                have hs3 : Since wl w3 := hoff3.since_of8 hsx (fun x e => by have := (hrow0.own x e).1; have := hqs.size; omega)
                have hz3 : wq.heap.size ≤ w3.heap.size := by have := hoff3.size; (try simp at this); omega
                replace hw5 := hoff3.whole hw5 (by simp [Value.ownBlock])
                refine hK.out _ _ (fun _ => hs3) (fun hHeld => ?_)
                replace hHeld := hHeld (by decide)
                clear hK K
                try simp only [Act.put, List.getElem_toArray, List.getElem_cons_succ, List.getElem_cons_zero, List.setIfInBounds_toArray, List.set_cons_zero, List.set_cons_succ]
                refine wpLast_ready (rs := [11]) (by kernel_rfl) (by simp) ?_
                refine LastReady.cons rfl (fun K hK => ?_) LastReady.nil
                refine step_append_val rfl (.tmp 50) (.tmp 52) 24 rfl wq.heap.size 52 _ 56 Tryz.underlying24 infoRR rfl (by decide) hrow3 (PartE.one (r := r) hw5) encQ_len encQ_one rfl rfl (by simp only [List.length_append, List.length_take, List.length_drop, List.length_cons, List.length_nil]; omega) (by decide) hz3 ?_
                intro V4 w4 hrow4 hoff4
                have hs4 : Since wl w4 := hoff4.since_of8 hs3 (fun x e => by have := (hrow3.own x e).1; have := hqs.size; omega)
                have hz4 : wq.heap.size ≤ w4.heap.size := by have := hoff4.size; (try simp at this); omega
                refine hK.out _ _ (fun _ => hs4) (fun hHeld => ?_)
                replace hHeld := hHeld (by decide)
                clear hK K
                try simp only [Act.put, List.getElem_toArray, List.getElem_cons_succ, List.getElem_cons_zero, List.setIfInBounds_toArray, List.set_cons_zero, List.set_cons_succ]
                refine wpLast_ready (rs := [13]) (by kernel_rfl) (by simp) ?_
                refine LastReady.cons rfl (fun K hK => ?_) LastReady.nil
                refine step_append_val rfl (.tmp 53) (.tmp 54) 24 rfl wq.heap.size 52 _ 56 Tryz.underlying24 infoRR rfl (by decide) hrow4 (HREST.out w4 hs4) encQ_len encQ_one rfl rfl (by simp only [List.length_append, List.length_take, List.length_drop, List.length_cons, List.length_nil]; omega) (by decide) hz4 ?_
                intro V5 w5 hrow5 hoff5
                obtain ⟨va5, vn5, vc5, rfl⟩ := hrow5.shape3
                have hs5 : Since wl w5 := hoff5.since_of8 hs4 (fun x e => by have := (hrow4.own x e).1; have := hqs.size; omega)
                have hw6 := Since.whole hs5 H.out.box
                have x5 := hw6.cell 3
                have y5 := hw6.frozen 3
                rw [List.nil_append] at hrow5
                have hfin := H.out.store hs5 hqs.size hrow5 (HFIN.out.1) (HFIN.out.2)
                refine hK.out _ _ (fun _ => hs5) (fun hHeld => ?_)
                replace hHeld := hHeld (by decide)
                clear hK K
                try simp only [Act.put, List.getElem_toArray, List.getElem_cons_succ, List.getElem_cons_zero, List.setIfInBounds_toArray, List.set_cons_zero, List.set_cons_succ]
                refine wpLast_take (i := 14) (v := ?_) rfl (by decide) (by kernel_rfl) (by kernel_rfl) (by kernel_rfl) (by kernel_rfl) (fun _ _ _ h => h) (Or.inl ⟨by rfl, ?_⟩) (by assumption) ?_
                rotate_left 1
                · (intro W hW; clear hW; go_simp; try with_reducible rfl)
                simp only [Act.put, List.getElem_toArray, List.getElem_cons_succ, List.getElem_cons_zero, List.setIfInBounds_toArray, List.set_cons_zero, List.set_cons_succ]
                refine wpLast_take (i := 15) (v := ?_) rfl (by decide) (by kernel_rfl) (by kernel_rfl) (by kernel_rfl) (by kernel_rfl) (fun _ _ _ h => h) (Or.inl ⟨by rfl, ?_⟩) (by assumption) ?_
                rotate_left 1
                · (intro W hW; clear hW; go_simp; try with_reducible rfl)
                simp only [Act.put, List.getElem_toArray, List.getElem_cons_succ, List.getElem_cons_zero, List.setIfInBounds_toArray, List.set_cons_zero, List.set_cons_succ]
                refine wpLast_ready (rs := [16]) (by kernel_rfl) (by simp) ?_
                refine LastReady.cons rfl (fun K hK => ?_) LastReady.nil
                go_simp
                skip
                refine hK.out _ _ (fun h => absurd rfl h) (fun hHeld => ?_)
                clear hK K
                try simp only [Act.put, List.getElem_toArray, List.getElem_cons_succ, List.getElem_cons_zero, List.setIfInBounds_toArray, List.set_cons_zero, List.set_cons_succ]
                refine wpLast_done (by kernel_rfl) ?_ _
                have HZ := Lib.hid hfin
                clear hfin
                go_wp2_with fail
                go_ret2
                exact HY.out _ _ (HX.out ▸ HZ.out.1) ((HSW.out.off _).trans HZ.out.2 (fun _ _ z => z))
            · go_simp
              have hw5 := Whole.new wq 52 #[.int .i64 r.x, .int .i64 r.y, .string r.key, .string r.val, .int .i64 r.ver]
              refine hK.out _ _ (fun _ => hqs.alloc _) (fun hHeld => ?_)
              replace hHeld := hHeld (by decide)
              clear hK K
              try simp only [Act.put, List.getElem_toArray, List.getElem_cons_succ, List.getElem_cons_zero, List.setIfInBounds_toArray, List.set_cons_zero, List.set_cons_succ]
              refine wpLast_ready (rs := [1]) (by kernel_rfl) (by simp) ?_
              refine LastReady.cons rfl (fun K hK => ?_) LastReady.nil
              go_simp
              have hrow0 := RowE.empty (enc := encQ) (n := 5) (wq.alloc (.cells #[.int .i64 r.x, .int .i64 r.y, .string r.key, .string r.val, .int .i64 r.ver] 52)) 52
              rw [World.size_alloc] at hrow0
              replace hrow0 := hrow0.mono (base' := wq.heap.size) (by omega)
              replace hw5 := hw5.alloc (.cells #[] 52)
              have hsx : Since wl ((wq.alloc (.cells #[.int .i64 r.x, .int .i64 r.y, .string r.key, .string r.val, .int .i64 r.ver] 52)).alloc (.cells #[] 52)) := (hqs.alloc _).alloc _
              refine hK.out _ _ (fun _ => hsx) (fun hHeld => ?_)
              replace hHeld := hHeld (by decide)
              clear hK K
              try simp only [Act.put, List.getElem_toArray, List.getElem_cons_succ, List.getElem_cons_zero, List.setIfInBounds_toArray, List.set_cons_zero, List.set_cons_succ]
              refine wpLast_ready (rs := [8]) (by kernel_rfl) (by simp) ?_
              refine LastReady.cons rfl (fun K hK => ?_) LastReady.nil
              refine step_append_val rfl (.tmp 43) (.tmp 49) 24 rfl wq.heap.size 52 _ 56 Tryz.underlying24 infoRR rfl (by decide) hrow0 ((H.out.row.since hsx).take encQ_len (by omega)) encQ_len encQ_one rfl rfl (by simp only [List.length_append, List.length_take, List.length_drop, List.length_cons, List.length_nil]; omega) (by decide) (by simp only [World.size_alloc]; omega) ?_
              intro V3 w3 hrow3 hoff3
              have hs3 : Since wl w3 := hoff3.since_of8 hsx (fun x e => by have := (hrow0.own x e).1; have := hqs.size; omega)
              have hz3 : wq.heap.size ≤ w3.heap.size := by have := hoff3.size; (try simp at this); omega
              replace hw5 := hoff3.whole hw5 (by simp [Value.ownBlock])
              refine hK.out _ _ (fun _ => hs3) (fun hHeld => ?_)
              replace hHeld := hHeld (by decide)
              clear hK K
              try simp only [Act.put, List.getElem_toArray, List.getElem_cons_succ, List.getElem_cons_zero, List.setIfInBounds_toArray, List.set_cons_zero, List.set_cons_succ]
              refine wpLast_ready (rs := [11]) (by kernel_rfl) (by simp) ?_
              refine LastReady.cons rfl (fun K hK => ?_) LastReady.nil
              refine step_append_val rfl (.tmp 50) (.tmp 52) 24 rfl wq.heap.size 52 _ 56 Tryz.underlying24 infoRR rfl (by decide) hrow3 (PartE.one (r := r) hw5) encQ_len encQ_one rfl rfl (by simp only [List.length_append, List.length_take, List.length_drop, List.length_cons, List.length_nil]; omega) (by decide) hz3 ?_
              intro V4 w4 hrow4 hoff4
              have hs4 : Since wl w4 := hoff4.since_of8 hs3 (fun x e => by have := (hrow3.own x e).1; have := hqs.size; omega)
              have hz4 : wq.heap.size ≤ w4.heap.size := by have := hoff4.size; (try simp at this); omega
              refine hK.out _ _ (fun _ => hs4) (fun hHeld => ?_)
              replace hHeld := hHeld (by decide)
              clear hK K
              try simp only [Act.put, List.getElem_toArray, List.getElem_cons_succ, List.getElem_cons_zero, List.setIfInBounds_toArray, List.set_cons_zero, List.set_cons_succ]
              refine wpLast_ready (rs := [13]) (by kernel_rfl) (by simp) ?_
              refine LastReady.cons rfl (fun K hK => ?_) LastReady.nil
              refine step_append_val rfl (.tmp 53) (.tmp 54) 24 rfl wq.heap.size 52 _ 56 Tryz.underlying24 infoRR rfl (by decide) hrow4 (HREST.out w4 hs4) encQ_len encQ_one rfl rfl (by simp only [List.length_append, List.length_take, List.length_drop, List.length_cons, List.length_nil]; omega) (by decide) hz4 ?_
              intro V5 w5 hrow5 hoff5
              obtain ⟨va5, vn5, vc5, rfl⟩ := hrow5.shape3
              have hs5 : Since wl w5 := hoff5.since_of8 hs4 (fun x e => by have := (hrow4.own x e).1; have := hqs.size; omega)
              have hw6 := Since.whole hs5 H.out.box
              have x5 := hw6.cell 3
              have y5 := hw6.frozen 3
              rw [List.nil_append] at hrow5
              have hfin := H.out.store hs5 hqs.size hrow5 (HFIN.out.1) (HFIN.out.2)
              refine hK.out _ _ (fun _ => hs5) (fun hHeld => ?_)
              replace hHeld := hHeld (by decide)
              clear hK K
              try simp only [Act.put, List.getElem_toArray, List.getElem_cons_succ, List.getElem_cons_zero, List.setIfInBounds_toArray, List.set_cons_zero, List.set_cons_succ]
              refine wpLast_take (i := 14) (v := ?_) rfl (by decide) (by kernel_rfl) (by kernel_rfl) (by kernel_rfl) (by kernel_rfl) (fun _ _ _ h => h) (Or.inl ⟨by rfl, ?_⟩) (by assumption) ?_
              rotate_left 1
              · (intro W hW; clear hW; go_simp; try with_reducible rfl)
              simp only [Act.put, List.getElem_toArray, List.getElem_cons_succ, List.getElem_cons_zero, List.setIfInBounds_toArray, List.set_cons_zero, List.set_cons_succ]
              refine wpLast_take (i := 15) (v := ?_) rfl (by decide) (by kernel_rfl) (by kernel_rfl) (by kernel_rfl) (by kernel_rfl) (fun _ _ _ h => h) (Or.inl ⟨by rfl, ?_⟩) (by assumption) ?_
              rotate_left 1
              · (intro W hW; clear hW; go_simp; try with_reducible rfl)
              simp only [Act.put, List.getElem_toArray, List.getElem_cons_succ, List.getElem_cons_zero, List.setIfInBounds_toArray, List.set_cons_zero, List.set_cons_succ]
              refine wpLast_ready (rs := [16]) (by kernel_rfl) (by simp) ?_
              refine LastReady.cons rfl (fun K hK => ?_) LastReady.nil
              go_simp
              skip
              refine hK.out _ _ (fun h => absurd rfl h) (fun hHeld => ?_)
              clear hK K
              try simp only [Act.put, List.getElem_toArray, List.getElem_cons_succ, List.getElem_cons_zero, List.setIfInBounds_toArray, List.set_cons_zero, List.set_cons_succ]
              refine wpLast_done (by kernel_rfl) ?_ _
              have HZ := Lib.hid hfin
              clear hfin
              go_wp2_with fail
              go_ret2
              exact HY.out _ _ (HX.out ▸ HZ.out.1) ((HSW.out.off _).trans HZ.out.2 (fun _ _ z => z))
        | true =>
          have hlt : p < L.length := HPE.out.1 ▸ ((hasQ_iff H0.out.sort).1 HPE.out.2).1
          have hX := put_yes (r := r) HPE.out.1 HPE.out.2 hlt
          have HFIN := Lib.hid (And.intro (hX ▸ HFS.out.1) (hX ▸ HFS.out.2))
          have HX := Lib.hid hX
          have hi1 : IntKind.i64.wrap ((p : Int) + 1) = (p : Int) + 1 := IntWalk.i64_in _ (by omega)
          have hi2 : (0 : Int) ≤ (p : Int) + 1 := by omega
          have hi3 : (p : Int) + 1 ≤ (L.length : Int) := by omega
          have hi4 : (p : Int) ≤ (p : Int) + 1 := by omega
          have hvp : ¬ vc = p := by omega
          clear hX
          by_cases hvq : vc = p + 1
          · subst hvq
            have HREST : Hid (∀ W, Since wl W → PartE encQ W (.slice (some ⟨g, 0, none⟩) 0 0) (L.drop (p + 1))) := fun W hW => by rw [List.drop_of_length_le hcap]; exact .inr ⟨⟨g, 0, none⟩, 0, rfl, fun j u hu => by cases hu⟩
            go_wp2_with fail
            obtain ⟨wq, hwq⟩ : ∃ wq, wq = wl.drew := ⟨_, rfl⟩
            have hqs : Since wl wq := by rw [hwq]; exact (Since.refl wl).drew
            refine wp_region_last (fun W' => Since wl W') 16 (by kernel_rfl) (Since.refl wl).drew (fun hHeld => ?_)
            rw [← hwq] at hHeld ⊢
            clear hwq
            refine wpLast_take (i := 0) (v := ?_) rfl (by decide) (by kernel_rfl) (by kernel_rfl) (by kernel_rfl) (by kernel_rfl) (fun _ _ _ h => h) (Or.inl ⟨by rfl, ?_⟩) (by assumption) ?_
            rotate_left 1
            · (intro W hW; clear hW; go_simp; try with_reducible rfl)
            simp only [Act.put, List.getElem_toArray, List.getElem_cons_zero, List.setIfInBounds_toArray, List.set_cons_zero, List.set_cons_succ]
            refine wpLast_take (i := 2) (v := ?_) rfl (by decide) (by kernel_rfl) (by kernel_rfl) (by kernel_rfl) (by kernel_rfl) (fun _ _ _ h => h) (Or.inl ⟨by rfl, ?_⟩) (by assumption) ?_
            rotate_left 1
            · (intro W hW; clear hW; go_simp; try with_reducible rfl)
            simp only [Act.put, List.getElem_toArray, List.getElem_cons_succ, List.getElem_cons_zero, List.setIfInBounds_toArray, List.set_cons_zero, List.set_cons_succ]
            refine wpLast_take (i := 3) (v := ?_) rfl (by decide) (by kernel_rfl) (by kernel_rfl) (by kernel_rfl) (by kernel_rfl) (fun _ _ _ h => h) (Or.inl ⟨by rfl, ?_⟩) (by assumption) ?_
            rotate_left 1
            · (intro W hW; clear hW; go_simp; try with_reducible rfl)
            simp only [Act.put, List.getElem_toArray, List.getElem_cons_succ, List.getElem_cons_zero, List.setIfInBounds_toArray, List.set_cons_zero, List.set_cons_succ]
            refine wpLast_take (i := 4) (v := ?_) rfl (by decide) (by kernel_rfl) (by kernel_rfl) (by kernel_rfl) (by kernel_rfl) (fun _ _ _ h => h) (Or.inl ⟨by rfl, ?_⟩) (by assumption) ?_
            rotate_left 1
            · (intro W hW; clear hW; go_simp; try with_reducible rfl)
            simp only [Act.put, List.getElem_toArray, List.getElem_cons_succ, List.getElem_cons_zero, List.setIfInBounds_toArray, List.set_cons_zero, List.set_cons_succ]
            refine wpLast_take (i := 5) (v := ?_) rfl (by decide) (by kernel_rfl) (by kernel_rfl) (by kernel_rfl) (by kernel_rfl) (fun _ _ _ h => h) (Or.inl ⟨by rfl, ?_⟩) (by assumption) ?_
            rotate_left 1
            · (intro W hW; skip; go_simp; try with_reducible rfl)
            simp only [Act.put, List.getElem_toArray, List.getElem_cons_succ, List.getElem_cons_zero, List.setIfInBounds_toArray, List.set_cons_zero, List.set_cons_succ]
            refine wpLast_take (i := 6) (v := ?_) rfl (by decide) (by kernel_rfl) (by kernel_rfl) (by kernel_rfl) (by kernel_rfl) (fun _ _ _ h => h) (Or.inl ⟨by rfl, ?_⟩) (by assumption) ?_
            rotate_left 1
            · (intro W hW; clear hW; go_simp; try with_reducible rfl)
            simp only [Act.put, List.getElem_toArray, List.getElem_cons_succ, List.getElem_cons_zero, List.setIfInBounds_toArray, List.set_cons_zero, List.set_cons_succ]
            refine wpLast_take (i := 7) (v := ?_) rfl (by decide) (by kernel_rfl) (by kernel_rfl) (by kernel_rfl) (by kernel_rfl) (fun _ _ _ h => h) (Or.inl ⟨by rfl, ?_⟩) (by assumption) ?_
            rotate_left 1
            · (intro W hW; clear hW; go_simp; try with_reducible rfl)
            simp only [Act.put, List.getElem_toArray, List.getElem_cons_succ, List.getElem_cons_zero, List.setIfInBounds_toArray, List.set_cons_zero, List.set_cons_succ]
            refine wpLast_take (i := 9) (v := ?_) rfl (by decide) (by kernel_rfl) (by kernel_rfl) (by kernel_rfl) (by kernel_rfl) (fun _ _ _ h => h) (Or.inl ⟨by rfl, ?_⟩) (by assumption) ?_
            rotate_left 1
            · (intro W hW; skip; go_simp; try with_reducible rfl)
            simp only [Act.put, List.getElem_toArray, List.getElem_cons_succ, List.getElem_cons_zero, List.setIfInBounds_toArray, List.set_cons_zero, List.set_cons_succ]
            refine wpLast_take (i := 12) (v := ?_) rfl (by decide) (by kernel_rfl) (by kernel_rfl) (by kernel_rfl) (by kernel_rfl) (fun _ _ _ h => h) (Or.inl ⟨by rfl, ?_⟩) (by assumption) ?_
            rotate_left 1
            · (intro W hW; clear hW; go_simp; try with_reducible rfl)
            simp only [Act.put, List.getElem_toArray, List.getElem_cons_succ, List.getElem_cons_zero, List.setIfInBounds_toArray, List.set_cons_zero, List.set_cons_succ]
            refine wpLast_ready (rs := [1, 10]) (by kernel_rfl) (by simp) ?_
            refine LastReady.cons rfl (fun K hK => ?_) (LastReady.cons rfl (fun K hK => ?_) LastReady.nil)
            · go_simp
              have hrow0 := RowE.empty (enc := encQ) (n := 5) wq 52
              have hsx : Since wl (wq.alloc (.cells #[] 52)) := hqs.alloc _
              refine hK.out _ _ (fun _ => hsx) (fun hHeld => ?_)
              replace hHeld := hHeld (by decide)
              clear hK K
              try simp only [Act.put, List.getElem_toArray, List.getElem_cons_succ, List.getElem_cons_zero, List.setIfInBounds_toArray, List.set_cons_zero, List.set_cons_succ]
              refine wpLast_ready (rs := [8, 10]) (by kernel_rfl) (by simp) ?_
              refine LastReady.cons rfl (fun K hK => ?_) (LastReady.cons rfl (fun K hK => ?_) LastReady.nil)
              · refine step_append_val rfl (.tmp 43) (.tmp 49) 24 rfl wq.heap.size 52 _ 56 Tryz.underlying24 infoRR rfl (by decide) hrow0 ((H.out.row.since hsx).take encQ_len (by omega)) encQ_len encQ_one rfl rfl (by simp only [List.length_append, List.length_take, List.length_drop, List.length_cons, List.length_nil]; omega) (by decide) (by simp only [World.size_alloc]; omega) ?_
                intro V3 w3 hrow3 hoff3
                have hs3 : Since wl w3 := hoff3.since_of8 hsx (fun x e => by have := (hrow0.own x e).1; have := hqs.size; omega)
                have hz3 : wq.heap.size ≤ w3.heap.size := by have := hoff3.size; (try simp at this); omega
                refine hK.out _ _ (fun _ => hs3) (fun hHeld => ?_)
                replace hHeld := hHeld (by decide)
                clear hK K
                try simp only [Act.put, List.getElem_toArray, List.getElem_cons_succ, List.getElem_cons_zero, List.setIfInBounds_toArray, List.set_cons_zero, List.set_cons_succ]
                refine wpLast_ready (rs := [10]) (by kernel_rfl) (by simp) ?_
                refine LastReady.cons rfl (fun K hK => ?_) LastReady.nil
                go_simp
                have hw5 := Whole.new w3 52 #[.int .i64 r.x, .int .i64 r.y, .string r.key, .string r.val, .int .i64 r.ver]
                replace hrow3 := hrow3.alloc (.cells #[.int .i64 r.x, .int .i64 r.y, .string r.key, .string r.val, .int .i64 r.ver] 52)
                replace hs3 := hs3.alloc (.cells #[.int .i64 r.x, .int .i64 r.y, .string r.key, .string r.val, .int .i64 r.ver] 52)
                refine hK.out _ _ (fun _ => hs3) (fun hHeld => ?_)
                replace hHeld := hHeld (by decide)
                clear hK K
                try simp only [Act.put, List.getElem_toArray, List.getElem_cons_succ, List.getElem_cons_zero, List.setIfInBounds_toArray, List.set_cons_zero, List.set_cons_succ]
                refine wpLast_ready (rs := [11]) (by kernel_rfl) (by simp) ?_
                refine LastReady.cons rfl (fun K hK => ?_) LastReady.nil
                refine step_append_val rfl (.tmp 50) (.tmp 52) 24 rfl wq.heap.size 52 _ 56 Tryz.underlying24 infoRR rfl (by decide) hrow3 (PartE.one (r := r) hw5) encQ_len encQ_one rfl rfl (by simp only [List.length_append, List.length_take, List.length_drop, List.length_cons, List.length_nil]; omega) (by decide) (by simp; omega) ?_
                intro V4 w4 hrow4 hoff4
                have hs4 : Since wl w4 := hoff4.since_of8 hs3 (fun x e => by have := (hrow3.own x e).1; have := hqs.size; omega)
                have hz4 : wq.heap.size ≤ w4.heap.size := by have := hoff4.size; (try simp at this); omega
                refine hK.out _ _ (fun _ => hs4) (fun hHeld => ?_)
                replace hHeld := hHeld (by decide)
                clear hK K
                try simp only [Act.put, List.getElem_toArray, List.getElem_cons_succ, List.getElem_cons_zero, List.setIfInBounds_toArray, List.set_cons_zero, List.set_cons_succ]
                refine wpLast_ready (rs := [13]) (by kernel_rfl) (by simp) ?_
                refine LastReady.cons rfl (fun K hK => ?_) LastReady.nil
                refine step_append_val rfl (.tmp 53) (.tmp 54) 24 rfl wq.heap.size 52 _ 56 Tryz.underlying24 infoRR rfl (by decide) hrow4 (HREST.out w4 hs4) encQ_len encQ_one rfl rfl (by simp only [List.length_append, List.length_take, List.length_drop, List.length_cons, List.length_nil]; omega) (by decide) hz4 ?_
                intro V5 w5 hrow5 hoff5
                obtain ⟨va5, vn5, vc5, rfl⟩ := hrow5.shape3
                have hs5 : Since wl w5 := hoff5.since_of8 hs4 (fun x e => by have := (hrow4.own x e).1; have := hqs.size; omega)
                have hw6 := Since.whole hs5 H.out.box
                have x5 := hw6.cell 3
                have y5 := hw6.frozen 3
                rw [List.nil_append] at hrow5
                have hfin := H.out.store hs5 hqs.size hrow5 (HFIN.out.1) (HFIN.out.2)
                refine hK.out _ _ (fun _ => hs5) (fun hHeld => ?_)
                replace hHeld := hHeld (by decide)
                clear hK K
                try simp only [Act.put, List.getElem_toArray, List.getElem_cons_succ, List.getElem_cons_zero, List.setIfInBounds_toArray, List.set_cons_zero, List.set_cons_succ]
                refine wpLast_take (i := 14) (v := ?_) rfl (by decide) (by kernel_rfl) (by kernel_rfl) (by kernel_rfl) (by kernel_rfl) (fun _ _ _ h => h) (Or.inl ⟨by rfl, ?_⟩) (by assumption) ?_
                rotate_left 1
                · (intro W hW; clear hW; go_simp; try with_reducible rfl)
                simp only [Act.put, List.getElem_toArray, List.getElem_cons_succ, List.getElem_cons_zero, List.setIfInBounds_toArray, List.set_cons_zero, List.set_cons_succ]
                refine wpLast_take (i := 15) (v := ?_) rfl (by decide) (by kernel_rfl) (by kernel_rfl) (by kernel_rfl) (by kernel_rfl) (fun _ _ _ h => h) (Or.inl ⟨by rfl, ?_⟩) (by assumption) ?_
                rotate_left 1
                · (intro W hW; clear hW; go_simp; try with_reducible rfl)
                simp only [Act.put, List.getElem_toArray, List.getElem_cons_succ, List.getElem_cons_zero, List.setIfInBounds_toArray, List.set_cons_zero, List.set_cons_succ]
                refine wpLast_ready (rs := [16]) (by kernel_rfl) (by simp) ?_
                refine LastReady.cons rfl (fun K hK => ?_) LastReady.nil
                go_simp
                skip
                refine hK.out _ _ (fun h => absurd rfl h) (fun hHeld => ?_)
                clear hK K
                try simp only [Act.put, List.getElem_toArray, List.getElem_cons_succ, List.getElem_cons_zero, List.setIfInBounds_toArray, List.set_cons_zero, List.set_cons_succ]
                refine wpLast_done (by kernel_rfl) ?_ _
                have HZ := Lib.hid hfin
                clear hfin
                go_wp2_with fail
                go_ret2
                exact HY.out _ _ (HX.out ▸ HZ.out.1) ((HSW.out.off _).trans HZ.out.2 (fun _ _ z => z))
              · go_simp
                have hw5 := Whole.new (wq.alloc (.cells #[] 52)) 52 #[.int .i64 r.x, .int .i64 r.y, .string r.key, .string r.val, .int .i64 r.ver]
                rw [World.size_alloc] at hw5
                replace hrow0 := hrow0.alloc (.cells #[.int .i64 r.x, .int .i64 r.y, .string r.key, .string r.val, .int .i64 r.ver] 52)
                replace hsx := hsx.alloc (.cells #[.int .i64 r.x, .int .i64 r.y, .string r.key, .string r.val, .int .i64 r.ver] 52)
                refine hK.out _ _ (fun _ => hsx) (fun hHeld => ?_)
                replace hHeld := hHeld (by decide)
                clear hK K
                try simp only [Act.put, List.getElem_toArray, List.getElem_cons_succ, List.getElem_cons_zero, List.setIfInBounds_toArray, List.set_cons_zero, List.set_cons_succ]
                refine wpLast_ready (rs := [8]) (by kernel_rfl) (by simp) ?_
                refine LastReady.cons rfl (fun K hK => ?_) LastReady.nil
                refine step_append_val rfl (.tmp 43) (.tmp 49) 24 rfl wq.heap.size 52 _ 56 Tryz.underlying24 infoRR rfl (by decide) hrow0 ((H.out.row.since hsx).take encQ_len (by omega)) encQ_len encQ_one rfl rfl (by simp only [List.length_append, List.length_take, List.length_drop, List.length_cons, List.length_nil]; omega) (by decide) (by simp only [World.size_alloc]; omega) ?_
                intro V3 w3 hrow3 hoff3
                have hs3 : Since wl w3 := hoff3.since_of8 hsx (fun x e => by have := (hrow0.own x e).1; have := hqs.size; omega)
                have hz3 : wq.heap.size ≤ w3.heap.size := by have := hoff3.size; (try simp at this); omega
                replace hw5 := hoff3.whole hw5 (by simp [Value.ownBlock])
                refine hK.out _ _ (fun _ => hs3) (fun hHeld => ?_)
                replace hHeld := hHeld (by decide)
                clear hK K
                try simp only [Act.put, List.getElem_toArray, List.getElem_cons_succ, List.getElem_cons_zero, List.setIfInBounds_toArray, List.set_cons_zero, List.set_cons_succ]
                refine wpLast_ready (rs := [11]) (by kernel_rfl) (by simp) ?_
                refine LastReady.cons rfl (fun K hK => ?_) LastReady.nil
                refine step_append_val rfl (.tmp 50) (.tmp 52) 24 rfl wq.heap.size 52 _ 56 Tryz.underlying24 infoRR rfl (by decide) hrow3 (PartE.one (r := r) hw5) encQ_len encQ_one rfl rfl (by simp only [List.length_append, List.length_take, List.length_drop, List.length_cons, List.length_nil]; omega) (by decide) hz3 ?_
                intro V4 w4 hrow4 hoff4
                have hs4 : Since wl w4 := hoff4.since_of8 hs3 (fun x e => by have := (hrow3.own x e).1; have := hqs.size; omega)
                have hz4 : wq.heap.size ≤ w4.heap.size := by have := hoff4.size; (try simp at this); omega
                refine hK.out _ _ (fun _ => hs4) (fun hHeld => ?_)
                replace hHeld := hHeld (by decide)
                clear hK K
                try simp only [Act.put, List.getElem_toArray, List.getElem_cons_succ, List.getElem_cons_zero, List.setIfInBounds_toArray, List.set_cons_zero, List.set_cons_succ]
                refine wpLast_ready (rs := [13]) (by kernel_rfl) (by simp) ?_
                refine LastReady.cons rfl (fun K hK => ?_) LastReady.nil
                refine step_append_val rfl (.tmp 53) (.tmp 54) 24 rfl wq.heap.size 52 _ 56 Tryz.underlying24 infoRR rfl (by decide) hrow4 (HREST.out w4 hs4) encQ_len encQ_one rfl rfl (by simp only [List.length_append, List.length_take, List.length_drop, List.length_cons, List.length_nil]; omega) (by decide) hz4 ?_
                intro V5 w5 hrow5 hoff5
                obtain ⟨va5, vn5, vc5, rfl⟩ := hrow5.shape3
                have hs5 : Since wl w5 := hoff5.since_of8 hs4 (fun x e => by have := (hrow4.own x e).1; have := hqs.size; omega)
                have hw6 := Since.whole hs5 H.out.box
                have x5 := hw6.cell 3
                have y5 := hw6.frozen 3
                rw [List.nil_append] at hrow5
                have hfin := H.out.store hs5 hqs.size hrow5 (HFIN.out.1) (HFIN.out.2)
                refine hK.out _ _ (fun _ => hs5) (fun hHeld => ?_)
                replace hHeld := hHeld (by decide)
                clear hK K
                try simp only [Act.put, List.getElem_toArray, List.getElem_cons_succ, List.getElem_cons_zero, List.setIfInBounds_toArray, List.set_cons_zero, List.set_cons_succ]
                refine wpLast_take (i := 14) (v := ?_) rfl (by decide) (by kernel_rfl) (by kernel_rfl) (by kernel_rfl) (by kernel_rfl) (fun _ _ _ h => h) (Or.inl ⟨by rfl, ?_⟩) (by assumption) ?_
                rotate_left 1
                · (intro W hW; clear hW; go_simp; try with_reducible rfl)
                simp only [Act.put, List.getElem_toArray, List.getElem_cons_succ, List.getElem_cons_zero, List.setIfInBounds_toArray, List.set_cons_zero, List.set_cons_succ]
                refine wpLast_take (i := 15) (v := ?_) rfl (by decide) (by kernel_rfl) (by kernel_rfl) (by kernel_rfl) (by kernel_rfl) (fun _ _ _ h => h) (Or.inl ⟨by rfl, ?_⟩) (by assumption) ?_
                rotate_left 1
                · (intro W hW; clear hW; go_simp; try with_reducible rfl)
                simp only [Act.put, List.getElem_toArray, List.getElem_cons_succ, List.getElem_cons_zero, List.setIfInBounds_toArray, List.set_cons_zero, List.set_cons_succ]
                refine wpLast_ready (rs := [16]) (by kernel_rfl) (by simp) ?_
                refine LastReady.cons rfl (fun K hK => ?_) LastReady.nil
                go_simp
                skip
                refine hK.out _ _ (fun h => absurd rfl h) (fun hHeld => ?_)
                clear hK K
                try simp only [Act.put, List.getElem_toArray, List.getElem_cons_succ, List.getElem_cons_zero, List.setIfInBounds_toArray, List.set_cons_zero, List.set_cons_succ]
                refine wpLast_done (by kernel_rfl) ?_ _
                have HZ := Lib.hid hfin
                clear hfin
                go_wp2_with fail
                go_ret2
                exact HY.out _ _ (HX.out ▸ HZ.out.1) ((HSW.out.off _).trans HZ.out.2 (fun _ _ z => z))
            · go_simp
              have hw5 := Whole.new wq 52 #[.int .i64 r.x, .int .i64 r.y, .string r.key, .string r.val, .int .i64 r.ver]
              refine hK.out _ _ (fun _ => hqs.alloc _) (fun hHeld => ?_)
              replace hHeld := hHeld (by decide)
              clear hK K
              try simp only [Act.put, List.getElem_toArray, List.getElem_cons_succ, List.getElem_cons_zero, List.setIfInBounds_toArray, List.set_cons_zero, List.set_cons_succ]
              refine wpLast_ready (rs := [1]) (by kernel_rfl) (by simp) ?_
              refine LastReady.cons rfl (fun K hK => ?_) LastReady.nil
              go_simp
              have hrow0 := RowE.empty (enc := encQ) (n := 5) (wq.alloc (.cells #[.int .i64 r.x, .int .i64 r.y, .string r.key, .string r.val, .int .i64 r.ver] 52)) 52
              rw [World.size_alloc] at hrow0
              replace hrow0 := hrow0.mono (base' := wq.heap.size) (by omega)
              replace hw5 := hw5.alloc (.cells #[] 52)
              have hsx : Since wl ((wq.alloc (.cells #[.int .i64 r.x, .int .i64 r.y, .string r.key, .string r.val, .int .i64 r.ver] 52)).alloc (.cells #[] 52)) := (hqs.alloc _).alloc _
              refine hK.out _ _ (fun _ => hsx) (fun hHeld => ?_)
              replace hHeld := hHeld (by decide)
              clear hK K
              try simp only [Act.put, List.getElem_toArray, List.getElem_cons_succ, List.getElem_cons_zero, List.setIfInBounds_toArray, List.set_cons_zero, List.set_cons_succ]
              refine wpLast_ready (rs := [8]) (by kernel_rfl) (by simp) ?_
              refine LastReady.cons rfl (fun K hK => ?_) LastReady.nil
              refine step_append_val rfl (.tmp 43) (.tmp 49) 24 rfl wq.heap.size 52 _ 56 Tryz.underlying24 infoRR rfl (by decide) hrow0 ((H.out.row.since hsx).take encQ_len (by omega)) encQ_len encQ_one rfl rfl (by simp only [List.length_append, List.length_take, List.length_drop, List.length_cons, List.length_nil]; omega) (by decide) (by simp only [World.size_alloc]; omega) ?_
              intro V3 w3 hrow3 hoff3
              have hs3 : Since wl w3 := hoff3.since_of8 hsx (fun x e => by have := (hrow0.own x e).1; have := hqs.size; omega)
              have hz3 : wq.heap.size ≤ w3.heap.size := by have := hoff3.size; (try simp at this); omega
              replace hw5 := hoff3.whole hw5 (by simp [Value.ownBlock])
              refine hK.out _ _ (fun _ => hs3) (fun hHeld => ?_)
              replace hHeld := hHeld (by decide)
              clear hK K
              try simp only [Act.put, List.getElem_toArray, List.getElem_cons_succ, List.getElem_cons_zero, List.setIfInBounds_toArray, List.set_cons_zero, List.set_cons_succ]
              refine wpLast_ready (rs := [11]) (by kernel_rfl) (by simp) ?_
              refine LastReady.cons rfl (fun K hK => ?_) LastReady.nil
              refine step_append_val rfl (.tmp 50) (.tmp 52) 24 rfl wq.heap.size 52 _ 56 Tryz.underlying24 infoRR rfl (by decide) hrow3 (PartE.one (r := r) hw5) encQ_len encQ_one rfl rfl (by simp only [List.length_append, List.length_take, List.length_drop, List.length_cons, List.length_nil]; omega) (by decide) hz3 ?_
              intro V4 w4 hrow4 hoff4
              have hs4 : Since wl w4 := hoff4.since_of8 hs3 (fun x e => by have := (hrow3.own x e).1; have := hqs.size; omega)
              have hz4 : wq.heap.size ≤ w4.heap.size := by have := hoff4.size; (try simp at this); omega
              refine hK.out _ _ (fun _ => hs4) (fun hHeld => ?_)
              replace hHeld := hHeld (by decide)
              clear hK K
              try simp only [Act.put, List.getElem_toArray, List.getElem_cons_succ, List.getElem_cons_zero, List.setIfInBounds_toArray, List.set_cons_zero, List.set_cons_succ]
              refine wpLast_ready (rs := [13]) (by kernel_rfl) (by simp) ?_
              refine LastReady.cons rfl (fun K hK => ?_) LastReady.nil
              refine step_append_val rfl (.tmp 53) (.tmp 54) 24 rfl wq.heap.size 52 _ 56 Tryz.underlying24 infoRR rfl (by decide) hrow4 (HREST.out w4 hs4) encQ_len encQ_one rfl rfl (by simp only [List.length_append, List.length_take, List.length_drop, List.length_cons, List.length_nil]; omega) (by decide) hz4 ?_
              intro V5 w5 hrow5 hoff5
              obtain ⟨va5, vn5, vc5, rfl⟩ := hrow5.shape3
              have hs5 : Since wl w5 := hoff5.since_of8 hs4 (fun x e => by have := (hrow4.own x e).1; have := hqs.size; omega)
              have hw6 := Since.whole hs5 H.out.box
              have x5 := hw6.cell 3
              have y5 := hw6.frozen 3
              rw [List.nil_append] at hrow5
              have hfin := H.out.store hs5 hqs.size hrow5 (HFIN.out.1) (HFIN.out.2)
              refine hK.out _ _ (fun _ => hs5) (fun hHeld => ?_)
              replace hHeld := hHeld (by decide)
              clear hK K
              try simp only [Act.put, List.getElem_toArray, List.getElem_cons_succ, List.getElem_cons_zero, List.setIfInBounds_toArray, List.set_cons_zero, List.set_cons_succ]
              refine wpLast_take (i := 14) (v := ?_) rfl (by decide) (by kernel_rfl) (by kernel_rfl) (by kernel_rfl) (by kernel_rfl) (fun _ _ _ h => h) (Or.inl ⟨by rfl, ?_⟩) (by assumption) ?_
              rotate_left 1
              · (intro W hW; clear hW; go_simp; try with_reducible rfl)
              simp only [Act.put, List.getElem_toArray, List.getElem_cons_succ, List.getElem_cons_zero, List.setIfInBounds_toArray, List.set_cons_zero, List.set_cons_succ]
              refine wpLast_take (i := 15) (v := ?_) rfl (by decide) (by kernel_rfl) (by kernel_rfl) (by kernel_rfl) (by kernel_rfl) (fun _ _ _ h => h) (Or.inl ⟨by rfl, ?_⟩) (by assumption) ?_
              rotate_left 1
              · (intro W hW; clear hW; go_simp; try with_reducible rfl)
              simp only [Act.put, List.getElem_toArray, List.getElem_cons_succ, List.getElem_cons_zero, List.setIfInBounds_toArray, List.set_cons_zero, List.set_cons_succ]
              refine wpLast_ready (rs := [16]) (by kernel_rfl) (by simp) ?_
              refine LastReady.cons rfl (fun K hK => ?_) LastReady.nil
              go_simp
              skip
              refine hK.out _ _ (fun h => absurd rfl h) (fun hHeld => ?_)
              clear hK K
              try simp only [Act.put, List.getElem_toArray, List.getElem_cons_succ, List.getElem_cons_zero, List.setIfInBounds_toArray, List.set_cons_zero, List.set_cons_succ]
              refine wpLast_done (by kernel_rfl) ?_ _
              have HZ := Lib.hid hfin
              clear hfin
              go_wp2_with fail
              go_ret2
              exact HY.out _ _ (HX.out ▸ HZ.out.1) ((HSW.out.off _).trans HZ.out.2 (fun _ _ z => z))
          · have HREST : Hid (∀ W, Since wl W → PartE encQ W (.slice (some ⟨g, (p + 1) * 5, none⟩) (L.length - (p + 1)) (vc - (p + 1))) (L.drop (p + 1))) := fun W hW => (H.out.row.since hW).drop encQ_len
            go_wp2_with fail
            obtain ⟨wq, hwq⟩ : ∃ wq, wq = wl.drew := ⟨_, rfl⟩
            have hqs : Since wl wq := by rw [hwq]; exact (Since.refl wl).drew
            refine wp_region_last (fun W' => Since wl W') 16 (by kernel_rfl) (Since.refl wl).drew (fun hHeld => ?_)
            rw [← hwq] at hHeld ⊢
            clear hwq
            refine wpLast_take (i := 0) (v := ?_) rfl (by decide) (by kernel_rfl) (by kernel_rfl) (by kernel_rfl) (by kernel_rfl) (fun _ _ _ h => h) (Or.inl ⟨by rfl, ?_⟩) (by assumption) ?_
            rotate_left 1
            · (intro W hW; clear hW; go_simp; try with_reducible rfl)
            simp only [Act.put, List.getElem_toArray, List.getElem_cons_zero, List.setIfInBounds_toArray, List.set_cons_zero, List.set_cons_succ]
            refine wpLast_take (i := 2) (v := ?_) rfl (by decide) (by kernel_rfl) (by kernel_rfl) (by kernel_rfl) (by kernel_rfl) (fun _ _ _ h => h) (Or.inl ⟨by rfl, ?_⟩) (by assumption) ?_
            rotate_left 1
            · (intro W hW; clear hW; go_simp; try with_reducible rfl)
            simp only [Act.put, List.getElem_toArray, List.getElem_cons_succ, List.getElem_cons_zero, List.setIfInBounds_toArray, List.set_cons_zero, List.set_cons_succ]
            refine wpLast_take (i := 3) (v := ?_) rfl (by decide) (by kernel_rfl) (by kernel_rfl) (by kernel_rfl) (by kernel_rfl) (fun _ _ _ h => h) (Or.inl ⟨by rfl, ?_⟩) (by assumption) ?_
            rotate_left 1
            · (intro W hW; clear hW; go_simp; try with_reducible rfl)
            simp only [Act.put, List.getElem_toArray, List.getElem_cons_succ, List.getElem_cons_zero, List.setIfInBounds_toArray, List.set_cons_zero, List.set_cons_succ]
            refine wpLast_take (i := 4) (v := ?_) rfl (by decide) (by kernel_rfl) (by kernel_rfl) (by kernel_rfl) (by kernel_rfl) (fun _ _ _ h => h) (Or.inl ⟨by rfl, ?_⟩) (by assumption) ?_
            rotate_left 1
            · (intro W hW; clear hW; go_simp; try with_reducible rfl)
            simp only [Act.put, List.getElem_toArray, List.getElem_cons_succ, List.getElem_cons_zero, List.setIfInBounds_toArray, List.set_cons_zero, List.set_cons_succ]
            refine wpLast_take (i := 5) (v := ?_) rfl (by decide) (by kernel_rfl) (by kernel_rfl) (by kernel_rfl) (by kernel_rfl) (fun _ _ _ h => h) (Or.inl ⟨by rfl, ?_⟩) (by assumption) ?_
            rotate_left 1
            · (intro W hW; skip; go_simp; try with_reducible rfl)
            simp only [Act.put, List.getElem_toArray, List.getElem_cons_succ, List.getElem_cons_zero, List.setIfInBounds_toArray, List.set_cons_zero, List.set_cons_succ]
            refine wpLast_take (i := 6) (v := ?_) rfl (by decide) (by kernel_rfl) (by kernel_rfl) (by kernel_rfl) (by kernel_rfl) (fun _ _ _ h => h) (Or.inl ⟨by rfl, ?_⟩) (by assumption) ?_
            rotate_left 1
            · (intro W hW; clear hW; go_simp; try with_reducible rfl)
            simp only [Act.put, List.getElem_toArray, List.getElem_cons_succ, List.getElem_cons_zero, List.setIfInBounds_toArray, List.set_cons_zero, List.set_cons_succ]
            refine wpLast_take (i := 7) (v := ?_) rfl (by decide) (by kernel_rfl) (by kernel_rfl) (by kernel_rfl) (by kernel_rfl) (fun _ _ _ h => h) (Or.inl ⟨by rfl, ?_⟩) (by assumption) ?_
            rotate_left 1
            · (intro W hW; clear hW; go_simp; try with_reducible rfl)
            simp only [Act.put, List.getElem_toArray, List.getElem_cons_succ, List.getElem_cons_zero, List.setIfInBounds_toArray, List.set_cons_zero, List.set_cons_succ]
            refine wpLast_take (i := 9) (v := ?_) rfl (by decide) (by kernel_rfl) (by kernel_rfl) (by kernel_rfl) (by kernel_rfl) (fun _ _ _ h => h) (Or.inl ⟨by rfl, ?_⟩) (by assumption) ?_
            rotate_left 1
            · (intro W hW; skip; go_simp; try with_reducible rfl)
            simp only [Act.put, List.getElem_toArray, List.getElem_cons_succ, List.getElem_cons_zero, List.setIfInBounds_toArray, List.set_cons_zero, List.set_cons_succ]
            refine wpLast_take (i := 12) (v := ?_) rfl (by decide) (by kernel_rfl) (by kernel_rfl) (by kernel_rfl) (by kernel_rfl) (fun _ _ _ h => h) (Or.inl ⟨by rfl, ?_⟩) (by assumption) ?_
            rotate_left 1
            · (intro W hW; clear hW; go_simp; try with_reducible rfl)
            simp only [Act.put, List.getElem_toArray, List.getElem_cons_succ, List.getElem_cons_zero, List.setIfInBounds_toArray, List.set_cons_zero, List.set_cons_succ]
            refine wpLast_ready (rs := [1, 10]) (by kernel_rfl) (by simp) ?_
            refine LastReady.cons rfl (fun K hK => ?_) (LastReady.cons rfl (fun K hK => ?_) LastReady.nil)
            · go_simp
              have hrow0 := RowE.empty (enc := encQ) (n := 5) wq 52
              have hsx : Since wl (wq.alloc (.cells #[] 52)) := hqs.alloc _
              refine hK.out _ _ (fun _ => hsx) (fun hHeld => ?_)
              replace hHeld := hHeld (by decide)
              clear hK K
              try simp only [Act.put, List.getElem_toArray, List.getElem_cons_succ, List.getElem_cons_zero, List.setIfInBounds_toArray, List.set_cons_zero, List.set_cons_succ]
              refine wpLast_ready (rs := [8, 10]) (by kernel_rfl) (by simp) ?_
              refine LastReady.cons rfl (fun K hK => ?_) (LastReady.cons rfl (fun K hK => ?_) LastReady.nil)
              · refine step_append_val rfl (.tmp 43) (.tmp 49) 24 rfl wq.heap.size 52 _ 56 Tryz.underlying24 infoRR rfl (by decide) hrow0 ((H.out.row.since hsx).take encQ_len (by omega)) encQ_len encQ_one rfl rfl (by simp only [List.length_append, List.length_take, List.length_drop, List.length_cons, List.length_nil]; omega) (by decide) (by simp only [World.size_alloc]; omega) ?_
                intro V3 w3 hrow3 hoff3
                have hs3 : Since wl w3 := hoff3.since_of8 hsx (fun x e => by have := (hrow0.own x e).1; have := hqs.size; omega)
                have hz3 : wq.heap.size ≤ w3.heap.size := by have := hoff3.size; (try simp at this); omega
                refine hK.out _ _ (fun _ => hs3) (fun hHeld => ?_)
                replace hHeld := hHeld (by decide)
                clear hK K
                try simp only [Act.put, List.getElem_toArray, List.getElem_cons_succ, List.getElem_cons_zero, List.setIfInBounds_toArray, List.set_cons_zero, List.set_cons_succ]
                refine wpLast_ready (rs := [10]) (by kernel_rfl) (by simp) ?_
                refine LastReady.cons rfl (fun K hK => ?_) LastReady.nil
                go_simp
                have hw5 := Whole.new w3 52 #[.int .i64 r.x, .int .i64 r.y, .string r.key, .string r.val, .int .i64 r.ver]
                replace hrow3 := hrow3.alloc (.cells #[.int .i64 r.x, .int .i64 r.y, .string r.key, .string r.val, .int .i64 r.ver] 52)
                replace hs3 := hs3.alloc (.cells #[.int .i64 r.x, .int .i64 r.y, .string r.key, .string r.val, .int .i64 r.ver] 52)
                refine hK.out _ _ (fun _ => hs3) (fun hHeld => ?_)
                replace hHeld := hHeld (by decide)
                clear hK K
                try simp only [Act.put, List.getElem_toArray, List.getElem_cons_succ, List.getElem_cons_zero, List.setIfInBounds_toArray, List.set_cons_zero, List.set_cons_succ]
                refine wpLast_ready (rs := [11]) (by kernel_rfl) (by simp) ?_
                refine LastReady.cons rfl (fun K hK => ?_) LastReady.nil
                refine step_append_val rfl (.tmp 50) (.tmp 52) 24 rfl wq.heap.size 52 _ 56 Tryz.underlying24 infoRR rfl (by decide) hrow3 (PartE.one (r := r) hw5) encQ_len encQ_one rfl rfl (by simp only [List.length_append, List.length_take, List.length_drop, List.length_cons, List.length_nil]; omega) (by decide) (by simp; omega) ?_
                intro V4 w4 hrow4 hoff4
                have hs4 : Since wl w4 := hoff4.since_of8 hs3 (fun x e => by have := (hrow3.own x e).1; have := hqs.size; omega)
                have hz4 : wq.heap.size ≤ w4.heap.size := by have := hoff4.size; (try simp at this); omega
                refine hK.out _ _ (fun _ => hs4) (fun hHeld => ?_)
                replace hHeld := hHeld (by decide)
                clear hK K
                try simp only [Act.put, List.getElem_toArray, List.getElem_cons_succ, List.getElem_cons_zero, List.setIfInBounds_toArray, List.set_cons_zero, List.set_cons_succ]
                refine wpLast_ready (rs := [13]) (by kernel_rfl) (by simp) ?_
                refine LastReady.cons rfl (fun K hK => ?_) LastReady.nil
                refine step_append_val rfl (.tmp 53) (.tmp 54) 24 rfl wq.heap.size 52 _ 56 Tryz.underlying24 infoRR rfl (by decide) hrow4 (HREST.out w4 hs4) encQ_len encQ_one rfl rfl (by simp only [List.length_append, List.length_take, List.length_drop, List.length_cons, List.length_nil]; omega) (by decide) hz4 ?_
                intro V5 w5 hrow5 hoff5
                obtain ⟨va5, vn5, vc5, rfl⟩ := hrow5.shape3
                have hs5 : Since wl w5 := hoff5.since_of8 hs4 (fun x e => by have := (hrow4.own x e).1; have := hqs.size; omega)
                have hw6 := Since.whole hs5 H.out.box
                have x5 := hw6.cell 3
                have y5 := hw6.frozen 3
                rw [List.nil_append] at hrow5
                have hfin := H.out.store hs5 hqs.size hrow5 (HFIN.out.1) (HFIN.out.2)
                refine hK.out _ _ (fun _ => hs5) (fun hHeld => ?_)
                replace hHeld := hHeld (by decide)
                clear hK K
                try simp only [Act.put, List.getElem_toArray, List.getElem_cons_succ, List.getElem_cons_zero, List.setIfInBounds_toArray, List.set_cons_zero, List.set_cons_succ]
                refine wpLast_take (i := 14) (v := ?_) rfl (by decide) (by kernel_rfl) (by kernel_rfl) (by kernel_rfl) (by kernel_rfl) (fun _ _ _ h => h) (Or.inl ⟨by rfl, ?_⟩) (by assumption) ?_
                rotate_left 1
                · (intro W hW; clear hW; go_simp; try with_reducible rfl)
                simp only [Act.put, List.getElem_toArray, List.getElem_cons_succ, List.getElem_cons_zero, List.setIfInBounds_toArray, List.set_cons_zero, List.set_cons_succ]
                refine wpLast_take (i := 15) (v := ?_) rfl (by decide) (by kernel_rfl) (by kernel_rfl) (by kernel_rfl) (by kernel_rfl) (fun _ _ _ h => h) (Or.inl ⟨by rfl, ?_⟩) (by assumption) ?_
                rotate_left 1
                · (intro W hW; clear hW; go_simp; try with_reducible rfl)
                simp only [Act.put, List.getElem_toArray, List.getElem_cons_succ, List.getElem_cons_zero, List.setIfInBounds_toArray, List.set_cons_zero, List.set_cons_succ]
                refine wpLast_ready (rs := [16]) (by kernel_rfl) (by simp) ?_
                refine LastReady.cons rfl (fun K hK => ?_) LastReady.nil
                go_simp
                skip
                refine hK.out _ _ (fun h => absurd rfl h) (fun hHeld => ?_)
                clear hK K
                try simp only [Act.put, List.getElem_toArray, List.getElem_cons_succ, List.getElem_cons_zero, List.setIfInBounds_toArray, List.set_cons_zero, List.set_cons_succ]
                refine wpLast_done (by kernel_rfl) ?_ _
                have HZ := Lib.hid hfin
                clear hfin
                go_wp2_with fail
                go_ret2
                exact HY.out _ _ (HX.out ▸ HZ.out.1) ((HSW.out.off _).trans HZ.out.2 (fun _ _ z => z))
              · go_simp
                have hw5 := Whole.new (wq.alloc (.cells #[] 52)) 52 #[.int .i64 r.x, .int .i64 r.y, .string r.key, .string r.val, .int .i64 r.ver]
                rw [World.size_alloc] at hw5
                replace hrow0 := hrow0.alloc (.cells #[.int .i64 r.x, .int .i64 r.y, .string r.key, .string r.val, .int .i64 r.ver] 52)
                replace hsx := hsx.alloc (.cells #[.int .i64 r.x, .int .i64 r.y, .string r.key, .string r.val, .int .i64 r.ver] 52)
                refine hK.out _ _ (fun _ => hsx) (fun hHeld => ?_)
                replace hHeld := hHeld (by decide)
                clear hK K
                try simp only [Act.put, List.getElem_toArray, List.getElem_cons_succ, List.getElem_cons_zero, List.setIfInBounds_toArray, List.set_cons_zero, List.set_cons_succ]
                refine wpLast_ready (rs := [8]) (by kernel_rfl) (by simp) ?_
                refine LastReady.cons rfl (fun K hK => ?_) LastReady.nil
                refine step_append_val rfl (.tmp 43) (.tmp 49) 24 rfl wq.heap.size 52 _ 56 Tryz.underlying24 infoRR rfl (by decide) hrow0 ((H.out.row.since hsx).take encQ_len (by omega)) encQ_len encQ_one rfl rfl (by simp only [List.length_append, List.length_take, List.length_drop, List.length_cons, List.length_nil]; omega) (by decide) (by simp only [World.size_alloc]; omega) ?_
                intro V3 w3 hrow3 hoff3
                have hs3 : Since wl w3 := hoff3.since_of8 hsx (fun x e => by have := (hrow0.own x e).1; have := hqs.size; omega)
                have hz3 : wq.heap.size ≤ w3.heap.size := by have := hoff3.size; (try simp at this); omega
                replace hw5 := hoff3.whole hw5 (by simp [Value.ownBlock])
                refine hK.out _ _ (fun _ => hs3) (fun hHeld => ?_)
                replace hHeld := hHeld (by decide)
                clear hK K
                try simp only [Act.put, List.getElem_toArray, List.getElem_cons_succ, List.getElem_cons_zero, List.setIfInBounds_toArray, List.set_cons_zero, List.set_cons_succ]
                refine wpLast_ready (rs := [11]) (by kernel_rfl) (by simp) ?_
                refine LastReady.cons rfl (fun K hK => ?_) LastReady.nil
                refine step_append_val rfl (.tmp 50) (.tmp 52) 24 rfl wq.heap.size 52 _ 56 Tryz.underlying24 infoRR rfl (by decide) hrow3 (PartE.one (r := r) hw5) encQ_len encQ_one rfl rfl (by simp only [List.length_append, List.length_take, List.length_drop, List.length_cons, List.length_nil]; omega) (by decide) hz3 ?_
                intro V4 w4 hrow4 hoff4
                have hs4 : Since wl w4 := hoff4.since_of8 hs3 (fun x e => by have := (hrow3.own x e).1; have := hqs.size; omega)
                have hz4 : wq.heap.size ≤ w4.heap.size := by have := hoff4.size; (try simp at this); omega
                refine hK.out _ _ (fun _ => hs4) (fun hHeld => ?_)
                replace hHeld := hHeld (by decide)
                clear hK K
                try simp only [Act.put, List.getElem_toArray, List.getElem_cons_succ, List.getElem_cons_zero, List.setIfInBounds_toArray, List.set_cons_zero, List.set_cons_succ]
                refine wpLast_ready (rs := [13]) (by kernel_rfl) (by simp) ?_
                refine LastReady.cons rfl (fun K hK => ?_) LastReady.nil
                refine step_append_val rfl (.tmp 53) (.tmp 54) 24 rfl wq.heap.size 52 _ 56 Tryz.underlying24 infoRR rfl (by decide) hrow4 (HREST.out w4 hs4) encQ_len encQ_one rfl rfl (by simp only [List.length_append, List.length_take, List.length_drop, List.length_cons, List.length_nil]; omega) (by decide) hz4 ?_
                intro V5 w5 hrow5 hoff5
                obtain ⟨va5, vn5, vc5, rfl⟩ := hrow5.shape3
                have hs5 : Since wl w5 := hoff5.since_of8 hs4 (fun x e => by have := (hrow4.own x e).1; have := hqs.size; omega)
                have hw6 := Since.whole hs5 H.out.box
                have x5 := hw6.cell 3
                have y5 := hw6.frozen 3
                rw [List.nil_append] at hrow5
                have hfin := H.out.store hs5 hqs.size hrow5 (HFIN.out.1) (HFIN.out.2)
                refine hK.out _ _ (fun _ => hs5) (fun hHeld => ?_)
                replace hHeld := hHeld (by decide)
                clear hK K
                try simp only [Act.put, List.getElem_toArray, List.getElem_cons_succ, List.getElem_cons_zero, List.setIfInBounds_toArray, List.set_cons_zero, List.set_cons_succ]
                refine wpLast_take (i := 14) (v := ?_) rfl (by decide) (by kernel_rfl) (by kernel_rfl) (by kernel_rfl) (by kernel_rfl) (fun _ _ _ h => h) (Or.inl ⟨by rfl, ?_⟩) (by assumption) ?_
                rotate_left 1
                · (intro W hW; clear hW; go_simp; try with_reducible rfl)
                simp only [Act.put, List.getElem_toArray, List.getElem_cons_succ, List.getElem_cons_zero, List.setIfInBounds_toArray, List.set_cons_zero, List.set_cons_succ]
                refine wpLast_take (i := 15) (v := ?_) rfl (by decide) (by kernel_rfl) (by kernel_rfl) (by kernel_rfl) (by kernel_rfl) (fun _ _ _ h => h) (Or.inl ⟨by rfl, ?_⟩) (by assumption) ?_
                rotate_left 1
                · (intro W hW; clear hW; go_simp; try with_reducible rfl)
                simp only [Act.put, List.getElem_toArray, List.getElem_cons_succ, List.getElem_cons_zero, List.setIfInBounds_toArray, List.set_cons_zero, List.set_cons_succ]
                refine wpLast_ready (rs := [16]) (by kernel_rfl) (by simp) ?_
                refine LastReady.cons rfl (fun K hK => ?_) LastReady.nil
                go_simp
                skip
                refine hK.out _ _ (fun h => absurd rfl h) (fun hHeld => ?_)
                clear hK K
                try simp only [Act.put, List.getElem_toArray, List.getElem_cons_succ, List.getElem_cons_zero, List.setIfInBounds_toArray, List.set_cons_zero, List.set_cons_succ]
                refine wpLast_done (by kernel_rfl) ?_ _
                have HZ := Lib.hid hfin
                clear hfin
                go_wp2_with fail
                go_ret2
                exact HY.out _ _ (HX.out ▸ HZ.out.1) ((HSW.out.off _).trans HZ.out.2 (fun _ _ z => z))
            · go_simp
              have hw5 := Whole.new wq 52 #[.int .i64 r.x, .int .i64 r.y, .string r.key, .string r.val, .int .i64 r.ver]
              refine hK.out _ _ (fun _ => hqs.alloc _) (fun hHeld => ?_)
              replace hHeld := hHeld (by decide)
              clear hK K
              try simp only [Act.put, List.getElem_toArray, List.getElem_cons_succ, List.getElem_cons_zero, List.setIfInBounds_toArray, List.set_cons_zero, List.set_cons_succ]
              refine wpLast_ready (rs := [1]) (by kernel_rfl) (by simp) ?_
              refine LastReady.cons rfl (fun K hK => ?_) LastReady.nil
              go_simp
              have hrow0 := RowE.empty (enc := encQ) (n := 5) (wq.alloc (.cells #[.int .i64 r.x, .int .i64 r.y, .string r.key, .string r.val, .int .i64 r.ver] 52)) 52
              rw [World.size_alloc] at hrow0
              replace hrow0 := hrow0.mono (base' := wq.heap.size) (by omega)
              replace hw5 := hw5.alloc (.cells #[] 52)
              have hsx : Since wl ((wq.alloc (.cells #[.int .i64 r.x, .int .i64 r.y, .string r.key, .string r.val, .int .i64 r.ver] 52)).alloc (.cells #[] 52)) := (hqs.alloc _).alloc _
              refine hK.out _ _ (fun _ => hsx) (fun hHeld => ?_)
              replace hHeld := hHeld (by decide)
              clear hK K
              try simp only [Act.put, List.getElem_toArray, List.getElem_cons_succ, List.getElem_cons_zero, List.setIfInBounds_toArray, List.set_cons_zero, List.set_cons_succ]
              refine wpLast_ready (rs := [8]) (by kernel_rfl) (by simp) ?_
              refine LastReady.cons rfl (fun K hK => ?_) LastReady.nil
              refine step_append_val rfl (.tmp 43) (.tmp 49) 24 rfl wq.heap.size 52 _ 56 Tryz.underlying24 infoRR rfl (by decide) hrow0 ((H.out.row.since hsx).take encQ_len (by omega)) encQ_len encQ_one rfl rfl (by simp only [List.length_append, List.length_take, List.length_drop, List.length_cons, List.length_nil]; omega) (by decide) (by simp only [World.size_alloc]; omega) ?_
              intro V3 w3 hrow3 hoff3
              have hs3 : Since wl w3 := hoff3.since_of8 hsx (fun x e => by have := (hrow0.own x e).1; have := hqs.size; omega)
              have hz3 : wq.heap.size ≤ w3.heap.size := by have := hoff3.size; (try simp at this); omega
              replace hw5 := hoff3.whole hw5 (by simp [Value.ownBlock])
              refine hK.out _ _ (fun _ => hs3) (fun hHeld => ?_)
              replace hHeld := hHeld (by decide)
              clear hK K
              try simp only [Act.put, List.getElem_toArray, List.getElem_cons_succ, List.getElem_cons_zero, List.setIfInBounds_toArray, List.set_cons_zero, List.set_cons_succ]
              refine wpLast_ready (rs := [11]) (by kernel_rfl) (by simp) ?_
              refine LastReady.cons rfl (fun K hK => ?_) LastReady.nil
              refine step_append_val rfl (.tmp 50) (.tmp 52) 24 rfl wq.heap.size 52 _ 56 Tryz.underlying24 infoRR rfl (by decide) hrow3 (PartE.one (r := r) hw5) encQ_len encQ_one rfl rfl (by simp only [List.length_append, List.length_take, List.length_drop, List.length_cons, List.length_nil]; omega) (by decide) hz3 ?_
              intro V4 w4 hrow4 hoff4
              have hs4 : Since wl w4 := hoff4.since_of8 hs3 (fun x e => by have := (hrow3.own x e).1; have := hqs.size; omega)
              have hz4 : wq.heap.size ≤ w4.heap.size := by have := hoff4.size; (try simp at this); omega
              refine hK.out _ _ (fun _ => hs4) (fun hHeld => ?_)
              replace hHeld := hHeld (by decide)
              clear hK K
              try simp only [Act.put, List.getElem_toArray, List.getElem_cons_succ, List.getElem_cons_zero, List.setIfInBounds_toArray, List.set_cons_zero, List.set_cons_succ]
              refine wpLast_ready (rs := [13]) (by kernel_rfl) (by simp) ?_
              refine LastReady.cons rfl (fun K hK => ?_) LastReady.nil
              refine step_append_val rfl (.tmp 53) (.tmp 54) 24 rfl wq.heap.size 52 _ 56 Tryz.underlying24 infoRR rfl (by decide) hrow4 (HREST.out w4 hs4) encQ_len encQ_one rfl rfl (by simp only [List.length_append, List.length_take, List.length_drop, List.length_cons, List.length_nil]; omega) (by decide) hz4 ?_
              intro V5 w5 hrow5 hoff5
              obtain ⟨va5, vn5, vc5, rfl⟩ := hrow5.shape3
              have hs5 : Since wl w5 := hoff5.since_of8 hs4 (fun x e => by have := (hrow4.own x e).1; have := hqs.size; omega)
              have hw6 := Since.whole hs5 H.out.box
              have x5 := hw6.cell 3
              have y5 := hw6.frozen 3
              rw [List.nil_append] at hrow5
              have hfin := H.out.store hs5 hqs.size hrow5 (HFIN.out.1) (HFIN.out.2)
              refine hK.out _ _ (fun _ => hs5) (fun hHeld => ?_)
              replace hHeld := hHeld (by decide)
              clear hK K
              try simp only [Act.put, List.getElem_toArray, List.getElem_cons_succ, List.getElem_cons_zero, List.setIfInBounds_toArray, List.set_cons_zero, List.set_cons_succ]
              refine wpLast_take (i := 14) (v := ?_) rfl (by decide) (by kernel_rfl) (by kernel_rfl) (by kernel_rfl) (by kernel_rfl) (fun _ _ _ h => h) (Or.inl ⟨by rfl, ?_⟩) (by assumption) ?_
              rotate_left 1
              · (intro W hW; clear hW; go_simp; try with_reducible rfl)
              simp only [Act.put, List.getElem_toArray, List.getElem_cons_succ, List.getElem_cons_zero, List.setIfInBounds_toArray, List.set_cons_zero, List.set_cons_succ]
              refine wpLast_take (i := 15) (v := ?_) rfl (by decide) (by kernel_rfl) (by kernel_rfl) (by kernel_rfl) (by kernel_rfl) (fun _ _ _ h => h) (Or.inl ⟨by rfl, ?_⟩) (by assumption) ?_
              rotate_left 1
              · (intro W hW; clear hW; go_simp; try with_reducible rfl)
              simp only [Act.put, List.getElem_toArray, List.getElem_cons_succ, List.getElem_cons_zero, List.setIfInBounds_toArray, List.set_cons_zero, List.set_cons_succ]
              refine wpLast_ready (rs := [16]) (by kernel_rfl) (by simp) ?_
              refine LastReady.cons rfl (fun K hK => ?_) LastReady.nil
              go_simp
              skip
              refine hK.out _ _ (fun h => absurd rfl h) (fun hHeld => ?_)
              clear hK K
              try simp only [Act.put, List.getElem_toArray, List.getElem_cons_succ, List.getElem_cons_zero, List.setIfInBounds_toArray, List.set_cons_zero, List.set_cons_succ]
              refine wpLast_done (by kernel_rfl) ?_ _
              have HZ := Lib.hid hfin
              clear hfin
              go_wp2_with fail
              go_ret2
              exact HY.out _ _ (HX.out ▸ HZ.out.1) ((HSW.out.off _).trans HZ.out.2 (fun _ _ z => z))
end Go.Proofs.YthfhpejpjiaikaaGreat
