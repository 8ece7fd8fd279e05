/- The program's search: reached, Connected. -/
import Derived.Test.YtbbnojfecmocgaaK34
import Derived.Conc.LoneSelectN
namespace Go.Proofs.Ytbbnojfecmocgaa
open Go.RowKit Go.Conc
set_option linter.unusedVariables false
set_option linter.unusedSimpArgs false
theorem infoInt : (Try.prog.info? 3).map (·.bytes) = some 8 := by kernel_rfl
theorem mkChan {n : Nat} (hn : n ≤ 64) (w : World) : (Instr.makeChan 141 (.int .i64 (n : Int))).run Try.prog w = .ok (.chan (some w.heap.size)) (w.alloc (.chan n #[] false 0 0 false)) := by
  obtain ⟨i, hi, hb⟩ := Option.map_eq_some_iff.1 infoInt
  exact run_makeChan (P := Try.prog) (w := w) Try.underlying141 hi .i64 n (by omega) (by rw [hb]; omega)
theorem infoBool : (Try.prog.info? 4).map (fun i => (i.zero, i.size, i.bytes)) = some (some (.bool false), 1, 1) := by kernel_rfl
theorem made_bool (n : Nat) : madeCells (Value.bool false).cells n = boolV (List.replicate n false) := by
  unfold madeCells boolV
  apply Array.ext
  · simp
  · intro i h1 h2
    simp [Value.cells, Nat.mod_one]
theorem mkBools {n : Nat} (hn : n ≤ 64) (w : World) : (Instr.makeSlice 142 (.int .i64 (n : Int)) (.int .i64 (n : Int))).run Try.prog w = .ok (.slice (some ⟨w.heap.size, 0, none⟩) n n) (w.alloc (.cells (boolV (List.replicate n false)) 4)) := by
  obtain ⟨i0, hi, hz0, hz1, hz2⟩ := info_parts infoBool
  have h := run_make w 142 4 i0 (.bool false) Try.underlying142 hi hz0 .i64 .i64 (n : Int) (n : Int) (by omega) (Int.le_refl _) (by rw [hz2]; omega) (by omega)
  rw [hz1, Nat.mul_one, Int.toNat_natCast, made_bool] at h
  exact h
/-- What is left to do. -/
def srM (gh gc n : Nat) (W : World) : Nat := (match W.heap[gh]? with | some (.chan _ buf _ _ _ _) => buf.size | _ => 0) + 2 * (n - (match W.cell? ⟨gc, 0, none⟩ with | some (.int _ c) => c.toNat | _ => 0))
theorem Srch.meas {W : World} {gs gl gc gw gh n : Nat} {seen : List Bool} {q : List Nat} (h : Srch W gs gl gc gw gh n seen q) : srM gh gc n W = q.length + 2 * (n - seen.count true) := by
  obtain ⟨m, r, hh⟩ := h.h
  unfold srM
  rw [hh, h.c.cell 0]
  simp [natV]
theorem cnt_zero : ∀ n : Nat, (List.replicate n false).count true = 0
  | 0 => rfl
  | n + 1 => by rw [List.replicate_succ, List.count_cons, cnt_zero n]; rfl
theorem natV_size (q : List Nat) : (natV q).size = q.length := by unfold natV; simp
/-- A receive, and what it leaves. -/
theorem Srch.pop {W : World} {gs gl gc gw gh n f : Nat} {seen : List Bool} {q : List Nat} (h : Srch W gs gl gc gw gh n seen (f :: q)) : ∃ m r, W.heap[gh]? = some (.chan n (natV (f :: q)) false m r false) ∧ (natV (f :: q)).getD 0 undef = .int .i64 (f : Int) ∧ 0 < (natV (f :: q)).size ∧
    Srch (W.setChan gh n ((natV (f :: q)).extract 1 (natV (f :: q)).size) false m (r + 1) false) gs gl gc gw gh n seen q ∧ Off (SrF gl gc gh) W (W.setChan gh n ((natV (f :: q)).extract 1 (natV (f :: q)).size) false m (r + 1) false) := by
  obtain ⟨m, r, hh⟩ := h.h
  refine ⟨m, r, hh, by unfold natV; simp, by rw [natV_size]; simp, ?_, off_setChan (Off.refl _ _) (.inr (.inr (.inr rfl))) _ _ _ _ _ _⟩
  have hlt : gh < W.heap.size := (Array.getElem?_eq_some_iff.1 hh).1
  refine { h with s := whole_setChan h.s h.d7.symm _ _ _ _ _ _, l := whole_setChan h.l h.d8.symm _ _ _ _ _ _, c := whole_setChan h.c h.d9.symm _ _ _ _ _ _, w := whole_setChan h.w h.d10.symm _ _ _ _ _ _, h := ⟨m, r + 1, ?_⟩ }
  rw [heap_setChan _ _ _ _ _ _ _ _ hlt]
  have e : (natV (f :: q)).extract 1 (natV (f :: q)).size = natV q := by
    unfold natV
    simp [List.extract_toArray, List.take_of_length_le]
  rw [e]
set_option maxRecDepth 100000 in
set_option maxHeartbeats 3200000 in
theorem reached_any {B : Nat} {v : Value} {L : List Tl} {k : Int} (w : World) (h : ListE encT 3 B w v L) (hB : B ≤ w.heap.size) (hl : L.length ≤ 64) (hne : 0 < L.length) (hnd : L.Nodup) (hconn : ∀ u ∈ L, Conn k L L[0] u) :
    Calls Try.prog 43 #[.agg #[.int .i64 k], v] w fun e w' => e = .returned (.int .i64 (L.length : Nat)) ∧ Below w.heap.size w w' := by
  obtain ⟨va, cap, rfl, hform⟩ := h.form
  obtain ⟨w0, hw0⟩ : ∃ w0, w0 = w.alloc (.cells #[.int .i64 k] 26) := ⟨_, rfl⟩
  have hs0 : Since w w0 := by rw [hw0]; exact (Since.refl w).alloc _
  have wh0 : Whole w0 (w.heap.size) 26 #[.int .i64 k] := by rw [hw0]; exact Whole.new w _ _
  have HW := Lib.hid hw0
  have c0_0 := box_cell wh0 0 (.int .i64 k) rfl
  have hsr := Since.refl w0
  have hsd := hsr.drew
  clear hw0
  have hB0 : B ≤ w0.heap.size := Nat.le_trans hB hs0.size_
  have h0 := h.since hs0 hB
  have hmc := fun W => mkChan hl W
  have hms := fun W => mkBools hl W
  have hmf : ∀ (fn : Fn) (first cap : Array Value) (w : World), (Instr.makeFunc fn first cap).run Try.prog w = .ok (.func fn first cap) w := fun _ _ _ _ => rfl
  have hlt0 : (0 : Int) < L.length := by omega
  have hd0 : decide ((0 : Int) < L.length) = true := decide_eq_true hlt0
  have hw0s : w0.heap.size = w.heap.size + 1 := by rw [HW.out]; simp
  obtain ⟨w1, hw1⟩ : ∃ w1, w1 = (((((w0.alloc (.chan L.length #[] false 0 0 false)).alloc (.cells #[.chan (some (w.heap.size + 1))] 141)).alloc (.cells (boolV (List.replicate L.length false)) 4)).alloc (.cells #[.slice (some ⟨w.heap.size + 1 + 1 + 1, 0, none⟩) L.length L.length] 142)).alloc (.cells #[.int .i64 0] 3)) := ⟨_, rfl⟩
  have hs1 : Since w0 w1 := by rw [hw1]; exact (((((Since.refl w0).alloc _).alloc _).alloc _).alloc _).alloc _
  have hsr1 : Srch w1 (w.heap.size + 1 + 1 + 1 + 1) (w.heap.size + 1 + 1 + 1) (w.heap.size + 1 + 1 + 1 + 1 + 1) (w.heap.size + 1 + 1) (w.heap.size + 1) L.length (List.replicate L.length false) [] := by
    refine ⟨?_, ?_, ?_, ?_, ⟨0, 0, ?_⟩, by omega, by omega, by omega, by omega, by omega, by omega, by omega, by omega, by omega, by omega⟩
    · rw [hw1]; exact ((Whole.new _ 142 _).alloc _).at_ (by simp [hw0s])
    · rw [hw1]; exact (((Whole.new _ 4 _).alloc _).alloc _).at_ (by simp [hw0s])
    · rw [hw1, cnt_zero]; exact (Whole.new _ 3 _).at_ (by simp [hw0s])
    · rw [hw1]; exact ((((Whole.new _ 141 _).alloc _).alloc _).alloc _).at_ (by simp [hw0s])
    · have e : (w0.alloc (.chan L.length #[] false 0 0 false)).heap[w0.heap.size]? = some (.chan L.length #[] false 0 0 false) := World.alloc_heap_new w0 _
      have e2 : Since (w0.alloc (.chan L.length #[] false 0 0 false)) w1 := by rw [hw1]; exact ((((Since.refl _).alloc _).alloc _).alloc _).alloc _
      rw [← hw0s, e2.block _ (by simp), e]; rfl
  have hsz1 : w0.heap.size + 5 = w1.heap.size := by rw [hw1]; simp
  have hwk := Since.whole hs1 wh0
  have hSea : Sea L.length (List.replicate L.length false) [] := ⟨List.length_replicate, fun j hj => absurd hj List.not_mem_nil, Nat.zero_le _⟩
  have h00 : (List.replicate L.length false)[0]? = some false := by rw [List.getElem?_replicate, if_pos hne]
  have HR0 : Calls Try.prog 78 #[.int .i64 0, .pointer (some ⟨w.heap.size + 1 + 1 + 1 + 1, 0, none⟩), .pointer (some ⟨w.heap.size + 1 + 1 + 1 + 1 + 1, 0, none⟩), .pointer (some ⟨w.heap.size + 1 + 1, 0, none⟩)] w1 _ := reach_no (i := 0) hsr1 hSea h00 hne (by omega)
  have HW1 := Lib.hid hw1
  have HWS := Lib.hid (And.intro hw0s hsz1)
  have HWK := Lib.hid hwk
  have HL1 := Lib.hid (h0.since hs1 hB0)
  have hCl0 : Cl (bsN k L) (List.replicate L.length false) [] L.length := fun j h1 => by
    rw [List.getElem?_replicate] at h1
    split at h1 <;> cases h1
  have hCl1 := hCl0.push 0
  have hSea1 := hSea.push h00
  have h01 : ((List.replicate L.length false).set 0 true)[0]? = some true := List.getElem?_set_self (by rw [List.length_replicate]; exact hne)
  obtain ⟨se, hse⟩ : ∃ s, (List.replicate L.length false).set 0 true = s := ⟨_, rfl⟩
  rw [hse] at HR0 hCl1 hSea1 h01
  rw [List.nil_append] at HR0 hCl1 hSea1
  have HC1 := Lib.hid (And.intro hCl1 (And.intro hSea1 h01))
  clear hw1 hsr1 hSea h00 hw0s hsz1 hwk h h0 hCl0 hCl1 hSea1 h01 hse
  go_enter Try.func43, Try.ntmps43
  go_upto_region 5 with fail
  rw [← HW.out, ← HW1.out]
  go_wp2_with (go_at_call 78; (with_reducible refine HR0.mono ?_); rintro e w2 ⟨⟨v, rfl⟩, hS2, ho2⟩)
  go_loopw [9] (fun _ wr => ∃ seen q, Srch wr (w.heap.size + 1 + 1 + 1 + 1) (w.heap.size + 1 + 1 + 1) (w.heap.size + 1 + 1 + 1 + 1 + 1) (w.heap.size + 1 + 1) (w.heap.size + 1) L.length seen q ∧ Sea L.length seen q ∧ Cl (bsN k L) seen q L.length ∧ seen[0]? = some true ∧ Off (SrF (w.heap.size + 1 + 1 + 1) (w.heap.size + 1 + 1 + 1 + 1 + 1) (w.heap.size + 1)) w1 wr) (fun _ wr => srM (w.heap.size + 1) (w.heap.size + 1 + 1 + 1 + 1 + 1) L.length wr)
  case atStart => exact ⟨se, [0], hS2, HC1.out.2.1, HC1.out.1, HC1.out.2.2, ho2⟩
  case round =>
    obtain ⟨seen, q, hS, hE, hC, hz, ho⟩ := hrel
    clear hS2 ho2 HR0
    have hME := hS.meas
    obtain ⟨m, r, hch⟩ := hS.h
    have hcw := hS.w.cell 0
    have hlc : (Builtin.len_ #[141] 3 #[.chan (some (w.heap.size + 1))]).run Try.prog wr = .ok (.int .i64 (q.length : Nat)) wr := (run_len_chan 141 3 Try.underlying141 hch).trans (by rw [natV_size]; rfl)
    cases q with
    | nil =>
      have hcnt := sea_all hE hC hz hnd hne hconn
      have hcc := hS.c.cell 0
      rw [hcnt] at hcc
      have hd : decide ((0 : Int) < (([] : List Nat).length : Nat)) = false := by decide
      have hbl : Below w.heap.size w wr := Below.trans (B := w.heap.size) (hs0.trans hs1) (ho.below (hs0.trans hs1).size_ (fun b hb => by rcases hb with z | z | z <;> omega))
      clear hME hS hE hC hz
      go_wp2_with fail
      go_ret
      exact ⟨rfl, hbl⟩
    | cons f q =>
      clear hch m r
      obtain ⟨m, r, hch, hget, hpos, hS2, ho2⟩ := hS.pop
      have hd : decide ((0 : Int) < ((f :: q).length : Nat)) = true := decide_eq_true (by simp only [List.length_cons]; omega)
      have hf : seen[f]? = some true := hE.qs f List.mem_cons_self
      have hfn : f < L.length := by
        rw [← hE.len]
        exact (List.getElem?_eq_some_iff.1 hf).1
      have hx : seen[L.length]? ≠ some true := by rw [List.getElem?_eq_none (by rw [hE.len]; exact Nat.le_refl _)]; exact fun z => by cases z
      have hC2 := hC.pop hx
      have hE2 := hE.pop
      obtain ⟨wx, hwx⟩ : ∃ wx, wx = wr.setChan (w.heap.size + 1) L.length ((natV (f :: q)).extract 1 (natV (f :: q)).size) false m (r + 1) false := ⟨_, rfl⟩
      rw [← hwx] at hS2 ho2
      have hox := ho.trans ho2 (fun _ _ z => z)
      obtain ⟨g, rfl, hg⟩ := hform f hfn
      have hB1 : B ≤ w1.heap.size := Nat.le_trans hB0 hs1.size_
      have hgF : ∀ a, (Value.slice (some ⟨g, 0, none⟩) L.length cap).ownBlock = some a → ¬ (SrF (w.heap.size + 1 + 1 + 1) (w.heap.size + 1 + 1 + 1 + 1 + 1) (w.heap.size + 1)) a := fun a ha hF => by
        have : g = a := Option.some.inj ha
        rcases hF with z | z | z <;> omega
      have hls := HL1.out.off hB1 hox hgF
      obtain ⟨⟨fd, fb, fw⟩, hr⟩ : ∃ ρ, L[f] = ρ := ⟨_, rfl⟩
      have t1 := hls.at_ hfn 0 (u := .int .i64 fd) (by rw [hr]; rfl)
      have t2 := hls.at_ hfn 1 (u := .int .i64 fb) (by rw [hr]; rfl)
      rw [Nat.add_zero] at t1
      obtain ⟨ME, hMQ⟩ : ∃ M, srM (w.heap.size + 1) (w.heap.size + 1 + 1 + 1 + 1 + 1) L.length wr = M := ⟨_, rfl⟩
      have hmq : q.length + 2 * (L.length - seen.count true) < ME := by rw [← hMQ, hME]; simp only [List.length_cons]; omega
      have HMQ := Lib.hid hMQ
      clear hMQ
      have HX := Lib.hid (And.intro hch (And.intro hpos (And.intro hget hwx)))
      have HP := Lib.hid (And.intro hE2 (And.intro hC2 (And.intro hz hmq)))
      have HG := Lib.hid hgF
      have hfr : f < L.length := hfn
      have hfi : (f : Int) < L.length := by omega
      have hbes : ∀ l (hl' : l < L.length), bsN k L f l = besB k fd fb L[l].d L[l].b := fun l hl' => by
        unfold bsN
        rw [List.getElem?_eq_getElem hfn, List.getElem?_eq_getElem hl', hr]
      have HBS := Lib.hid hbes
      clear hch hpos hget hwx hE2 hC2 hz hmq hgF hS hE hC hME hls hr hf hx ho2 hbes ho
      go_upto_region 8 with fail
      refine COps.region ?_
      change COps _ _ _ [0, 1, 2, 3, 4, 5, 6, 7] _ _
      refine COps.value (v := .slice (some ⟨g, 0, none⟩) L.length cap) (w' := wr) rfl rfl (by simp [go_sem]) ?_
      refine COps.value (v := .chan (some (w.heap.size + 1))) (w' := wr) rfl rfl (by simp [go_sem, hcw]) ?_
      refine COps.recv (c := w.heap.size + 1) (z := .int .i64 0) rfl rfl (by simp [go_sem, rcase]) HX.out.1 HX.out.2.1 ?_
      rw [HX.out.2.2.1, ← HX.out.2.2.2]
      clear hcw hlc
      refine COps.value (v := .pointer (some ⟨g, f * 3, none⟩)) (w' := wx) rfl rfl (by go_simp) ?_
      refine COps.value (v := .pointer (some ⟨g, f * 3, none⟩)) (w' := wx) rfl rfl (by go_simp) ?_
      refine COps.value (v := .agg #[.int .i64 fd, .int .i64 fb]) (w' := wx) rfl rfl (by go_simp) ?_
      refine COps.value (v := .pointer (some ⟨wx.heap.size, 0, none⟩)) (w' := wx.alloc (.cells #[.int .i64 0, .int .i64 0] 35)) rfl rfl (by go_simp) ?_
      refine COps.skip (w' := wx.alloc (.cells #[.int .i64 fd, .int .i64 fb] 35)) rfl rfl (by go_simp) ?_
      refine COps.done ?_
      obtain ⟨wy, hwy⟩ : ∃ wy, wy = wx.alloc (.cells #[.int .i64 fd, .int .i64 fb] 35) := ⟨_, rfl⟩
      have hsy : Since wx wy := by rw [hwy]; exact (Since.refl wx).alloc _
      have hNy : Whole wy wx.heap.size 35 #[.int .i64 fd, .int .i64 fb] := by rw [hwy]; exact Whole.new wx _ _
      have hSy := hS2.off hsy
      have hoy := hox.since hsy
      have hnb : w1.heap.size ≤ wx.heap.size := hox.size
      obtain ⟨NB, hNB⟩ : ∃ b, b = wx.heap.size := ⟨_, rfl⟩
      rw [← hNB] at hNy hnb
      have hws := HWS.out
      have hNF : ¬ (SrF (w.heap.size + 1 + 1 + 1) (w.heap.size + 1 + 1 + 1 + 1 + 1) (w.heap.size + 1)) NB := fun hF => by rcases hF with z | z | z <;> omega
      clear hws
      have HNF := Lib.hid (And.intro hNF hnb)
      rw [← hwy, ← hNB]
      clear hwy hNB hsy hS2 hox t1 t2 hNF hnb
      go_wp2_with fail
      go_loopw [35] (fun i wr => ∃ (m : Nat) (seen : List Bool) (q : List Nat), i = .int .i64 m ∧ m ≤ L.length ∧ Srch wr (w.heap.size + 1 + 1 + 1 + 1) (w.heap.size + 1 + 1 + 1) (w.heap.size + 1 + 1 + 1 + 1 + 1) (w.heap.size + 1 + 1) (w.heap.size + 1) L.length seen q ∧ Sea L.length seen q ∧ Cl (bsN k L) seen q f ∧ seen[0]? = some true ∧ (∀ l, l < m → bsN k L f l = true → seen[l]? = some true) ∧ Off (SrF (w.heap.size + 1 + 1 + 1) (w.heap.size + 1 + 1 + 1 + 1 + 1) (w.heap.size + 1)) w1 wr ∧ Whole wr NB 35 #[.int .i64 fd, .int .i64 fb] ∧ q.length + 2 * (L.length - seen.count true) < ME) (fun i _ => L.length - (intOf i).toNat)
      case atStart => exact ⟨0, _, _, rfl, Nat.zero_le _, hSy, HP.out.1, HP.out.2.1, HP.out.2.2.1, fun l hl => absurd hl (Nat.not_lt_zero _), hoy, hNy, HP.out.2.2.2⟩
      case round =>
        clear hSy hoy hNy HP
        obtain ⟨m, seen, q, rfl, hm, hS, hE, hC, hz, hdn, ho, hN, hmm⟩ := hrel
        have hm100 : (m : Int) ≤ 100 := by omega
        by_cases hlt : m < L.length
        rotate_left
        · obtain rfl : m = L.length := by omega
          have d1 : decide ((L.length : Int) < L.length) = false := decide_eq_false (by omega)
          have hdn' : ∀ l, bsN k L f l = true → seen[l]? = some true := fun l hl => by
            rcases Nat.lt_or_ge l L.length with z | z
            · exact hdn l z hl
            · unfold bsN at hl
              rw [List.getElem?_eq_none z] at hl
              revert hl
              cases L[f]? <;> exact fun hl => by cases hl
          have hCn := hC.close hdn' L.length
          have hMe := hS.meas
          have HF := Lib.hid (And.intro hCn (And.intro hS (And.intro hE (And.intro hz (And.intro ho (And.intro hMe hmm))))))
          clear hdn hdn' hCn hC hS hE hz ho hN hMe hmm
          go_wp2_with fail
          go_roundw
          case rel => exact ⟨seen, q, HF.out.2.1, HF.out.2.2.1, HF.out.1, HF.out.2.2.2.1, HF.out.2.2.2.2.1⟩
          case measure => rw [HMQ.out, HF.out.2.2.2.2.2.1]; exact HF.out.2.2.2.2.2.2
        · have d1 : decide ((m : Int) < L.length) = true := decide_eq_true (by omega)
          have hls := HL1.out.off (Nat.le_trans hB0 hs1.size_) ho HG.out
          obtain ⟨⟨td, tb, tw⟩, hr⟩ : ∃ ρ, L[m] = ρ := ⟨_, rfl⟩
          have t1 := hls.at_ hlt 0 (u := .int .i64 td) (by rw [hr]; rfl)
          have t2 := hls.at_ hlt 1 (u := .int .i64 tb) (by rw [hr]; rfl)
          have t3 := hls.at_ hlt 2 (u := .int .i64 tw) (by rw [hr]; rfl)
          rw [Nat.add_zero] at t1
          have hbm : bsN k L f m = besB k fd fb td tb := by have := HBS.out m hlt; rw [hr] at this; exact this
          obtain ⟨E, hEE⟩ : ∃ E, besB k fd fb td tb = E := ⟨_, rfl⟩
          rw [hEE] at hbm
          have HEE := Lib.hid hEE
          have hwa : Since wr (wr.alloc (.cells #[.int .i64 td, .int .i64 tb, .int .i64 tw] 37)) := (Since.refl wr).alloc _
          have k0 := (Since.whole hwa (ho.whole HWK.out (fun hF => by rcases hF with z | z | z <;> omega))).cell 0
          have k1 := (Since.whole hwa hN).cell 0
          have k2 := (Since.whole hwa hN).cell 1
          have HI := Lib.hid (And.intro hE (And.intro hC (And.intro hz (And.intro hdn (And.intro hbm hmm)))))
          have HSS := Lib.hid (And.intro hS (And.intro ho hN))
          clear hr hEE hls hE hC hz hdn hmm hbm hS ho hN
          cases E with
          | false =>
            go_wp2_with (go_at_call 11; (with_reducible refine (Calls.since hwa (bBeside_at HEE.out _)).mono ?_); rintro e w5 ⟨rfl, hb5⟩; clear t1 t2 t3 k0 k1 k2)
            go_roundw
            case rel =>
              refine ⟨m + 1, seen, q, by go_num, by omega, HSS.out.1.off hb5, HI.out.1, HI.out.2.1, HI.out.2.2.1, fun l hl hb => ?_, HSS.out.2.1.since hb5, Since.whole hb5 HSS.out.2.2, HI.out.2.2.2.2.2⟩
              rcases Nat.lt_or_ge l m with z | z
              · exact HI.out.2.2.2.1 l z hb
              · obtain rfl : l = m := by omega
                rw [HI.out.2.2.2.2.1] at hb; cases hb
            case measure => simp [intOf]; omega
          | true =>
            cases hsm : seen[m]? with
            | none => exact absurd (List.getElem?_eq_none_iff.1 hsm) (by rw [HI.out.1.len]; omega)
            | some sb =>
              cases sb with
              | true =>
                have HR := Lib.hid (fun W (hW : Since wr W) => reach_yes (HSS.out.1.off hW) hsm hlt (by omega))
                have HSM := Lib.hid hsm
                clear hsm
                go_wp2_with (first | (go_at_call 11; (with_reducible refine (Calls.since hwa (bBeside_at HEE.out _)).mono ?_); rintro e w5 ⟨rfl, hb5⟩; clear t1 t2 t3 k0 k1 k2) | (go_at_call 78; (with_reducible refine (HR.out _ hb5).mono ?_); rintro e w6 ⟨⟨v, rfl⟩, rfl⟩))
                go_roundw
                case rel =>
                  refine ⟨m + 1, seen, q, by go_num, by omega, HSS.out.1.off hb5, HI.out.1, HI.out.2.1, HI.out.2.2.1, fun l hl hb => ?_, HSS.out.2.1.since hb5, Since.whole hb5 HSS.out.2.2, HI.out.2.2.2.2.2⟩
                  rcases Nat.lt_or_ge l m with z | z
                  · exact HI.out.2.2.2.1 l z hb
                  · obtain rfl : l = m := by omega
                    exact HSM.out
                case measure => simp [intOf]; omega
              | false =>
                have HR := Lib.hid (fun W (hW : Since wr W) => reach_no (HSS.out.1.off hW) HI.out.1 hsm hlt (by omega))
                have hcs := cnt_set hsm
                have hcl := cnt_lt hsm
                rw [HI.out.1.len] at hcl
                have hmm := HI.out.2.2.2.2.2
                have hmm2 : (q ++ [m]).length + 2 * (L.length - (seen.set m true).count true) < ME := by
                  rw [hcs, List.length_append, List.length_cons, List.length_nil]; omega
                have HMM := Lib.hid (And.intro hmm2 hsm)
                clear hcs hcl hmm hmm2 hsm
                go_wp2_with (first | (go_at_call 11; (with_reducible refine (Calls.since hwa (bBeside_at HEE.out _)).mono ?_); rintro e w5 ⟨rfl, hb5⟩; clear t1 t2 t3 k0 k1 k2) | (go_at_call 78; (with_reducible refine (HR.out _ hb5).mono ?_); rintro e w6 ⟨⟨v, rfl⟩, hS6, ho6⟩))
                go_roundw
                case rel =>
                  refine ⟨m + 1, seen.set m true, q ++ [m], by go_num, by omega, hS6, HI.out.1.push HMM.out.2, HI.out.2.1.push m, set_seen HI.out.2.2.1, fun l hl hb => ?_, (HSS.out.2.1.since hb5).trans ho6 (fun _ _ z => z), ho6.whole (Since.whole hb5 HSS.out.2.2) HNF.out.1, HMM.out.1⟩
                  rcases Nat.lt_or_ge l m with z | z
                  · exact set_seen (HI.out.2.2.2.1 l z hb)
                  · obtain rfl : l = m := by omega
                    exact List.getElem?_set_self (by rw [HI.out.1.len]; exact hlt)
                case measure => simp [intOf]; omega
set_option maxRecDepth 100000 in
set_option maxHeartbeats 3200000 in
theorem connected_any {B : Nat} {v : Value} {L : List Tl} {k : Int} (w : World) (h : ListE encT 3 B w v L) (hB : B ≤ w.heap.size) (hl : L.length ≤ 64) (hne : 0 < L.length) (hnd : L.Nodup) (hconn : ∀ u ∈ L, Conn k L L[0] u) (hok : ∀ u ∈ L, okP k u.d u.b = true) :
    Calls Try.prog 14 #[.agg #[.int .i64 k], v] w fun e w' => e = .returned (.bool true) ∧ Below w.heap.size w w' := by
  obtain ⟨va, cap, rfl, hform⟩ := h.form
  obtain ⟨w0, hw0⟩ : ∃ w0, w0 = w.alloc (.cells #[.int .i64 k] 26) := ⟨_, rfl⟩
  have hs0 : Since w w0 := by rw [hw0]; exact (Since.refl w).alloc _
  have wh0 : Whole w0 (w.heap.size) 26 #[.int .i64 k] := by rw [hw0]; exact Whole.new w _ _
  have HW := Lib.hid hw0
  have c0_0 := box_cell wh0 0 (.int .i64 k) rfl
  have hsr := Since.refl w0
  have hsd := hsr.drew
  clear hw0 wh0
  have hB0 : B ≤ w0.heap.size := Nat.le_trans hB hs0.size_
  have h0 := h.since hs0 hB
  have HRE := Lib.hid (fun W (hW : Since w0 W) => reached_any (k := k) W (h0.since hW hB0) (Nat.le_trans hB0 hW.size_) hl hne hnd hconn)
  clear hconn
  go_enter Try.func14, Try.ntmps14
  go_wp2_with fail
  rw [← HW.out]
  go_wp2_with (go_at_call 38; (with_reducible refine (tooLong_no hl _).mono ?_); rintro e wn ⟨rfl, rfl⟩)
  go_loopw [11] (fun i wr => ∃ m : Nat, i = .int .i64 m ∧ m ≤ L.length ∧ Since w0 wr) (fun i _ => L.length - (intOf i).toNat)
  case atStart => exact ⟨0, rfl, Nat.zero_le _, Since.refl w0⟩
  case round =>
    obtain ⟨m, rfl, hm, hs⟩ := hrel
    have hm100 : (m : Int) ≤ 100 := by omega
    by_cases hlt : m < L.length
    · obtain ⟨g, rfl, hg⟩ := hform m hlt
      have hls := h0.since hs hB0
      have hom := hok L[m] (List.getElem_mem hlt)
      obtain ⟨⟨td, tb, tw⟩, hr⟩ : ∃ ρ, L[m] = ρ := ⟨_, rfl⟩
      rw [hr] at hom
      have t1 := hls.at_ hlt 0 (u := .int .i64 td) (by rw [hr]; rfl)
      have t2 := hls.at_ hlt 1 (u := .int .i64 tb) (by rw [hr]; rfl)
      have t3 := hls.at_ hlt 2 (u := .int .i64 tw) (by rw [hr]; rfl)
      rw [Nat.add_zero] at t1
      have HO := Lib.hid hom
      have hwa : Since w0 (wr.alloc (.cells #[.int .i64 td, .int .i64 tb, .int .i64 tw] 37)) := hs.alloc _
      have d1 : decide ((m : Int) < L.length) = true := decide_eq_true (by omega)
      clear hr hom hls hok h h0
      go_wp2_with (go_at_call 42; (with_reducible refine (Calls.since hwa (right_at HO.out _)).mono ?_); rintro e w5 ⟨rfl, hb5⟩; clear t1 t2 t3)
      go_roundw
      case rel => exact ⟨m + 1, by go_num, by omega, hb5⟩
      case measure => simp [intOf]; omega
    · obtain rfl : m = L.length := by omega
      have d1 : decide ((L.length : Int) < L.length) = false := decide_eq_false (by omega)
      have e1 : ((L.length : Int) == L.length) = true := by simp
      clear hform hok h h0
      go_wp2_with (go_at_call 43; (with_reducible refine (Calls.since hs (HRE.out _ hs)).mono ?_); rintro e w5 ⟨rfl, hb5⟩)
      go_ret
      exact ⟨rfl, hs0.trans hb5⟩
end Go.Proofs.Ytbbnojfecmocgaa
