/- glebelaw08's own Light; Rec and Own of the laws below, as it calls them. glebelaw08's Own, equal. QuadJoins' walk: two trees put together, as the document's. -/
import Derived.Test.YthfhpejpjiaikaaGreatK02
import Derived.Test.YthfhpejpjiaikaaGreatK05
import Derived.Test.YthfhpejpjiaikaaGreatK06
import Derived.Test.YthfhpejpjiaikaaGreatK09
import Derived.Test.YthfhpejpjiaikaaGreatK30
import Derived.Test.YthfhpejpjiaikaaGreatK32
import Derived.Test.YthfhpejpjiaikaaGreatK43
import Derived.Test.YthfhpejpjiaikaaGreatK44
namespace Go.Proofs.YthfhpejpjiaikaaGreat
open Go.RowKit
set_option linter.unusedVariables false
set_option linter.unusedSimpArgs false
theorem rec8_any (r : Rq) (w : World) : Calls Tryz.prog 26 #[r.v] w fun e w' => e = .returned r.v ∧ Below w.heap.size w w' := by
  obtain ⟨x, y, key, val, ver⟩ := r
  simp only [Rq.v]
  go_enter Tryz.func26, Tryz.ntmps26
  go_wp2
  exact bodyPost_ret (results_cell_row rfl _ _ (w.heap.size + 1) 55 _ (0, 0) _ rfl ((Whole.new (w.alloc _) _ _).at_ (by simp)) Tryz.underlying55 rfl (by kernel_rfl)) rfl ⟨rfl, ((Since.refl w).alloc _).alloc _⟩
def smallR (r : Rq) : Bool := !decide (300 < IntKind.i64.wrap ((r.key.size : Int) + r.val.size))
def lightQ (l : List Rq) : Bool := (l.take 100).all smallR && decide (l.length ≤ 80)
theorem lightQ_len {l : List Rq} (h : lightQ l = true) : l.length ≤ 80 := by
  unfold lightQ at h
  rw [Bool.and_eq_true, decide_eq_true_iff] at h
  exact h.2
set_option maxRecDepth 100000 in
set_option maxHeartbeats 1600000 in
theorem light8_any {B : Nat} {v : Value} {l : List Rq} {w : World} (hA : LentE encQ 5 B w v l) (hB : B ≤ w.heap.size) {b : Bool} (hb : lightQ l = b) : Calls Tryz.prog 5 #[v] w fun e w' => e = .returned (.bool b) ∧ Below w.heap.size w w' := by
  have hL := fun W (hW : Since w W) => hA.since hW hB
  obtain ⟨a, cap, rfl, hc⟩ := hA
  obtain ⟨n, hn⟩ : ∃ n, l.length = n := ⟨_, rfl⟩
  have HN := Lib.hid hn
  have HB := Lib.hid hb
  have hc' : Hid (∀ k (hk : k < n), ∃ g off, a = some ⟨g, off, none⟩ ∧ ∀ W, Since w W → W.cell? ⟨g, off + k * 5 + 2, none⟩ = some (.string (l[k]'(by rw [HN.out]; exact hk)).key) ∧ W.cell? ⟨g, off + k * 5 + 3, none⟩ = some (.string (l[k]'(by rw [HN.out]; exact hk)).val)) := by
    intro k hk
    rcases hc with hc | ⟨g, off, ha, hgB, hc⟩
    · omega
    · refine ⟨g, off, ha, fun W hW => ?_⟩
      have e : ∀ j, W.cell? ⟨g, j, none⟩ = w.cell? ⟨g, j, none⟩ := fun j => World.cell?_of_block (hW.block g (Nat.lt_of_lt_of_le hgB hB))
      exact ⟨(e _).trans (hc k (by rw [HN.out]; exact hk) 2 _ rfl), (e _).trans (hc k (by rw [HN.out]; exact hk) 3 _ rfl)⟩
  rw [hn]
  clear hc hn hb hL
  have hsr := Since.refl w
  go_enter Tryz.func5, Tryz.ntmps5
  go_wp2
  go_loopw [3] (fun i wr => Since w wr ∧ ∃ k : Nat, i = .int .i64 (k : Int) ∧ k ≤ n ∧ k ≤ 100 ∧ (l.take k).all smallR = true) (fun i _ => n - (intOf i).toNat)
  case atStart => exact ⟨hsr, 0, rfl, Nat.zero_le _, by omega, rfl⟩
  case round =>
    obtain ⟨hwr, k, rfl, hk, hk6, hall⟩ := hrel
    have HALL := Lib.hid hall
    clear hall
    by_cases hlt : k < n ∧ k < 100
    · obtain ⟨h1, h2⟩ := hlt
      obtain ⟨g, off, rfl, hcell⟩ := hc'.out k h1
      obtain ⟨z, hz⟩ : ∃ z, l[k]? = some z := ⟨_, List.getElem?_eq_getElem (by rw [HN.out]; exact h1)⟩
      have hzz : l[k]'(by rw [HN.out]; exact h1) = z := (List.getElem?_eq_some_iff.1 hz).2
      rw [hzz] at hcell
      have HZ := Lib.hid hz
      have k2 := fun W hW => (hcell W hW).1
      have k3 := fun W hW => (hcell W hW).2
      obtain ⟨x, hx⟩ : ∃ x, IntKind.i64.wrap ((z.key.size : Int) + z.val.size) = x := ⟨_, rfl⟩
      have HX := Lib.hid hx
      clear hz hzz hcell
      have h1' : (k : Int) < n := by omega
      have h2' : (k : Int) < 100 := by omega
      have a2 := k2 wr hwr
      have a3 := k3 wr hwr
      have HWR := Lib.hid hwr
      clear k2 k3 hwr hsr
      by_cases hs : 300 < x
      · obtain rfl : b = false := by
          rw [← HB.out]
          unfold lightQ
          have : (l.take 100).all smallR = false := by
            rw [List.all_eq_false]
            refine ⟨z, List.mem_of_getElem? (i := k) (by rw [List.getElem?_take, if_pos h2]; exact HZ.out), ?_⟩
            unfold smallR
            rw [HX.out]
            simp [hs]
          rw [this, Bool.false_and]
        go_wp2_with fail
        go_quiet (fail)
        go_wp2
        go_ret
        exact ⟨rfl, Below.drewN HWR.out nq⟩
      · go_wp2_with fail
        go_quiet (fail)
        go_wp2
        go_roundw
        case rel =>
          refine ⟨Below.drewN HWR.out _, k + 1, by go_num, by omega, by omega, ?_⟩
          rw [List.take_add_one, HZ.out, List.all_append, HALL.out]
          simp only [Option.toList_some, List.all_cons, List.all_nil, Bool.and_true, Bool.true_and, smallR]
          rw [HX.out]
          simp [hs]
        case measure => simp [intOf]; omega
    · have hall : (l.take 100).all smallR = true := by
        rw [← HALL.out]
        by_cases h60 : k = 100
        · rw [h60]
        · rw [List.take_of_length_le (by rw [HN.out]; omega), List.take_of_length_le (by rw [HN.out]; omega)]
      obtain ⟨b', hb'⟩ : ∃ b', decide ((n : Int) ≤ 80) = b' := ⟨_, rfl⟩
      obtain rfl : b' = b := by
        rw [← HB.out, ← hb']
        unfold lightQ
        rw [hall, Bool.true_and, HN.out]
        rw [decide_eq_decide]
        omega
      clear hall
      have HWR := Lib.hid hwr
      clear hwr hsr
      by_cases hn1 : (k : Int) < n
      · have hn2 : ¬ ((k : Int) < 100) := by omega
        go_wp2
        go_ret
        exact ⟨by simp [hb'], HWR.out⟩
      · go_wp2
        go_ret
        exact ⟨by simp [hb'], HWR.out⟩
end Go.Proofs.YthfhpejpjiaikaaGreat
namespace Go.Proofs.YthfhpejpjiaikaaGreat
open Go.RowKit
set_option linter.unusedVariables false
set_option linter.unusedSimpArgs false
theorem rec8_eq (r : Rq) (w : World) : Calls Tryz.prog 26 #[.agg #[.int .i64 r.x, .int .i64 r.y, .string r.key, .string r.val, .int .i64 r.ver]] w fun e w' => e = .returned (.agg #[.int .i64 r.x, .int .i64 r.y, .string r.key, .string r.val, .int .i64 r.ver]) ∧ Below w.heap.size w w' := rec8_any r w
set_option maxRecDepth 100000 in
set_option maxHeartbeats 1600000 in
theorem own8l_any {B : Nat} {v : Value} {l : List Rq} {w : World} (hA : LentE encQ 5 B w v l) (hB : B ≤ w.heap.size) (hl : l.length ≤ 1000) : Calls Tryz.prog 8 #[v] w fun e w' => ∃ u, e = .returned u ∧ RowE encQ 5 w' w.heap.size 55 u l ∧ Below w.heap.size w w' := by
  obtain ⟨a, cap, rfl, hc⟩ := hA
  obtain ⟨n, hn⟩ : ∃ n, l.length = n := ⟨_, rfl⟩
  have HN := Lib.hid hn
  have hc' : Hid (∀ k (hk : k < n), ∃ g off, a = some ⟨g, off, none⟩ ∧ ∀ W, Since w W → ∀ j u, (encQ (l[k]'(by rw [HN.out]; exact hk)))[j]? = some u → W.cell? ⟨g, off + k * 5 + j, none⟩ = some u) := by
    intro k hk
    rcases hc with hc | ⟨g, off, ha, hgB, hc⟩
    · omega
    · refine ⟨g, off, ha, fun W hW j u hu => ?_⟩
      have e : ∀ j, W.cell? ⟨g, j, none⟩ = w.cell? ⟨g, j, none⟩ := fun j => World.cell?_of_block (hW.block g (Nat.lt_of_lt_of_le hgB hB))
      exact (e _).trans (hc k (by rw [HN.out]; exact hk) j u hu)
  rw [hn] at hl ⊢
  clear hc hn
  have hsr := Since.refl w
  go_enter Tryz.func8, Tryz.ntmps8
  go_wp2
  go_loopw [3, 4] (fun out i wr => ∃ k : Nat, i = .int .i64 (k : Int) ∧ k ≤ n ∧ RowE encQ 5 wr w.heap.size 55 out (l.take k) ∧ Since w wr) (fun _ i _ => n - (intOf i).toNat)
  case atStart => exact ⟨0, rfl, Nat.zero_le _, RowE.nil _ _ _, hsr⟩
  case round =>
    obtain ⟨k, rfl, hk, hrow, hwr⟩ := hrel
    by_cases hlt : k < n
    · obtain ⟨g, off, rfl, hcell⟩ := hc'.out k hlt
      have hll : k < l.length := by rw [HN.out]; exact hlt
      obtain ⟨r, hz⟩ : ∃ z, l[k] = z := ⟨_, rfl⟩
      have hz2 : l.take (k + 1) = l.take k ++ [r] := by rw [List.take_add_one, List.getElem?_eq_getElem hll, hz]; rfl
      rw [hz] at hcell
      have HZ := Lib.hid hz2
      have b0 := hcell wr hwr 0 (.int .i64 r.x) rfl
      have b1 := hcell wr hwr 1 (.int .i64 r.y) rfl
      have b2 := hcell wr hwr 2 (.string r.key) rfl
      have b3 := hcell wr hwr 3 (.string r.val) rfl
      have b4 := hcell wr hwr 4 (.int .i64 r.ver) rfl
      rw [Nat.add_zero] at b0
      have h1' : (k : Int) < n := by omega
      have hmax : (l.take k).length ≤ 100000 := by rw [List.length_take]; omega
      have hln : (l.take k).length = k := by rw [List.length_take]; omega
      obtain ⟨va, vc, rfl⟩ := RowE.shp hrow
      rw [hln] at hrow ⊢
      have HR := Lib.hid (fun W (hW : Since wr W) => hrow.since hW)
      have HWR := Lib.hid hwr
      clear hz hz2 hcell hrow hln
      go_wp2_with (first
        | (go_at_call 26; (with_reducible refine (rec8_eq r _).mono ?_); rintro e w2 ⟨rfl, hb2⟩; (have hr2 := HR.out w2 hb2); (have hbW : w.heap.size ≤ w2.heap.size := Nat.le_trans hwr.size_ (show wr.heap.size ≤ w2.heap.size from hb2.size)))
        | (at_builtin; refine wpList_append_off rfl _ _ 31 rfl w.heap.size 55 _ 56 Tryz.underlying31 infoRec rfl (by decide) hr2 r rfl rfl (by simp [encQ, Value.oneCell']) rfl rfl hmax (by decide) hbW ?_; intro v' w3 hrow3 hoff3 hob3))
      go_roundw
      case rel =>
        refine ⟨k + 1, by go_num, by omega, by rw [HZ.out]; exact hrow3, ?_⟩
        exact Below.trans (show Below w.heap.size w w2 from HWR.out.trans hb2) (hoff3.below (B := w.heap.size) hbW (fun c z => (hr2.own c z).1))
      case measure => simp [intOf]; omega
    · obtain rfl : k = n := by omega
      rw [List.take_of_length_le (Nat.le_of_eq HN.out)] at hrow
      have HX := Lib.hid (And.intro hrow hwr)
      clear hrow hwr
      go_wp2
      go_ret
      exact ⟨_, rfl, HX.out.1, HX.out.2⟩
end Go.Proofs.YthfhpejpjiaikaaGreat
namespace Go.Proofs.YthfhpejpjiaikaaGreat
open Go.RowKit
attribute [local go_sem] Oper.semAt_some
set_option linter.unusedVariables false
set_option linter.unusedSimpArgs false
theorem tuple2 {a b c d : Value} (h : Ending.returned (.tuple #[a, b]) = .returned (.tuple #[c, d])) : a = c ∧ b = d := by
  injection h with h
  injection h with h
  have h0 := congrArg (fun x => x[0]?) h
  have h1 := congrArg (fun x => x[1]?) h
  simp only [List.getElem?_toArray, List.getElem?_cons_zero, List.getElem?_cons_succ, Option.some.injEq] at h0 h1
  exact ⟨h0, h1⟩
theorem new_split {k d b : Int} {l : List Rq} {w W' : World} {x : Option Addr} {y : Int} (h : NewP k d b l w (.returned (.tuple #[.pointer x, .int .i64 y])) W') :
    (∃ g q, x = some ⟨g, 0, none⟩ ∧ y = 0 ∧ okP k d b = true ∧ l.all (okR (zoneR k d b)) = true ∧ TreeO g q k d b (putsQ [] l) W') ∨ (x = none ∧ y = 1) := by
  rcases h with ⟨h1, h2, g, q, h3, h4, h5, h6⟩ | ⟨h1, h2, h3⟩
  · obtain ⟨e1, e2⟩ := tuple2 h3
    injection e1 with e1
    injection e2 with e2 e3
    exact .inl ⟨g, q, e1, e3, h1, h2, h4⟩
  · obtain ⟨e1, e2⟩ := tuple2 h2
    injection e1 with e1
    injection e2 with e2 e3
    exact .inr ⟨e1, e3⟩
theorem tjoin_form {k d b k2 d2 b2 : Int} {L L2 : List Rq} {w W' : World} {e : Ending} (h : TJoinP k d b k2 d2 b2 L L2 w e W') : ∃ x y, e = .returned (.tuple #[.pointer x, .int .i64 y]) ∧ Below w.heap.size w W' := by
  rcases h with ⟨_, h2, h3⟩ | ⟨_, g, q, h3, _, h6⟩
  · exact ⟨_, _, h2, h3⟩
  · exact ⟨_, _, h3, h6⟩
theorem djoin_form {k d b k2 d2 b2 : Int} {L L2 : List Rq} {w W' : World} {e : Ending} (h : DJoinP k d b k2 d2 b2 L L2 w e W') : ∃ x, e = .returned (.pointer x) ∧ Below w.heap.size w W' := by
  rcases h with ⟨_, h2, h3⟩ | ⟨_, g, v, h3, _, _, h6⟩
  · exact ⟨_, h2, h3⟩
  · exact ⟨_, h3, h6⟩
/-- Both tell of no tree, or both of one of the same records. -/
theorem join_split {k d b k2 d2 b2 : Int} {L L2 : List Rq} {w w2 W W' : World} {x z : Option Addr} {y : Int} (h : TJoinP k d b k2 d2 b2 L L2 w (.returned (.tuple #[.pointer x, .int .i64 y])) W) (h2 : DJoinP k d b k2 d2 b2 L L2 w2 (.returned (.pointer z)) W') :
    (x = none ∧ y = 1 ∧ z = none) ∨ (∃ g q gr v, x = some ⟨g, 0, none⟩ ∧ y = 0 ∧ z = some ⟨gr, 0, none⟩ ∧ TreeO g q k (d - 1) (b / 2) (putsQ [] (L ++ L2)) W ∧ DocO gr k (d - 1) (b / 2) (putsQ [] (L ++ L2)) v W') := by
  rcases h with ⟨j1, e1, -⟩ | ⟨j1, g, q, e1, t1, -⟩
  · rcases h2 with ⟨j2, e2, -⟩ | ⟨j2, -⟩
    · obtain ⟨e3, e4⟩ := tuple2 e1
      injection e3 with e3
      injection e4 with e4 e5
      injection e2 with e2
      injection e2 with e2
      exact .inl ⟨e3, e5, e2⟩
    · rw [j1] at j2; cases j2
  · rcases h2 with ⟨j2, -⟩ | ⟨j2, gr, v, e2, t2, -⟩
    · rw [j1] at j2; cases j2
    · obtain ⟨e3, e4⟩ := tuple2 e1
      injection e3 with e3
      injection e4 with e4 e5
      injection e2 with e2
      injection e2 with e2
      exact .inr ⟨g, q, gr, v, e3, e5, e2, t1, t2⟩
set_option maxRecDepth 100000 in
set_option maxHeartbeats 12800000 in
theorem joins8_go (a0 a1 a2 : Int) (b0 : Option Addr) (len0 cap0 : Nat) (l : List Rq) (a3 a4 a5 : Int) (b1 : Option Addr) (len1 cap1 : Nat) (m : List Rq) (w : World)
    (k0 : (Lit.int .i64 a0).wf = true) (k1 : (Lit.int .i64 a1).wf = true) (k2 : (Lit.int .i64 a2).wf = true) (wl : LentE encQ 5 w.heap.size w (.slice b0 len0 cap0) l)
    (k3 : (Lit.int .i64 a3).wf = true) (k4 : (Lit.int .i64 a4).wf = true) (k5 : (Lit.int .i64 a5).wf = true) (wm : LentE encQ 5 w.heap.size w (.slice b1 len1 cap1) m) :
    Calls Tryz.prog 3 #[.int .i64 a0, .agg #[.int .i64 a1, .int .i64 a2], .slice b0 len0 cap0, .int .i64 a3, .agg #[.int .i64 a4, .int .i64 a5], .slice b1 len1 cap1] w fun e w' => e = .returned (.bool true) ∧ Below w.heap.size w w' := by
  obtain ⟨w0, hw0⟩ : ∃ w0, w0 = (w.alloc (.cells #[.int .i64 a1, .int .i64 a2] 23)).alloc (.cells #[.int .i64 a4, .int .i64 a5] 23) := ⟨_, rfl⟩
  have hs0 : Since w w0 := by rw [hw0]; exact ((Since.refl w).alloc _).alloc _
  have wh0 : Whole w0 (w.heap.size) 23 #[.int .i64 a1, .int .i64 a2] := by rw [hw0]; exact (Whole.new w _ _).alloc _
  have wh1 : Whole w0 (w.heap.size + 1) 23 #[.int .i64 a4, .int .i64 a5] := by rw [hw0]; exact (Whole.new (w.alloc _) _ _).at_ (by simp)
  have HW := Lib.hid hw0
  have c0_0 := box_cell wh0 0 (.int .i64 a1) rfl
  have c0_1 := box_cell wh0 1 (.int .i64 a2) rfl
  have c1_0 := box_cell wh1 0 (.int .i64 a4) rfl
  have c1_1 := box_cell wh1 1 (.int .i64 a5) rfl
  have hsr := Since.refl w0
  have hsd := hsr.drew
  clear hw0 wh0 wh1
  have HS0 := Lib.hid hs0
  have HWL := Lib.hid wl
  have HWM := Lib.hid wm
  obtain ⟨e0, hb0⟩ : ∃ e, lightQ l = e := ⟨_, rfl⟩
  obtain ⟨e2, hb2⟩ : ∃ e, lightQ m = e := ⟨_, rfl⟩
  have HL0 := Lib.hid (fun W (hW : Since w0 W) => light8_any (wl.since (hs0.trans hW) (Nat.le_refl _)) (hs0.trans hW).size_ hb0)
  have HL2 := Lib.hid (fun W (hW : Since w0 W) => light8_any (wm.since (hs0.trans hW) (Nat.le_refl _)) (hs0.trans hW).size_ hb2)
  clear wl wm k0 k1 k2 k3 k4 k5
  cases e0 with
  | false =>
    clear hs0 hb2
    go_enter Tryz.func3, Tryz.ntmps3
    go_wp2_with fail
    rw [← HW.out]
    go_wp2_with (first | (go_at_call 5; (with_reducible refine (HL0.out _ (by assumption)).mono ?_); rintro e w1 ⟨rfl, hbw1⟩; (have hsw1 := Since.trans (show Since w0 _ by assumption) hbw1)) | (go_at_call 6; (with_reducible refine (knows8_any _).mono ?_); rintro e w2 ⟨rfl, hbw2⟩; (have hsw2 := Since.trans (show Since w0 _ by assumption) hbw2)))
    go_ret
    exact ⟨rfl, HS0.out.trans (by assumption)⟩
  | true =>
    cases e2 with
    | false =>
      clear hs0
      go_enter Tryz.func3, Tryz.ntmps3
      go_wp2_with fail
      rw [← HW.out]
      go_wp2_with (first | (go_at_call 5; (with_reducible refine (HL0.out _ (by assumption)).mono ?_); rintro e w1 ⟨rfl, hbw1⟩; (have hsw1 := Since.trans (show Since w0 _ by assumption) hbw1)) | (go_at_call 5; (with_reducible refine (HL2.out _ (by assumption)).mono ?_); rintro e w1 ⟨rfl, hbw1⟩; (have hsw1 := Since.trans (show Since w0 _ by assumption) hbw1)) | (go_at_call 6; (with_reducible refine (knows8_any _).mono ?_); rintro e w2 ⟨rfl, hbw2⟩; (have hsw2 := Since.trans (show Since w0 _ by assumption) hbw2)))
      go_ret
      exact ⟨rfl, HS0.out.trans (by assumption)⟩
    | true =>
      have hl80 := lightQ_len hb0
      have hm80 := lightQ_len hb2
      have HN8 := Lib.hid (And.intro hl80 hm80)
      clear hs0 hb0 hb2 hl80 hm80
      go_enter Tryz.func3, Tryz.ntmps3
      go_wp2_with fail
      rw [← HW.out]
      go_wp2_with (first | (go_at_call 5; (with_reducible refine (HL0.out _ (by assumption)).mono ?_); rintro e w1 ⟨rfl, hbw1⟩; (have hsw1 := Since.trans (show Since w0 _ by assumption) hbw1)) | (go_at_call 5; (with_reducible refine (HL2.out _ (by assumption)).mono ?_); rintro e w2 ⟨rfl, hbw2⟩; (have hsw2 := Since.trans (show Since w0 _ by assumption) hbw2)))
      have hs2 : Since w0 w2 := by assumption
      clear hbw1 hbw2 hsw1 hsw2
      refine wp_region_held_drew (S := fun W => Since w0 W) (by kernel_rfl) hs2.drew (fun hHeld => ?_)
      generalize w2.drew = wq at hHeld ⊢
      have hq : Since w0 wq := hHeld
      refine wpAnyH_take (i := 0) (v := ?_) rfl (by kernel_rfl) (by kernel_rfl) (by kernel_rfl) (fun _ _ _ h => h) (Or.inl ⟨by rfl, ?_⟩) (by assumption) ?_
      rotate_left 1
      · (intro W hW; clear hW; go_simp; try with_reducible rfl)
      simp only [Act.put, List.getElem_toArray, List.getElem_cons_zero, List.setIfInBounds_toArray, List.set_cons_zero, List.set_cons_succ]
      refine wpAnyH_take (i := 1) (v := ?_) rfl (by kernel_rfl) (by kernel_rfl) (by kernel_rfl) (fun _ _ _ h => h) (Or.inl ⟨by rfl, ?_⟩) (by assumption) ?_
      rotate_left 1
      · (intro W hW; skip; go_simp; try with_reducible rfl)
      simp only [Act.put, List.getElem_toArray, List.getElem_cons_succ, List.getElem_cons_zero, List.setIfInBounds_toArray, List.set_cons_zero, List.set_cons_succ]
      refine wpAnyH_take (i := 2) (v := ?_) rfl (by kernel_rfl) (by kernel_rfl) (by kernel_rfl) (fun _ _ _ h => h) (Or.inl ⟨by rfl, ?_⟩) (by assumption) ?_
      rotate_left 1
      · (intro W hW; clear hW; go_simp; try with_reducible rfl)
      simp only [Act.put, List.getElem_toArray, List.getElem_cons_succ, List.getElem_cons_zero, List.setIfInBounds_toArray, List.set_cons_zero, List.set_cons_succ]
      refine wpAnyH_ready (rs := [3]) (by kernel_rfl) (by simp) ?_
      refine AllReadyH.cons rfl (fun K hK => ?_) AllReadyH.nil
      go_simp
      with_reducible refine (own8l_any (HWL.out.since (HS0.out.trans hq) (Nat.le_refl _)) (HS0.out.trans hq).size_ (Nat.le_trans HN8.out.1 (by decide))).mono ?_
      rintro e w3 ⟨v3, rfl, hrA, hb3⟩
      obtain ⟨xa, ca, rfl⟩ := RowE.shp hrA
      have hs3 : Since w0 w3 := hq.trans hb3
      go_wp2_with fail
      refine hK.out _ _ (hs3) (fun hHeld => ?_)
      clear hK K
      try simp only [Act.put, List.getElem_toArray, List.getElem_cons_succ, List.getElem_cons_zero, List.setIfInBounds_toArray, List.set_cons_zero, List.set_cons_succ]
      refine wpAnyH_ready (rs := [4]) (by kernel_rfl) (by simp) ?_
      refine AllReadyH.cons rfl (fun K hK => ?_) AllReadyH.nil
      go_simp
      have hLA : ListE encQ 5 w3.heap.size w3 (.slice xa l.length ca) l := hrA.list encQ_len
      with_reducible refine (tnew_any hLA (Nat.le_refl _) (Nat.le_trans HN8.out.1 (by decide))).mono ?_
      rintro e w4 hP
      obtain ⟨px, py, rfl, hb4⟩ := new_form hP
      have hs4 : Since w0 w4 := hs3.trans hb4
      go_wp2_with fail
      refine hK.out _ _ (hs4) (fun hHeld => ?_)
      clear hK K
      try simp only [Act.put, List.getElem_toArray, List.getElem_cons_succ, List.getElem_cons_zero, List.setIfInBounds_toArray, List.set_cons_zero, List.set_cons_succ]
      refine wpAnyH_take (i := 5) (v := ?_) rfl (by kernel_rfl) (by kernel_rfl) (by kernel_rfl) (fun _ _ _ h => h) (Or.inl ⟨by rfl, ?_⟩) (by assumption) ?_
      rotate_left 1
      · (intro W hW; clear hW; go_simp; try with_reducible rfl)
      simp only [Act.put, List.getElem_toArray, List.getElem_cons_succ, List.getElem_cons_zero, List.setIfInBounds_toArray, List.set_cons_zero, List.set_cons_succ]
      refine wpAnyH_take (i := 6) (v := ?_) rfl (by kernel_rfl) (by kernel_rfl) (by kernel_rfl) (fun _ _ _ h => h) (Or.inl ⟨by rfl, ?_⟩) (by assumption) ?_
      rotate_left 1
      · (intro W hW; clear hW; go_simp; try with_reducible rfl)
      simp only [Act.put, List.getElem_toArray, List.getElem_cons_succ, List.getElem_cons_zero, List.setIfInBounds_toArray, List.set_cons_zero, List.set_cons_succ]
      refine wpAnyH_take (i := 7) (v := ?_) rfl (by kernel_rfl) (by kernel_rfl) (by kernel_rfl) (fun _ _ _ h => h) (Or.inl ⟨by rfl, ?_⟩) (by assumption) ?_
      rotate_left 1
      · (intro W hW; clear hW; go_simp; try with_reducible rfl)
      simp only [Act.put, List.getElem_toArray, List.getElem_cons_succ, List.getElem_cons_zero, List.setIfInBounds_toArray, List.set_cons_zero, List.set_cons_succ]
      refine wpAnyH_take (i := 8) (v := ?_) rfl (by kernel_rfl) (by kernel_rfl) (by kernel_rfl) (fun _ _ _ h => h) (Or.inl ⟨by rfl, ?_⟩) (by assumption) ?_
      rotate_left 1
      · (intro W hW; clear hW; go_simp; try with_reducible rfl)
      simp only [Act.put, List.getElem_toArray, List.getElem_cons_succ, List.getElem_cons_zero, List.setIfInBounds_toArray, List.set_cons_zero, List.set_cons_succ]
      refine wpAnyH_take (i := 9) (v := ?_) rfl (by kernel_rfl) (by kernel_rfl) (by kernel_rfl) (fun _ _ _ h => h) (Or.inl ⟨by rfl, ?_⟩) (by assumption) ?_
      rotate_left 1
      · (intro W hW; clear hW; go_simp; try with_reducible rfl)
      simp only [Act.put, List.getElem_toArray, List.getElem_cons_succ, List.getElem_cons_zero, List.setIfInBounds_toArray, List.set_cons_zero, List.set_cons_succ]
      refine wpAnyH_done (by kernel_rfl) ?_ _
      have HPA := Lib.hid hP
      clear hHeld hq hs2 hrA hb3 hs3 hLA hb4 hP
      go_wp2_with fail
      refine wp_region_held_drew (S := fun W => Since w0 W) (by kernel_rfl) hs4.drew (fun hHeld => ?_)
      have hd4 := (Since.refl w4).drew
      generalize w4.drew = wq at hHeld hd4 ⊢
      have hq : Since w0 wq := hHeld
      refine wpAnyH_take (i := 0) (v := ?_) rfl (by kernel_rfl) (by kernel_rfl) (by kernel_rfl) (fun _ _ _ h => h) (Or.inl ⟨by rfl, ?_⟩) (by assumption) ?_
      rotate_left 1
      · (intro W hW; clear hW; go_simp; try with_reducible rfl)
      simp only [Act.put, List.getElem_toArray, List.getElem_cons_zero, List.setIfInBounds_toArray, List.set_cons_zero, List.set_cons_succ]
      refine wpAnyH_take (i := 1) (v := ?_) rfl (by kernel_rfl) (by kernel_rfl) (by kernel_rfl) (fun _ _ _ h => h) (Or.inl ⟨by rfl, ?_⟩) (by assumption) ?_
      rotate_left 1
      · (intro W hW; skip; go_simp; try with_reducible rfl)
      simp only [Act.put, List.getElem_toArray, List.getElem_cons_succ, List.getElem_cons_zero, List.setIfInBounds_toArray, List.set_cons_zero, List.set_cons_succ]
      refine wpAnyH_take (i := 2) (v := ?_) rfl (by kernel_rfl) (by kernel_rfl) (by kernel_rfl) (fun _ _ _ h => h) (Or.inl ⟨by rfl, ?_⟩) (by assumption) ?_
      rotate_left 1
      · (intro W hW; clear hW; go_simp; try with_reducible rfl)
      simp only [Act.put, List.getElem_toArray, List.getElem_cons_succ, List.getElem_cons_zero, List.setIfInBounds_toArray, List.set_cons_zero, List.set_cons_succ]
      refine wpAnyH_ready (rs := [3]) (by kernel_rfl) (by simp) ?_
      refine AllReadyH.cons rfl (fun K hK => ?_) AllReadyH.nil
      go_simp
      with_reducible refine (own8l_any (HWM.out.since (HS0.out.trans hq) (Nat.le_refl _)) (HS0.out.trans hq).size_ (Nat.le_trans HN8.out.2 (by decide))).mono ?_
      rintro e w5 ⟨v5, rfl, hrB, hb5⟩
      obtain ⟨xb, cb, rfl⟩ := RowE.shp hrB
      have hs5 : Since w0 w5 := hq.trans hb5
      have hd5 : Since w4 w5 := hd4.trans hb5
      go_wp2_with fail
      refine hK.out _ _ (hs5) (fun hHeld => ?_)
      clear hK K
      try simp only [Act.put, List.getElem_toArray, List.getElem_cons_succ, List.getElem_cons_zero, List.setIfInBounds_toArray, List.set_cons_zero, List.set_cons_succ]
      refine wpAnyH_ready (rs := [4]) (by kernel_rfl) (by simp) ?_
      refine AllReadyH.cons rfl (fun K hK => ?_) AllReadyH.nil
      go_simp
      have hLB : ListE encQ 5 w5.heap.size w5 (.slice xb m.length cb) m := hrB.list encQ_len
      with_reducible refine (tnew_any hLB (Nat.le_refl _) (Nat.le_trans HN8.out.2 (by decide))).mono ?_
      rintro e w6 hP
      obtain ⟨qx, qy, rfl, hb6⟩ := new_form hP
      have hs6 : Since w0 w6 := hs5.trans hb6
      have hd6 : Since w4 w6 := hd5.trans hb6
      go_wp2_with fail
      refine hK.out _ _ (hs6) (fun hHeld => ?_)
      clear hK K
      try simp only [Act.put, List.getElem_toArray, List.getElem_cons_succ, List.getElem_cons_zero, List.setIfInBounds_toArray, List.set_cons_zero, List.set_cons_succ]
      refine wpAnyH_take (i := 5) (v := ?_) rfl (by kernel_rfl) (by kernel_rfl) (by kernel_rfl) (fun _ _ _ h => h) (Or.inl ⟨by rfl, ?_⟩) (by assumption) ?_
      rotate_left 1
      · (intro W hW; clear hW; go_simp; try with_reducible rfl)
      simp only [Act.put, List.getElem_toArray, List.getElem_cons_succ, List.getElem_cons_zero, List.setIfInBounds_toArray, List.set_cons_zero, List.set_cons_succ]
      refine wpAnyH_take (i := 6) (v := ?_) rfl (by kernel_rfl) (by kernel_rfl) (by kernel_rfl) (fun _ _ _ h => h) (Or.inl ⟨by rfl, ?_⟩) (by assumption) ?_
      rotate_left 1
      · (intro W hW; clear hW; go_simp; try with_reducible rfl)
      simp only [Act.put, List.getElem_toArray, List.getElem_cons_succ, List.getElem_cons_zero, List.setIfInBounds_toArray, List.set_cons_zero, List.set_cons_succ]
      refine wpAnyH_take (i := 7) (v := ?_) rfl (by kernel_rfl) (by kernel_rfl) (by kernel_rfl) (fun _ _ _ h => h) (Or.inl ⟨by rfl, ?_⟩) (by assumption) ?_
      rotate_left 1
      · (intro W hW; clear hW; go_simp; try with_reducible rfl)
      simp only [Act.put, List.getElem_toArray, List.getElem_cons_succ, List.getElem_cons_zero, List.setIfInBounds_toArray, List.set_cons_zero, List.set_cons_succ]
      refine wpAnyH_take (i := 8) (v := ?_) rfl (by kernel_rfl) (by kernel_rfl) (by kernel_rfl) (fun _ _ _ h => h) (Or.inl ⟨by rfl, ?_⟩) (by assumption) ?_
      rotate_left 1
      · (intro W hW; clear hW; go_simp; try with_reducible rfl)
      simp only [Act.put, List.getElem_toArray, List.getElem_cons_succ, List.getElem_cons_zero, List.setIfInBounds_toArray, List.set_cons_zero, List.set_cons_succ]
      refine wpAnyH_take (i := 9) (v := ?_) rfl (by kernel_rfl) (by kernel_rfl) (by kernel_rfl) (fun _ _ _ h => h) (Or.inl ⟨by rfl, ?_⟩) (by assumption) ?_
      rotate_left 1
      · (intro W hW; clear hW; go_simp; try with_reducible rfl)
      simp only [Act.put, List.getElem_toArray, List.getElem_cons_succ, List.getElem_cons_zero, List.setIfInBounds_toArray, List.set_cons_zero, List.set_cons_succ]
      refine wpAnyH_done (by kernel_rfl) ?_ _
      have HPB := Lib.hid hP
      have HD6 := Lib.hid hd6
      have HS6 := Lib.hid (HS0.out.trans hs6)
      clear hHeld hq hrB hb5 hs5 hLB hb6 hP hd4 hd5 hd6 hs4
      have hsr6 := Since.refl w6
      have hKN : Hid (∀ W : World, Calls Tryz.prog 6 #[] W fun e w' => e = .returned (.bool true) ∧ Below W.heap.size W w') := fun W => knows8_any W
      rcases new_split HPA.out with ⟨g, q, rfl, rfl, hokA, hallA, hTA⟩ | ⟨rfl, rfl⟩
      · rcases new_split HPB.out with ⟨g2, q2, rfl, rfl, hokB, hallB, hTB⟩ | ⟨rfl, rfl⟩
        · have hlA : (putsQ [] l).length ≤ 80 := by have := putsQ_most [] l; simp only [List.length_nil] at this; have := HN8.out.1; omega
          have hlB : (putsQ [] m).length ≤ 80 := by have := putsQ_most [] m; simp only [List.length_nil] at this; have := HN8.out.2; omega
          have hTA6 := hTA.since HD6.out
          have HJ := Lib.hid (tjoin_any hTA6 hTB (by omega))
          have HNA := Lib.hid (fun W (hW : Since w W) => dnew_any (k := a0) (d := a1) (b := a2) (HWL.out.since hW (Nat.le_refl _)) hW.size_ (Nat.le_trans HN8.out.1 (by decide)))
          have HNB := Lib.hid (fun W (hW : Since w W) => dnew_any (k := a3) (d := a4) (b := a5) (HWM.out.since hW (Nat.le_refl _)) hW.size_ (Nat.le_trans HN8.out.2 (by decide)))
          have HOK := Lib.hid (And.intro hokA (And.intro hallA (And.intro hokB hallB)))
          have HT6 := Lib.hid (And.intro hTA6 hTB)
          have HLL := Lib.hid (And.intro hlA hlB)
          clear hTA hokA hallA hokB hallB hTB hTA6 hlA hlB
          go_upto_region 8 with (first
            | (go_at_call 10; (with_reducible refine (num8_any _ _).mono ?_); rintro e wn ⟨rfl, rfl⟩)
            | (go_at_call 9; (with_reducible refine HJ.out.mono ?_); rintro e w7 hJP; obtain ⟨jx, jy, rfl, hb7⟩ := tjoin_form hJP; (have hs7 : Since w6 w7 := hb7); (have HJP := Lib.hid hJP); clear hJP))
          have hs07 := hs6.trans hs7
          go_upto_region 9 with (go_at_call 11; (with_reducible refine (HNA.out _ (HS0.out.trans hs07)).mono ?_); rintro e w8 hP; obtain ⟨gr, v, rfl, hDA, hgr, hb8⟩ := dnew_yes hP HOK.out.1 HOK.out.2.1; clear hP)
          have hs78 : Since w7 w8 := hb8
          have hs08 := hs07.trans hs78
          go_upto_region 10 with (go_at_call 11; (with_reducible refine (HNB.out _ (HS0.out.trans hs08)).mono ?_); rintro e w9 hP; obtain ⟨gs, u, rfl, hDB, hgs, hb9⟩ := dnew_yes hP HOK.out.2.2.1 HOK.out.2.2.2; clear hP)
          have hs89 : Since w8 w9 := hb9
          have hs09 := hs08.trans hs89
          have hDA9 := hDA.since hs89
          have HDJ := Lib.hid (djoin_any hDA9 hDB (by have := HLL.out; omega))
          have HT9 := Lib.hid (HT6.out.1.since (hs7.trans (hs78.trans hs89)))
          have HDA := Lib.hid hDA9
          have hs79 := hs78.trans hs89
          clear hDA hDA9 hDB hb8 hb9 hb7 hgr hgs hs07 hs08 hs78 hs89
          go_upto_region 13 with (go_at_call 12; (with_reducible refine HDJ.out.mono ?_); rintro e w10 hDP; obtain ⟨dx, rfl, hb10⟩ := djoin_form hDP)
          have hs10 : Since w9 w10 := hb10
          have HAA := Lib.hid (fun W (hW : Since w10 W) => alike8_any (HT9.out.since (hs10.trans hW)) (HDA.out.since (hs10.trans hW)) (by have := HLL.out; omega))
          have HS10 := Lib.hid (HS0.out.trans (hs09.trans hs10))
          have hsr10 := Since.refl w10
          rcases join_split HJP.out hDP with ⟨rfl, rfl, rfl⟩ | ⟨gx, qx, gz, vz, rfl, rfl, rfl, hTX, hDX⟩
          · clear hDP hb10
            go_wp2_with (first
              | (go_at_call 10; (with_reducible refine (num8_any _ _).mono ?_); rintro e wn ⟨rfl, rfl⟩)
              | (go_at_call 13; (with_reducible refine (HAA.out _ hsr10).mono ?_); rintro e w11 ⟨rfl, hb11⟩; (have hs11 : Since w10 w11 := hb11))
              | (go_at_call 6; (with_reducible refine (hKN.out _).mono ?_); rintro e w12 ⟨rfl, hb12⟩; (have hs12 : Since w10 w12 := hs11.trans hb12)))
            go_ret
            exact ⟨by first | rfl | simp, HS10.out.trans hs12⟩
          · have hlX : (putsQ [] (putsQ [] l ++ putsQ [] m)).length ≤ 900 := by
              have h1 := putsQ_most [] (putsQ [] l ++ putsQ [] m)
              rw [List.length_append] at h1
              simp only [List.length_nil] at h1
              have := HLL.out
              omega
            have HAX := Lib.hid (alike8_any (hTX.since (hs79.trans hs10)) hDX hlX)
            clear hDP hb10 hTX hDX hlX
            go_wp2_with (first
              | (go_at_call 10; (with_reducible refine (num8_any _ _).mono ?_); rintro e wn ⟨rfl, rfl⟩)
              | (go_at_call 13; (with_reducible refine HAX.out.mono ?_); rintro e w11 ⟨rfl, hb11⟩; (have hs11 : Since w10 w11 := hb11))
              | (go_at_call 13; (with_reducible refine (HAA.out _ hs11).mono ?_); rintro e w12 ⟨rfl, hb12⟩; (have hs12 : Since w10 w12 := hs11.trans hb12))
              | (go_at_call 6; (with_reducible refine (hKN.out _).mono ?_); rintro e w13 ⟨rfl, hb13⟩; (have hs13 : Since w10 w13 := hs12.trans hb13)))
            go_ret
            exact ⟨by first | rfl | simp, HS10.out.trans hs13⟩
        · have HJ := Lib.hid (tjoin_none (hTA.since HD6.out))
          clear hTA hokA hallA
          go_wp2_with (first
            | (go_at_call 10; (with_reducible refine (num8_any _ _).mono ?_); rintro e wn ⟨rfl, rfl⟩)
            | (go_at_call 9; (with_reducible refine HJ.out.mono ?_); rintro e w7 ⟨rfl, hb7⟩; (have hs7 : Since w6 w7 := hb7))
            | (go_at_call 6; (with_reducible refine (hKN.out _).mono ?_); rintro e w8 ⟨rfl, hb8⟩; (have hs8 : Since w6 w8 := hs7.trans hb8)))
          go_ret
          exact ⟨by first | rfl | simp, HS6.out.trans hs8⟩
      · have HJ := Lib.hid (umq_join (w := w6) (v := .pointer none) (.inl rfl) qx)
        go_wp2_with (first
          | (go_at_call 10; (with_reducible refine (num8_any _ _).mono ?_); rintro e wn ⟨rfl, rfl⟩)
          | (go_at_call 9; (with_reducible refine HJ.out.mono ?_); rintro e w7 ⟨rfl, hb7⟩; (have hs7 : Since w6 w7 := hb7))
          | (go_at_call 6; (with_reducible refine (hKN.out _).mono ?_); rintro e w8 ⟨rfl, hb8⟩; (have hs8 : Since w6 w8 := hs7.trans hb8)))
        go_ret
        exact ⟨by first | rfl | simp, HS6.out.trans hs8⟩
end Go.Proofs.YthfhpejpjiaikaaGreat
