/- quad's leafOf. quad.Tree, made: its calls that read, and Put, Del. -/
import Derived.Test.YthfhpejpjiaikaaGreatK02
import Derived.Test.YthfhpejpjiaikaaGreatK14
import Derived.Test.YthfhpejpjiaikaaGreatK18
import Derived.Test.YthfhpejpjiaikaaGreatK19
import Derived.Test.YthfhpejpjiaikaaGreatK21
import Derived.Test.YthfhpejpjiaikaaGreatK24
namespace Go.Proofs.YthfhpejpjiaikaaGreat
open Go.RowKit
set_option linter.unusedVariables false
set_option linter.unusedSimpArgs false
/-- A choice of whole cells that has this one. -/
def PartQ (P : Rq → Bool) (x y : Int) : Prop := (∀ r s : Rq, r.x = s.x → r.y = s.y → P r = P s) ∧ ∀ r : Rq, r.x = x → r.y = y → P r = true
theorem part_more {P : Rq → Bool} {x y : Int} {c : Rc} (h : PartQ P x y) (hc : hasR c x y = true) : PartQ (fun r => inQ c r && P r) x y :=
  ⟨fun r s h1 h2 => by show (inQ c r && P r) = (inQ c s && P s); rw [inQ_cell _ r s h1 h2, h.1 r s h1 h2], fun r h1 h2 => by show (inQ c r && P r) = true; rw [h.2 r h1 h2, Bool.and_true]; unfold inQ; rw [h1, h2]; exact hc⟩
/-- How wide and high the node is, by its cells. -/
def szOf (n : Value) (w : World) : Nat :=
  match n with
  | .pointer (some p) => (intOf ((w.cell? ⟨p.block, 2, none⟩).getD (.int .i64 0)) + intOf ((w.cell? ⟨p.block, 3, none⟩).getD (.int .i64 0))).toNat
  | _ => 0
theorem szOf_whole {w : World} {g n : Nat} {a : Rc} {v : Value} {q : Nat → Value} (h : Whole w g 71 (ncells a n v q)) : szOf (.pointer (some ⟨g, 0, none⟩)) w = (a.w + a.h).toNat := by
  have e2 : w.cell? ⟨g, 2, none⟩ = some (.int .i64 a.w) := (h.cell 2).trans rfl
  have e3 : w.cell? ⟨g, 3, none⟩ = some (.int .i64 a.h) := (h.cell 3).trans rfl
  show (intOf ((w.cell? ⟨g, 2, none⟩).getD (.int .i64 0)) + intOf ((w.cell? ⟨g, 3, none⟩).getD (.int .i64 0))).toNat = _
  rw [e2, e3]
  rfl
theorem szOf_at {u : QN} {a : Rc} {L : List Rq} {w : World} (h : u.At w) (ho : u.Ok a L) (hn : u.isNil = false) : szOf u.v w = (a.w + a.h).toNat := by
  cases u with
  | nil => cases hn
  | leaf g v b M => rw [← ho.1]; exact szOf_whole h.1
  | quad g n b q => rw [← ho.1]; exact szOf_whole h.1
set_option maxRecDepth 100000 in
set_option maxHeartbeats 3200000 in
theorem leafOf_any {q : QN} {a : Rc} {L : List Rq} {W : World} (h : Tree q a L W) (hn : q.isNil = false) {x y : Int} (hc : hasR a x y = true) :
    Calls Tryz.prog 48 #[q.v, .agg #[.int .i64 x, .int .i64 y]] W fun e w' => ∃ g v b M P, e = .returned (.pointer (some ⟨g, 0, none⟩)) ∧ (QN.leaf g v b M).At w' ∧ M = L.filter P ∧ PartQ P x y ∧ Below W.heap.size W w' := by
  obtain ⟨w0, hw0⟩ : ∃ w0, w0 = W.alloc (.cells #[.int .i64 x, .int .i64 y] 50) := ⟨_, rfl⟩
  have hs0 : Since W w0 := by rw [hw0]; exact (Since.refl W).alloc _
  have hp : Whole w0 W.heap.size 50 #[.int .i64 x, .int .i64 y] := by rw [hw0]; exact Whole.new W _ _
  have c0 : ∀ W', Since w0 W' → W'.cell? ⟨W.heap.size, 0, none⟩ = some (.int .i64 x) := box_cell hp 0 _ rfl
  have c1 : ∀ W', Since w0 W' → W'.cell? ⟨W.heap.size, 1, none⟩ = some (.int .i64 y) := box_cell hp 1 _ rfl
  have HW := Lib.hid hw0
  have hst : ∃ (u : QN) (au : Rc) (P : Rq → Bool), q.v = u.v ∧ u.isNil = false ∧ u.At w0 ∧ u.Ok au (L.filter P) ∧ Good au ∧ hasR au x y = true ∧ PartQ P x y ∧ Since w0 w0 :=
    ⟨q, a, fun _ => true, rfl, hn, h.at_.since hs0, by rw [List.filter_eq_self.2 (fun _ _ => rfl)]; exact h.ok, h.good, hc, ⟨fun _ _ _ _ => rfl, fun _ _ _ => rfl⟩, Since.refl _⟩
  have HST := Lib.hid hst
  obtain ⟨o, hov, _⟩ := q.v_ptr
  rw [hov] at HST ⊢
  clear hw0 hp hst h hc hn hov
  go_enter Tryz.func48, Tryz.ntmps48
  go_wp2_with fail
  rw [← HW.out]
  go_loopw [0] (fun n wr => ∃ (u : QN) (au : Rc) (P : Rq → Bool), n = u.v ∧ u.isNil = false ∧ u.At wr ∧ u.Ok au (L.filter P) ∧ Good au ∧ hasR au x y = true ∧ PartQ P x y ∧ Since w0 wr) (fun n wr => szOf n wr)
  case atStart => exact HST.out
  case round =>
    obtain ⟨u, au, P, rfl, un, uat, uok, ug, uc, up, us⟩ := hrel
    cases u with
    | nil => cases un
    | leaf g v b M =>
      have HL := Lib.hid (isLeafN_yes uat)
      have HR := Lib.hid (And.intro uat (And.intro uok.2.1 up))
      clear uat uok up un
      simp only [QN.v]
      go_wp2_with (go_at_call 51; (with_reducible refine HL.out.mono ?_); rintro e wn ⟨rfl, rfl⟩)
      go_ret
      exact ⟨g, v, b, M, P, rfl, HR.out.1, HR.out.2.1, HR.out.2.2, hs0.trans us⟩
    | quad g n b p =>
      obtain ⟨k1, k2, k3, k4, k5, k6⟩ := uok
      obtain ⟨t, ht⟩ : ∃ t, qix au x y = t := ⟨_, rfl⟩
      have ht4 : t < 4 := by rw [← ht]; exact qix_lt _ _ _
      have hpk := fun i (hi : i < 4) => pick_one k6 ug uc i hi
      rw [ht] at hpk
      have hnt := (qtr_has ug uc ht4).2 ht.symm
      have hn0 : (p 0).isNil = false := by rw [(k6 0 (by decide)).nil_iff, qtr0_ne ug]; rfl
      have hnn : (p t).isNil = false := by rw [(k6 t ht4).nil_iff, hnt.1]; rfl
      have HL := Lib.hid (isLeafN_no uat hn0)
      have HQ := Lib.hid (fun W' (hW : Since wr W') => quarterOf_any (uat.qs.since hW) ht4 hpk)
      have hok := k6 t ht4
      rw [List.filter_filter] at hok
      have HM := Lib.hid (fun w2 (hW : Since wr w2) => show szOf (p t).v w2 < szOf (.pointer (some ⟨g, 0, none⟩)) wr by
        rw [szOf_at ((uat.2 t ht4).since hW) hok hnn, szOf_whole uat.1, k1]
        have := qtr_less ug k5 ht4; have := ug.w1; have := ug.h1
        omega)
      have HR := Lib.hid (fun w2 (hW : Since wr w2) => show ∃ (u : QN) (au : Rc) (P : Rq → Bool), (p t).v = u.v ∧ u.isNil = false ∧ u.At w2 ∧ u.Ok au (L.filter P) ∧ Good au ∧ hasR au x y = true ∧ PartQ P x y ∧ Since w0 w2 from
        ⟨p t, qtr au t, fun r => inQ (qtr au t) r && P r, rfl, hnn, (uat.2 t ht4).since hW, hok, qtr_good ug ht4 hnt.1, hnt.2, part_more up hnt.2, us.trans hW⟩)
      obtain ⟨o2, hov2, _⟩ := (p t).v_ptr
      rw [hov2] at HQ HM HR
      have hsr := Since.refl wr
      have d0 := fun W' (hW : Since wr W') => c0 W' (us.trans hW)
      have d1 := fun W' (hW : Since wr W') => c1 W' (us.trans hW)
      clear uat up un k1 k2 k3 k4 k5 k6 hpk hnt hn0 hnn hok hov2 ht c0 c1
      simp only [QN.v]
      go_wp2_with (first | (go_at_call 51; (with_reducible refine HL.out.mono ?_); rintro e wn ⟨rfl, rfl⟩) | (go_at_call 74; (with_reducible refine (HQ.out _ hsr).mono ?_); rintro e w2 ⟨rfl, hb2⟩; (have hs2 : Since wr w2 := hb2)))
      go_roundw
      case rel => exact HR.out _ hs2
      case measure => exact HM.out _ hs2
end Go.Proofs.YthfhpejpjiaikaaGreat
namespace Go.Proofs.YthfhpejpjiaikaaGreat
open Go.RowKit
set_option linter.unusedVariables false
set_option linter.unusedSimpArgs false
/-- A tree that New made: of k and the zone (d, b), with just these records. -/
structure TreeO (g : Nat) (q : QN) (k d b : Int) (L : List Rq) (W : World) : Prop where
  wh : Whole W g 73 #[.int .i64 k, .int .i64 d, .int .i64 b, q.v]
  tr : Tree q (zoneR k d b) L W
  out : g ∉ q.bl
  ok : okP k d b = true
theorem Tree.since {q : QN} {a : Rc} {L : List Rq} {W W' : World} (h : Tree q a L W) (hs : Since W W') : Tree q a L W' := ⟨h.at_.since hs, h.sep, h.ok, h.good, h.sort, h.inn, h.len⟩
theorem Tree.keep {q : QN} {a : Rc} {L : List Rq} {W W' : World} (h : Tree q a L W) (hb : ∀ b ∈ q.bl, W'.heap[b]? = W.heap[b]?) : Tree q a L W' := ⟨h.at_.keep hb, h.sep, h.ok, h.good, h.sort, h.inn, h.len⟩
theorem TreeO.keep {g : Nat} {q : QN} {k d b : Int} {L : List Rq} {W W' : World} (h : TreeO g q k d b L W) (hb : ∀ c ∈ g :: q.bl, W'.heap[c]? = W.heap[c]?) : TreeO g q k d b L W' :=
  ⟨(hb g List.mem_cons_self).trans h.wh, h.tr.keep (fun c hc => hb c (List.mem_cons_of_mem _ hc)), h.out, h.ok⟩
theorem TreeO.lt {g : Nat} {q : QN} {k d b : Int} {L : List Rq} {W : World} (h : TreeO g q k d b L W) : ∀ c ∈ g :: q.bl, c < W.heap.size := by
  intro c hc
  rcases List.mem_cons.1 hc with rfl | hc
  · exact h.wh.lt
  · exact h.tr.at_.lt c hc
theorem TreeO.since {g : Nat} {q : QN} {k d b : Int} {L : List Rq} {W W' : World} (h : TreeO g q k d b L W) (hs : Since W W') : TreeO g q k d b L W' := h.keep (fun c hc => hs.block c (h.lt c hc))
theorem TreeO.off {g : Nat} {q : QN} {k d b : Int} {L : List Rq} {W W' : World} {F : Nat → Prop} (h : TreeO g q k d b L W) (ho : Off F W W') (hF : ∀ c ∈ g :: q.bl, ¬ F c) : TreeO g q k d b L W' := h.keep (fun c hc => ho.block c (h.lt c hc) (hF c hc))
theorem Good.ne {a : Rc} (h : Good a) : neR a = true := by
  unfold neR
  have := h.w1; have := h.h1
  exact decide_eq_true (by omega)
theorem Tree.nn {q : QN} {a : Rc} {L : List Rq} {W : World} (h : Tree q a L W) : q.isNil = false := by rw [h.ok.nil_iff, h.good.ne]; rfl
/-- The root's cells. -/
theorem Tree.root {q : QN} {a : Rc} {L : List Rq} {W : World} (h : Tree q a L W) : ∃ gq, q.v = .pointer (some ⟨gq, 0, none⟩) ∧ gq ∈ q.bl ∧ ∀ W', q.At W' → W'.cell? ⟨gq, 0, none⟩ = some (.int .i64 a.x) ∧ W'.cell? ⟨gq, 1, none⟩ = some (.int .i64 a.y) ∧ W'.cell? ⟨gq, 2, none⟩ = some (.int .i64 a.w) ∧ W'.cell? ⟨gq, 3, none⟩ = some (.int .i64 a.h) ∧ W'.cell? ⟨gq, 4, none⟩ = some (.int .i64 (L.length : Nat)) := by
  have hn := h.nn
  have ho := h.ok
  cases q with
  | nil => cases hn
  | leaf g v b M =>
    obtain ⟨rfl, rfl, _⟩ := ho
    refine ⟨g, rfl, List.mem_cons_self, fun W' hW => ?_⟩
    have hw : Whole W' g 71 (ncells b M.length v noQ) := hW.1
    exact ⟨(hw.cell 0).trans rfl, (hw.cell 1).trans rfl, (hw.cell 2).trans rfl, (hw.cell 3).trans rfl, (hw.cell 4).trans rfl⟩
  | quad g n b q =>
    obtain ⟨rfl, rfl, _⟩ := ho
    refine ⟨g, rfl, bl_quad.2 (.inl rfl), fun W' hW => ?_⟩
    have hw : Whole W' g 71 (ncells b L.length (.slice none 0 0) fun i => (q i).v) := hW.1
    exact ⟨(hw.cell 0).trans rfl, (hw.cell 1).trans rfl, (hw.cell 2).trans rfl, (hw.cell 3).trans rfl, (hw.cell 4).trans rfl⟩
theorem zone_good {k d b : Int} (h : okP k d b = true) : Good (zoneR k d b) := by
  obtain ⟨h0, h1, h2, _⟩ := zone_right h
  have hr := (rightR_iff _ _).1 h0
  have hk := (okP_iff k d b).1 h
  have hs : side k ≤ 65536 := (side_bd k).2
  exact ⟨hr.2.1, hr.2.2.2.1, by omega, by omega, by omega, by omega⟩
section
variable {g : Nat} {q : QN} {k d b : Int} {L : List Rq} {w : World}
set_option maxRecDepth 100000 in
theorem tmade_any (h : TreeO g q k d b L w) : Calls Tryz.prog 27 #[.pointer (some ⟨g, 0, none⟩)] w fun e w' => e = .returned (.bool true) ∧ w = w' := by
  obtain ⟨gq, hq, -, -⟩ := h.tr.root
  have c3 := h.wh.cell 3
  rw [hq] at c3
  replace c3 : w.cell? ⟨g, 3, none⟩ = some (.pointer (some ⟨gq, 0, none⟩)) := c3
  clear h hq
  go_enter Tryz.func27, Tryz.ntmps27
  go_wp2
  go_ret
  exact ⟨rfl, rfl⟩
set_option maxRecDepth 100000 in
set_option maxHeartbeats 800000 in
theorem thas_any (h : TreeO g q k d b L w) (x y : Int) : Calls Tryz.prog 46 #[.pointer (some ⟨g, 0, none⟩), .agg #[.int .i64 x, .int .i64 y]] w fun e w' => e = .returned (.bool (hasR (zoneR k d b) x y)) ∧ Below w.heap.size w w' := by
  obtain ⟨gq, hq, -, hrc⟩ := h.tr.root
  obtain ⟨w0, hw0⟩ : ∃ w0, w0 = w.alloc (.cells #[.int .i64 x, .int .i64 y] 50) := ⟨_, rfl⟩
  have hs0 : Since w w0 := by rw [hw0]; exact (Since.refl w).alloc _
  have wh0 : Whole w0 (w.heap.size) 50 #[.int .i64 x, .int .i64 y] := by rw [hw0]; exact Whole.new w _ _
  have HW := Lib.hid hw0
  have c0_0 := box_cell wh0 0 (.int .i64 x) rfl
  have c0_1 := box_cell wh0 1 (.int .i64 y) rfl
  have hsr := Since.refl w0
  have hsd := hsr.drew
  clear hw0 wh0
  have HM := Lib.hid (fun W (hW : Since w0 W) => tmade_any (h.since (hs0.trans hW)))
  have hrc2 := fun W' (hW : Since w0 W') => hrc W' (h.tr.at_.since (hs0.trans hW))
  have c3 := box_cell (Since.whole hs0 h.wh) 3 q.v rfl
  rw [hq] at c3
  generalize zoneR k d b = a at hrc2
  obtain ⟨ax, ay, aw, ah⟩ := a
  have a0 := fun W' hW => (hrc2 W' hW).1
  have a1 := fun W' hW => (hrc2 W' hW).2.1
  have a2 := fun W' hW => (hrc2 W' hW).2.2.1
  have a3 := fun W' hW => (hrc2 W' hW).2.2.2.1
  dsimp only at a0 a1 a2 a3
  clear hrc hrc2 h hq
  go_enter Tryz.func46, Tryz.ntmps46
  go_wp2_with fail
  rw [← HW.out]
  go_region_held3 (fun W => Since w0 W) (first | assumption | exact Since.drew (by assumption)) ((first | (go_at_call 27; (with_reducible refine (HM.out _ (by assumption)).mono ?_); rintro e w4 ⟨rfl, rfl⟩) | (go_at_call 73; (with_reducible refine (Calls.since (by assumption) (wHas_any ax ay aw ah x y _)).mono ?_); rintro e w5 ⟨rfl, hb5⟩)))
  go_wp2_with fail
  go_ret
  exact ⟨rfl, hs0.trans hb5⟩
set_option maxRecDepth 100000 in
theorem tlen_any (h : TreeO g q k d b L w) : Calls Tryz.prog 19 #[.pointer (some ⟨g, 0, none⟩)] w fun e w' => e = .returned (.int .i64 (L.length : Nat)) ∧ w = w' := by
  have hm := tmade_any h
  obtain ⟨gq, hq, -, hrc⟩ := h.tr.root
  have c3 := h.wh.cell 3
  rw [hq] at c3
  replace c3 : w.cell? ⟨g, 3, none⟩ = some (.pointer (some ⟨gq, 0, none⟩)) := c3
  have c4 := (hrc w h.tr.at_).2.2.2.2
  clear h hq hrc
  go_enter Tryz.func19, Tryz.ntmps19
  go_wp2_with (go_at_call 27; (with_reducible refine hm.mono ?_); rintro e w4 ⟨rfl, rfl⟩)
  go_ret
  exact ⟨rfl, rfl⟩
set_option maxRecDepth 100000 in
theorem tzone_any (h : TreeO g q k d b L w) : Calls Tryz.prog 38 #[.pointer (some ⟨g, 0, none⟩)] w fun e w' => e = .returned (.agg #[.int .i64 d, .int .i64 b]) ∧ Below w.heap.size w w' := by
  have HM := Lib.hid (fun W (hW : Since w W) => tmade_any (h.since hW))
  have c1 := box_cell h.wh 1 (.int .i64 d) rfl
  have c2 := box_cell h.wh 2 (.int .i64 b) rfl
  have hs0 : Since w (w.alloc (.cells #[.int .i64 0, .int .i64 0] 23)) := (Since.refl w).alloc _
  have hz : Whole (w.alloc (.cells #[.int .i64 0, .int .i64 0] 23)) w.heap.size 23 #[.int .i64 0, .int .i64 0] := Whole.new w _ _
  have x0 := hz.frozen 0
  have x1 := hz.frozen 1
  have x2 := hz.cell 0
  have x3 := hz.cell 1
  clear h
  go_enter Tryz.func38, Tryz.ntmps38
  go_wp2_with (go_at_call 27; (with_reducible refine (HM.out _ hs0).mono ?_); rintro e w4 ⟨rfl, rfl⟩)
  have y := Whole.new w 23 #[.int .i64 d, .int .i64 b]
  have y0 := y.cell 0
  have y1 := y.cell 1
  exact bodyPost_ret (v := .agg #[.int .i64 d, .int .i64 b]) (by simp [results, Tryz.results38, go_sem, y0, y1]) rfl ⟨rfl, (Since.refl w).alloc _⟩
/-- May it be, and is its cell in the rectangle? -/
def okR (z : Rc) (r : Rq) : Bool := inQ z r && recB r.x r.y r.key r.val r.ver
def putT (z : Rc) (L : List Rq) (r : Rq) : List Rq := if okR z r = true then putQ L r else L
/-- The tree behind a call that may change it. -/
def TreeP (g : Nat) (q : QN) (k d b : Int) (L' : List Rq) (W W' : World) : Prop := ∃ q', q'.v = q.v ∧ TreeO g q' k d b L' W' ∧ Off (fun c => c ∈ q.bl) W W' ∧ ∀ c ∈ q'.bl, c ∈ q.bl ∨ W.heap.size ≤ c
theorem TreeP.same {L' : List Rq} {W W' : World} (h : TreeO g q k d b L' W) (hs : Since W W') : TreeP g q k d b L' W W' := ⟨q, rfl, h.since hs, hs.off _, fun _ z => .inl z⟩
theorem TreeP.of {L' : List Rq} {W0 W W' : World} (h : TreeO g q k d b L W0) (hs : Since W0 W) {p : QN} (p1 : p.v = q.v) (p2 : p.At W') (p3 : p.Sep) (p4 : p.Ok (zoneR k d b) L') (p5 : Off (fun c => c ∈ q.bl) W W') (p6 : ∀ c ∈ p.bl, c ∈ q.bl ∨ W.heap.size ≤ c) (hs' : SortQ L') (hi : ∀ s ∈ L', inQ (zoneR k d b) s = true) (hl : L'.length ≤ 1000) : TreeP g q k d b L' W0 W' := by
  have hg := h.wh.lt
  have hz := hs.size_
  refine ⟨p, p1, ⟨?_, ⟨p2, p3, p4, h.tr.good, hs', hi, hl⟩, fun z => ?_, h.ok⟩, (hs.off _).trans p5 (fun _ _ z => z), fun c hc => (p6 c hc).imp id (fun z => Nat.le_trans hz z)⟩
  · rw [p1]; exact p5.whole (Since.whole hs h.wh) h.out
  · rcases p6 g z with y | y
    · exact h.out y
    · omega
theorem putQ_in {a : Rc} {L : List Rq} (hs : SortQ L) (hL : ∀ s ∈ L, inQ a s = true) {r : Rq} (hr : inQ a r = true) : ∀ s ∈ putQ L r, inQ a s = true := fun s hm => by
  rcases (putQ_mem hs r s).1 hm with rfl | z
  · exact hr
  · exact hL s z.1
theorem putQ_most (L : List Rq) (r : Rq) : (putQ L r).length ≤ L.length + 1 := by rw [putQ_len]; split <;> omega
set_option maxRecDepth 100000 in
set_option maxHeartbeats 1600000 in
theorem tput_any (h : TreeO g q k d b L w) (hl : L.length ≤ 999) (r : Rq) : Calls Tryz.prog 20 #[.pointer (some ⟨g, 0, none⟩), .agg #[.int .i64 r.x, .int .i64 r.y, .string r.key, .string r.val, .int .i64 r.ver]] w fun e w' => e = .returned (.tuple #[.bool (okR (zoneR k d b) r && hasQ L r.x r.y r.key), .int .i64 (if okR (zoneR k d b) r = true then 0 else 1)]) ∧ TreeP g q k d b (putT (zoneR k d b) L r) w w' := by
  generalize hR1 : (okR (zoneR k d b) r && hasQ L r.x r.y r.key) = R1
  generalize hR2 : (if okR (zoneR k d b) r = true then (0 : Int) else 1) = R2
  obtain ⟨w0, hw0⟩ : ∃ w0, w0 = w.alloc (.cells #[.int .i64 r.x, .int .i64 r.y, .string r.key, .string r.val, .int .i64 r.ver] 55) := ⟨_, rfl⟩
  have hs0 : Since w w0 := by rw [hw0]; exact (Since.refl w).alloc _
  have wh0 : Whole w0 (w.heap.size) 55 #[.int .i64 r.x, .int .i64 r.y, .string r.key, .string r.val, .int .i64 r.ver] := by rw [hw0]; exact Whole.new w _ _
  have HW := Lib.hid hw0
  have c0_0 := box_cell wh0 0 (.int .i64 r.x) rfl
  have c0_1 := box_cell wh0 1 (.int .i64 r.y) rfl
  have c0_2 := box_cell wh0 2 (.string r.key) rfl
  have c0_3 := box_cell wh0 3 (.string r.val) rfl
  have c0_4 := box_cell wh0 4 (.int .i64 r.ver) rfl
  have hsr := Since.refl w0
  have hsd := hsr.drew
  clear hw0
  have HH := Lib.hid (fun W (hW : Since w0 W) => thas_any (h.since (hs0.trans hW)) r.x r.y)
  cases h1 : hasR (zoneR k d b) r.x r.y with
  | false =>
    have hn : okR (zoneR k d b) r = false := by unfold okR inQ; rw [h1]; rfl
    rw [h1] at HH
    have HN := Lib.hid (And.intro h (And.intro hn (And.intro hR1 hR2)))
    clear h h1 hn hR1 hR2
    go_enter Tryz.func20, Tryz.ntmps20
    go_wp2_with fail
    rw [← HW.out]
    go_wp2_with (go_at_call 46; (with_reducible refine (HH.out _ hsr).mono ?_); rintro e w1 ⟨rfl, hb1⟩; (have hs1 : Since w0 w1 := hb1))
    go_ret2
    obtain ⟨h, hn, hR1, hR2⟩ := HN.out
    refine ⟨by rw [← hR1, ← hR2, hn]; rfl, ?_⟩
    unfold putT
    rw [hn]
    exact TreeP.same h (hs0.trans hs1)
  | true =>
    have HR := Lib.hid (fun W => rightRec_any r.x r.y r.key r.val r.ver W)
    rw [h1] at HH
    cases h2 : recB r.x r.y r.key r.val r.ver with
    | false =>
      have hn : okR (zoneR k d b) r = false := by unfold okR inQ; rw [h1, h2]; rfl
      rw [h2] at HR
      have HN := Lib.hid (And.intro h (And.intro hn (And.intro hR1 hR2)))
      clear h h1 h2 hn hR1 hR2
      go_enter Tryz.func20, Tryz.ntmps20
      go_wp2_with fail
      rw [← HW.out]
      go_wp2_with (first | (go_at_call 46; (with_reducible refine (HH.out _ hsr).mono ?_); rintro e w1 ⟨rfl, hb1⟩; (have hs1 : Since w0 w1 := hb1)) | (go_at_call 47; (with_reducible refine (HR.out _).mono ?_); rintro e w2 ⟨rfl, hb2⟩; (have hs2 : Since w0 w2 := hs1.trans hb2)))
      go_ret2
      obtain ⟨h, hn, hR1, hR2⟩ := HN.out
      refine ⟨by rw [← hR1, ← hR2, hn]; rfl, ?_⟩
      unfold putT
      rw [hn]
      exact TreeP.same h (hs0.trans hs2)
    | true =>
      have hy : okR (zoneR k d b) r = true := by unfold okR inQ; rw [h1, h2]; rfl
      rw [h2] at HR
      obtain ⟨gq, hq, -, -⟩ := h.tr.root
      have hbF : ¬ w.heap.size ∈ q.bl := fun z => by have := h.lt _ (List.mem_cons_of_mem _ z); omega
      have c3 := off_cell (F := fun c => c ∈ q.bl) (Since.whole hs0 h.wh) h.out 3 q.v rfl
      rw [hq] at c3
      have b0 := off_cell (F := fun c => c ∈ q.bl) wh0 hbF 0 (.int .i64 r.x) rfl
      have b1 := off_cell (F := fun c => c ∈ q.bl) wh0 hbF 1 (.int .i64 r.y) rfl
      have b2 := off_cell (F := fun c => c ∈ q.bl) wh0 hbF 2 (.string r.key) rfl
      have b3 := off_cell (F := fun c => c ∈ q.bl) wh0 hbF 3 (.string r.val) rfl
      have b4 := off_cell (F := fun c => c ∈ q.bl) wh0 hbF 4 (.int .i64 r.ver) rfl
      have HP := Lib.hid (fun W (hW : Since w0 W) => put_any (h.tr.since (hs0.trans hW)) h.tr.nn (r := r) h1 hl)
      unfold PutP at HP
      rw [hq] at HP
      have HN := Lib.hid (And.intro h (And.intro hy (And.intro h1 (And.intro hq (And.intro hR1 hR2)))))
      obtain ⟨H, hH⟩ : ∃ H, hasQ L r.x r.y r.key = H := ⟨_, rfl⟩
      rw [hH] at HP
      have HHH := Lib.hid hH
      clear h h1 h2 hy hq hH hR1 hR2
      go_enter Tryz.func20, Tryz.ntmps20
      go_wp2_with fail
      rw [← HW.out]
      go_upto_region 3 with (first | (go_at_call 46; (with_reducible refine (HH.out _ hsr).mono ?_); rintro e w1 ⟨rfl, hb1⟩; (have hs1 : Since w0 w1 := hb1)) | (go_at_call 47; (with_reducible refine (HR.out _).mono ?_); rintro e w2 ⟨rfl, hb2⟩; (have hs2 : Since w0 w2 := hs1.trans hb2)))
      obtain ⟨wq, hwq⟩ : ∃ wq, wq = w2.drew := ⟨_, rfl⟩
      have hq : Since w0 wq := by rw [hwq]; exact hs2.drew
      refine wp_region_held_drew (S := fun W' => Off (fun c => c ∈ q.bl) w0 W') (by kernel_rfl) (hs2.drew.off _) (fun hHeld => ?_)
      rw [← hwq] at hHeld ⊢
      clear hwq
      refine wpAnyH_take (i := 0) (v := ?_) rfl (by kernel_rfl) (by kernel_rfl) (by kernel_rfl) (fun _ _ _ h => h) (Or.inl ⟨by rfl, ?_⟩) (by assumption) ?_
      rotate_left 1
      · (intro W hW; clear hW; go_simp; try with_reducible rfl)
      simp only [Act.put, List.getElem_toArray, List.getElem_cons_zero, List.setIfInBounds_toArray, List.set_cons_zero, List.set_cons_succ]
      refine wpAnyH_take (i := 1) (v := ?_) rfl (by kernel_rfl) (by kernel_rfl) (by kernel_rfl) (fun _ _ _ h => h) (Or.inl ⟨by rfl, ?_⟩) (by assumption) ?_
      rotate_left 1
      · (intro W hW; clear hW; go_simp; try with_reducible rfl)
      simp only [Act.put, List.getElem_toArray, List.getElem_cons_succ, List.getElem_cons_zero, List.setIfInBounds_toArray, List.set_cons_zero, List.set_cons_succ]
      refine wpAnyH_take (i := 2) (v := ?_) rfl (by kernel_rfl) (by kernel_rfl) (by kernel_rfl) (fun _ _ _ h => h) (Or.inl ⟨by rfl, ?_⟩) (by assumption) ?_
      rotate_left 1
      · (intro W hW; clear hW; go_simp; try with_reducible rfl)
      simp only [Act.put, List.getElem_toArray, List.getElem_cons_succ, List.getElem_cons_zero, List.setIfInBounds_toArray, List.set_cons_zero, List.set_cons_succ]
      refine wpAnyH_take (i := 3) (v := ?_) rfl (by kernel_rfl) (by kernel_rfl) (by kernel_rfl) (fun _ _ _ h => h) (Or.inl ⟨by rfl, ?_⟩) (by assumption) ?_
      rotate_left 1
      · (intro W hW; skip; go_simp; try with_reducible rfl)
      simp only [Act.put, List.getElem_toArray, List.getElem_cons_succ, List.getElem_cons_zero, List.setIfInBounds_toArray, List.set_cons_zero, List.set_cons_succ]
      refine wpAnyH_take (i := 4) (v := ?_) rfl (by kernel_rfl) (by kernel_rfl) (by kernel_rfl) (fun _ _ _ h => h) (Or.inl ⟨by rfl, ?_⟩) (by assumption) ?_
      rotate_left 1
      · (intro W hW; skip; go_simp; try with_reducible rfl)
      simp only [Act.put, List.getElem_toArray, List.getElem_cons_succ, List.getElem_cons_zero, List.setIfInBounds_toArray, List.set_cons_zero, List.set_cons_succ]
      refine wpAnyH_ready (rs := [5]) (by kernel_rfl) (by simp) ?_
      refine AllReadyH.cons rfl (fun K hK => ?_) AllReadyH.nil
      go_simp
      refine (HP.out _ hq).mono ?_
      rintro e w3 ⟨rfl, p, p1, p2, p3, p4, p5, p6⟩
      go_wp2_with fail
      refine hK.out _ _ ((hq.off _).trans p5 (fun _ _ z => z)) (fun hHeld => ?_)
      clear hK K
      try simp only [Act.put, List.getElem_toArray, List.getElem_cons_succ, List.getElem_cons_zero, List.setIfInBounds_toArray, List.set_cons_zero, List.set_cons_succ]
      refine wpAnyH_take (i := 6) (v := ?_) rfl (by kernel_rfl) (by kernel_rfl) (by kernel_rfl) (fun _ _ _ h => h) (Or.inl ⟨by rfl, ?_⟩) (by assumption) ?_
      rotate_left 1
      · (intro W hW; clear hW; go_simp; try with_reducible rfl)
      simp only [Act.put, List.getElem_toArray, List.getElem_cons_succ, List.getElem_cons_zero, List.setIfInBounds_toArray, List.set_cons_zero, List.set_cons_succ]
      refine wpAnyH_take (i := 7) (v := ?_) rfl (by kernel_rfl) (by kernel_rfl) (by kernel_rfl) (fun _ _ _ h => h) (Or.inl ⟨by rfl, ?_⟩) (by assumption) ?_
      rotate_left 1
      · (intro W hW; clear hW; go_simp; try with_reducible rfl)
      simp only [Act.put, List.getElem_toArray, List.getElem_cons_succ, List.getElem_cons_zero, List.setIfInBounds_toArray, List.set_cons_zero, List.set_cons_succ]
      refine wpAnyH_done (by kernel_rfl) ?_ _
      go_wp2_with fail
      go_ret2
      obtain ⟨h, hy, h1, hq2, hR1, hR2⟩ := HN.out
      refine ⟨by rw [← hR1, ← hR2, hy, HHH.out]; rfl, ?_⟩
      unfold putT
      rw [if_pos hy]
      exact TreeP.of h (hs0.trans hq) (p1.trans hq2.symm) p2 p3 p4 p5 p6 (putQ_sort h.tr.sort r) (putQ_in h.tr.sort h.tr.inn h1) (Nat.le_trans (putQ_most L r) (by omega))
end
end Go.Proofs.YthfhpejpjiaikaaGreat
