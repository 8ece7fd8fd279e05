/- quad's leafOf. -/
import Derived.Test.YthfhpejpjiaikaaGreatK19
namespace Go.Proofs.YthfhpejpjiaikaaGreat
open Go.RowKit
set_option linter.unusedVariables false
set_option linter.unusedSimpArgs false
/-- A choice of whole cells that has this one. -/
def PartQ (P : Rq → Bool) (x y : Int) : Prop := (∀ r s : Rq, r.x = s.x → r.y = s.y → P r = P s) ∧ ∀ r : Rq, r.x = x → r.y = y → P r = true
theorem part_more {P : Rq → Bool} {x y : Int} {c : Rc} (h : PartQ P x y) (hc : hasR c x y = true) : PartQ (fun r => inQ c r && P r) x y :=
  ⟨fun r s h1 h2 => by show (inQ c r && P r) = (inQ c s && P s); rw [inQ_cell _ r s h1 h2, h.1 r s h1 h2], fun r h1 h2 => by show (inQ c r && P r) = true; rw [h.2 r h1 h2, Bool.and_true]; unfold inQ; rw [h1, h2]; exact hc⟩
/-- How wide and high the node is, by its cells. -/
def szOf (n : Value) (w : World) : Nat :=
  match n with
  | .pointer (some p) => (intOf ((w.cell? ⟨p.block, 2, none⟩).getD (.int .i64 0)) + intOf ((w.cell? ⟨p.block, 3, none⟩).getD (.int .i64 0))).toNat
  | _ => 0
theorem szOf_whole {w : World} {g n : Nat} {a : Rc} {v : Value} {q : Nat → Value} (h : Whole w g 71 (ncells a n v q)) : szOf (.pointer (some ⟨g, 0, none⟩)) w = (a.w + a.h).toNat := by
  have e2 : w.cell? ⟨g, 2, none⟩ = some (.int .i64 a.w) := (h.cell 2).trans rfl
  have e3 : w.cell? ⟨g, 3, none⟩ = some (.int .i64 a.h) := (h.cell 3).trans rfl
  show (intOf ((w.cell? ⟨g, 2, none⟩).getD (.int .i64 0)) + intOf ((w.cell? ⟨g, 3, none⟩).getD (.int .i64 0))).toNat = _
  rw [e2, e3]
  rfl
theorem szOf_at {u : QN} {a : Rc} {L : List Rq} {w : World} (h : u.At w) (ho : u.Ok a L) (hn : u.isNil = false) : szOf u.v w = (a.w + a.h).toNat := by
  cases u with
  | nil => cases hn
  | leaf g v b M => rw [← ho.1]; exact szOf_whole h.1
  | quad g n b q => rw [← ho.1]; exact szOf_whole h.1
set_option maxRecDepth 100000 in
set_option maxHeartbeats 3200000 in
theorem leafOf_any {q : QN} {a : Rc} {L : List Rq} {W : World} (h : Tree q a L W) (hn : q.isNil = false) {x y : Int} (hc : hasR a x y = true) :
    Calls Tryz.prog 48 #[q.v, .agg #[.int .i64 x, .int .i64 y]] W fun e w' => ∃ g v b M P, e = .returned (.pointer (some ⟨g, 0, none⟩)) ∧ (QN.leaf g v b M).At w' ∧ M = L.filter P ∧ PartQ P x y ∧ Below W.heap.size W w' := by
  obtain ⟨w0, hw0⟩ : ∃ w0, w0 = W.alloc (.cells #[.int .i64 x, .int .i64 y] 50) := ⟨_, rfl⟩
  have hs0 : Since W w0 := by rw [hw0]; exact (Since.refl W).alloc _
  have hp : Whole w0 W.heap.size 50 #[.int .i64 x, .int .i64 y] := by rw [hw0]; exact Whole.new W _ _
  have c0 : ∀ W', Since w0 W' → W'.cell? ⟨W.heap.size, 0, none⟩ = some (.int .i64 x) := box_cell hp 0 _ rfl
  have c1 : ∀ W', Since w0 W' → W'.cell? ⟨W.heap.size, 1, none⟩ = some (.int .i64 y) := box_cell hp 1 _ rfl
  have HW := Lib.hid hw0
  have hst : ∃ (u : QN) (au : Rc) (P : Rq → Bool), q.v = u.v ∧ u.isNil = false ∧ u.At w0 ∧ u.Ok au (L.filter P) ∧ Good au ∧ hasR au x y = true ∧ PartQ P x y ∧ Since w0 w0 :=
    ⟨q, a, fun _ => true, rfl, hn, h.at_.since hs0, by rw [List.filter_eq_self.2 (fun _ _ => rfl)]; exact h.ok, h.good, hc, ⟨fun _ _ _ _ => rfl, fun _ _ _ => rfl⟩, Since.refl _⟩
  have HST := Lib.hid hst
  obtain ⟨o, hov, _⟩ := q.v_ptr
  rw [hov] at HST ⊢
  clear hw0 hp hst h hc hn hov
  go_enter Tryz.func48, Tryz.ntmps48
  go_wp2_with fail
  rw [← HW.out]
  go_loopw [0] (fun n wr => ∃ (u : QN) (au : Rc) (P : Rq → Bool), n = u.v ∧ u.isNil = false ∧ u.At wr ∧ u.Ok au (L.filter P) ∧ Good au ∧ hasR au x y = true ∧ PartQ P x y ∧ Since w0 wr) (fun n wr => szOf n wr)
  case atStart => exact HST.out
  case round =>
    obtain ⟨u, au, P, rfl, un, uat, uok, ug, uc, up, us⟩ := hrel
    cases u with
    | nil => cases un
    | leaf g v b M =>
      have HL := Lib.hid (isLeafN_yes uat)
      have HR := Lib.hid (And.intro uat (And.intro uok.2.1 up))
      clear uat uok up un
      simp only [QN.v]
      go_wp2_with (go_at_call 51; (with_reducible refine HL.out.mono ?_); rintro e wn ⟨rfl, rfl⟩)
      go_ret
      exact ⟨g, v, b, M, P, rfl, HR.out.1, HR.out.2.1, HR.out.2.2, hs0.trans us⟩
    | quad g n b p =>
      obtain ⟨k1, k2, k3, k4, k5, k6⟩ := uok
      obtain ⟨t, ht⟩ : ∃ t, qix au x y = t := ⟨_, rfl⟩
      have ht4 : t < 4 := by rw [← ht]; exact qix_lt _ _ _
      have hpk := fun i (hi : i < 4) => pick_one k6 ug uc i hi
      rw [ht] at hpk
      have hnt := (qtr_has ug uc ht4).2 ht.symm
      have hn0 : (p 0).isNil = false := by rw [(k6 0 (by decide)).nil_iff, qtr0_ne ug]; rfl
      have hnn : (p t).isNil = false := by rw [(k6 t ht4).nil_iff, hnt.1]; rfl
      have HL := Lib.hid (isLeafN_no uat hn0)
      have HQ := Lib.hid (fun W' (hW : Since wr W') => quarterOf_any (uat.qs.since hW) ht4 hpk)
      have hok := k6 t ht4
      rw [List.filter_filter] at hok
      have HM := Lib.hid (fun w2 (hW : Since wr w2) => show szOf (p t).v w2 < szOf (.pointer (some ⟨g, 0, none⟩)) wr by
        rw [szOf_at ((uat.2 t ht4).since hW) hok hnn, szOf_whole uat.1, k1]
        have := qtr_less ug k5 ht4; have := ug.w1; have := ug.h1
        omega)
      have HR := Lib.hid (fun w2 (hW : Since wr w2) => show ∃ (u : QN) (au : Rc) (P : Rq → Bool), (p t).v = u.v ∧ u.isNil = false ∧ u.At w2 ∧ u.Ok au (L.filter P) ∧ Good au ∧ hasR au x y = true ∧ PartQ P x y ∧ Since w0 w2 from
        ⟨p t, qtr au t, fun r => inQ (qtr au t) r && P r, rfl, hnn, (uat.2 t ht4).since hW, hok, qtr_good ug ht4 hnt.1, hnt.2, part_more up hnt.2, us.trans hW⟩)
      obtain ⟨o2, hov2, _⟩ := (p t).v_ptr
      rw [hov2] at HQ HM HR
      have hsr := Since.refl wr
      have d0 := fun W' (hW : Since wr W') => c0 W' (us.trans hW)
      have d1 := fun W' (hW : Since wr W') => c1 W' (us.trans hW)
      clear uat up un k1 k2 k3 k4 k5 k6 hpk hnt hn0 hnn hok hov2 ht c0 c1
      simp only [QN.v]
      go_wp2_with (first | (go_at_call 51; (with_reducible refine HL.out.mono ?_); rintro e wn ⟨rfl, rfl⟩) | (go_at_call 74; (with_reducible refine (HQ.out _ hsr).mono ?_); rintro e w2 ⟨rfl, hb2⟩; (have hs2 : Since wr w2 := hb2)))
      go_roundw
      case rel => exact HR.out _ hs2
      case measure => exact HM.out _ hs2
end Go.Proofs.YthfhpejpjiaikaaGreat
