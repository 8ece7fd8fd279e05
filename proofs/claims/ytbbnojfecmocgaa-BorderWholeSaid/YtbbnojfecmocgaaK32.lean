/- The program's Nearest of a list. -/
import Derived.Test.YtbbnojfecmocgaaK31
namespace Go.Proofs.Ytbbnojfecmocgaa
open Go.RowKit
set_option linter.unusedVariables false
set_option linter.unusedSimpArgs false
/-- How it is told. -/
def nrV : Option (Tl × Int) → Value
  | none => .tuple #[.agg #[.int .i64 0, .int .i64 0, .int .i64 0], .int .i64 0, .bool false]
  | some (s, e) => .tuple #[.agg #[.int .i64 s.d, .int .i64 s.b, .int .i64 s.who], .int .i64 e, .bool true]
def nrC : Option (Tl × Int) → Array Value
  | none => #[.int .i64 0, .int .i64 0, .int .i64 0]
  | some (s, _) => #[.int .i64 s.d, .int .i64 s.b, .int .i64 s.who]
def nrD : Option (Tl × Int) → Int
  | none => 0
  | some (_, e) => e
def nrZ : Option (Tl × Int) → Bool
  | none => false
  | some _ => true
theorem nrV_eq (o : Option (Tl × Int)) : nrV o = .tuple #[.agg (nrC o), .int .i64 (nrD o), .bool (nrZ o)] := by
  cases o with
  | none => rfl
  | some p => rfl
theorem nrC_ex (o : Option (Tl × Int)) : ∃ p q r : Int, nrC o = #[.int .i64 p, .int .i64 q, .int .i64 r] := by
  cases o with
  | none => exact ⟨_, _, _, rfl⟩
  | some p => exact ⟨_, _, _, rfl⟩
theorem nr_step_cases (k x y : Int) (o : Option (Tl × Int)) (s : Tl) (D : Int) (hD : aptZ k s.d s.b x y = D) :
    (0 ≤ D ∧ (nrZ o = true → D < nrD o) ∧ nrStep k x y o s = some (s, D)) ∨ ((D < 0 ∨ (nrZ o = true ∧ nrD o ≤ D)) ∧ nrStep k x y o s = o) := by
  unfold nrStep nrOk
  rw [hD]
  cases o with
  | none =>
    by_cases h : 0 ≤ D
    · exact .inl ⟨h, fun z => (by cases z), by simp [h]⟩
    · exact .inr ⟨.inl (by omega), by simp [h]⟩
  | some p =>
    by_cases h : 0 ≤ D
    · by_cases g : D < p.2
      · exact .inl ⟨h, fun _ => g, by simp [h, g]⟩
      · exact .inr ⟨.inr ⟨rfl, by simp only [nrD]; omega⟩, by simp [h, g]⟩
    · exact .inr ⟨.inl (by omega), by simp [h]⟩
set_option maxRecDepth 100000 in
set_option maxHeartbeats 3200000 in
theorem nearest_any {B : Nat} {v : Value} {L : List Tl} {k x y : Int} (w : World) (h : ListE encT 3 B w v L) (hB : B ≤ w.heap.size) (hl : L.length ≤ 64) : Calls Try.prog 12 #[.agg #[.int .i64 k], v, .agg #[.int .i64 x, .int .i64 y]] w fun e w' => e = .returned (nrV (nrT k x y L)) ∧ Below w.heap.size w w' := by
  obtain ⟨va, cap, rfl, hform⟩ := h.form
  obtain ⟨w0, hw0⟩ : ∃ w0, w0 = ((w.alloc (.cells #[.int .i64 k] 26)).alloc (.cells #[.int .i64 x, .int .i64 y] 24)).alloc (.cells #[.int .i64 0, .int .i64 0, .int .i64 0] 37) := ⟨_, rfl⟩
  have hs0 : Since w w0 := by rw [hw0]; exact (((Since.refl w).alloc _).alloc _).alloc _
  have wh0 : Whole w0 (w.heap.size) 26 #[.int .i64 k] := by rw [hw0]; exact ((Whole.new w _ _).alloc _).alloc _
  have wh1 : Whole w0 (w.heap.size + 1) 24 #[.int .i64 x, .int .i64 y] := by rw [hw0]; exact ((Whole.new (w.alloc _) _ _).alloc _).at_ (by simp)
  have wh2 : Whole w0 (w.heap.size + 1 + 1) 37 #[.int .i64 0, .int .i64 0, .int .i64 0] := by rw [hw0]; exact (Whole.new ((w.alloc _).alloc _) _ _).at_ (by simp)
  have HW := Lib.hid hw0
  have c0_0 := box_cell wh0 0 (.int .i64 k) rfl
  have c1_0 := box_cell wh1 0 (.int .i64 x) rfl
  have c1_1 := box_cell wh1 1 (.int .i64 y) rfl
  have c2_0 := box_cell wh2 0 (.int .i64 0) rfl
  have f2_0 := box_free wh2 0
  have c2_1 := box_cell wh2 1 (.int .i64 0) rfl
  have f2_1 := box_free wh2 1
  have c2_2 := box_cell wh2 2 (.int .i64 0) rfl
  have f2_2 := box_free wh2 2
  have hsr := Since.refl w0
  have hsd := hsr.drew
  clear hw0
  have hB0 : B ≤ w0.heap.size := Nat.le_trans hB hs0.size_
  have h0 := h.since hs0 hB
  go_enter Try.func12, Try.ntmps12
  go_wp2_with fail
  rw [← HW.out]
  obtain ⟨w1, hw1⟩ : ∃ w1, w1 = w0.alloc (.cells #[.int .i64 0, .int .i64 0, .int .i64 0] 37) := ⟨_, rfl⟩
  have hs1 : Since w0 w1 := by rw [hw1]; exact (Since.refl w0).alloc _
  have hwn : Whole w1 w0.heap.size 37 #[.int .i64 0, .int .i64 0, .int .i64 0] := by rw [hw1]; exact Whole.new w0 _ _
  have HW1 := Lib.hid hw1
  have hw0s : w0.heap.size = w.heap.size + 1 + 1 + 1 := by rw [HW.out]; simp
  obtain ⟨GN, hGN⟩ : ∃ g, g = w.heap.size + 1 + 1 + 1 := ⟨_, rfl⟩
  have hg1 : w1.heap.size = GN + 1 := by rw [hw1, hGN, World.size_alloc, hw0s]
  clear hw1
  go_wp2_with (go_at_call 38; (with_reducible refine (tooLong_no hl _).mono ?_); rintro e wn ⟨rfl, rfl⟩)
  rw [← HW1.out, ← hGN]
  replace hwn := hwn.at_ (hw0s.trans hGN.symm)
  have j0 := off_cell (F := fun b => b = GN) (Since.whole hs1 wh0) (by omega) 0 _ rfl
  have j1 := off_cell (F := fun b => b = GN) (Since.whole hs1 wh1) (by omega) 0 _ rfl
  have j2 := off_cell (F := fun b => b = GN) (Since.whole hs1 wh1) (by omega) 1 _ rfl
  have jw : ∀ W, Off (fun b => b = GN) w1 W → Whole W (w.heap.size + 1 + 1) 37 #[.int .i64 0, .int .i64 0, .int .i64 0] := fun W hW => hW.whole (Since.whole hs1 wh2) (by omega)
  have HJ := Lib.hid jw
  have HJ0 := Lib.hid j0
  have HJ1 := Lib.hid j1
  have HJ2 := Lib.hid j2
  have hgn3 : w.heap.size + 3 ≤ GN := by omega
  clear c0_0 c1_0 c1_1 c2_0 c2_1 c2_2 f2_0 f2_1 f2_2 wh0 wh1 wh2 jw j0 j1 j2 hGN hw0s hg1
  go_loopw [10, 11, 21] (fun le so i wr => ∃ m : Nat, i = .int .i64 m ∧ m ≤ L.length ∧ le = .int .i64 (nrD (nrT k x y (L.take m))) ∧ so = .bool (nrZ (nrT k x y (L.take m))) ∧ Whole wr GN 37 (nrC (nrT k x y (L.take m))) ∧ Off (fun b => b = GN) w1 wr) (fun _ _ i _ => L.length - (intOf i).toNat)
  case atStart => exact ⟨0, rfl, Nat.zero_le _, rfl, rfl, hwn, Off.refl _ _⟩
  case round =>
    obtain ⟨m, rfl, hm, rfl, rfl, hwh, ho⟩ := hrel
    have hm100 : (m : Int) ≤ 100 := by omega
    by_cases hlt : m < L.length
    · obtain ⟨g, rfl, hg⟩ := hform m hlt
      have hls := (h0.since hs1 hB0).off (Nat.le_trans hB0 hs1.size_) ho (fun a ha => by have : g = a := Option.some.inj ha; omega)
      have htk := nr_take k x y hlt
      obtain ⟨⟨td, tb, tw⟩, hr⟩ : ∃ ρ, L[m] = ρ := ⟨_, rfl⟩
      have t1 := hls.at_ hlt 0 (u := .int .i64 td) (by rw [hr]; rfl)
      have t2 := hls.at_ hlt 1 (u := .int .i64 tb) (by rw [hr]; rfl)
      have t3 := hls.at_ hlt 2 (u := .int .i64 tw) (by rw [hr]; rfl)
      rw [Nat.add_zero] at t1
      rw [hr] at htk
      obtain ⟨o, hoq⟩ : ∃ o, nrT k x y (L.take m) = o := ⟨_, rfl⟩
      rw [hoq] at htk hwh ⊢
      obtain ⟨D, hD⟩ : ∃ D, aptZ k td tb x y = D := ⟨_, rfl⟩
      have HE := Lib.hid hD
      have hca := nr_step_cases k x y o ⟨td, tb, tw⟩ D hD
      obtain ⟨LE, hLE⟩ : ∃ e, nrD o = e := ⟨_, rfl⟩
      obtain ⟨SO, hSO⟩ : ∃ e, nrZ o = e := ⟨_, rfl⟩
      obtain ⟨p0, p1, p2, hC⟩ := nrC_ex o
      rw [hC] at hwh
      rw [hLE, hSO] at hca ⊢
      have HC := Lib.hid (And.intro hC (And.intro hLE hSO))
      have HT := Lib.hid htk
      have hwa : Since wr (wr.alloc (.cells #[.int .i64 td, .int .i64 tb, .int .i64 tw] 37)) := (Since.refl wr).alloc _
      have hoa := ho.since hwa
      have k0 := HJ0.out _ hoa
      have k1 := HJ1.out _ hoa
      have k2 := HJ2.out _ hoa
      have hgl := hwh.lt
      have d1 : decide ((m : Int) < L.length) = true := decide_eq_true (by omega)
      clear htk hr hform hls h h0 hoq hD hLE hSO hC
      rcases hca with ⟨a1, a2, a3⟩ | ⟨a1, a3⟩
      · have HA := Lib.hid a3
        have e1 : decide (D ≥ 0) = true := decide_eq_true a1
        have e2 : decide (0 ≤ D) = true := decide_eq_true a1
        have fin : ∀ (w5 : World), Off (fun b => b = GN) w1 w5 → Whole w5 GN 37 #[.int .i64 p0, .int .i64 p1, .int .i64 p2] →
            Whole (((w5.setCell ⟨GN, 0, none⟩ (.int .i64 td)).setCell ⟨GN, 1, none⟩ (.int .i64 tb)).setCell ⟨GN, 2, none⟩ (.int .i64 tw)) GN 37 #[.int .i64 td, .int .i64 tb, .int .i64 tw] ∧
            Off (fun b => b = GN) w1 (((w5.setCell ⟨GN, 0, none⟩ (.int .i64 td)).setCell ⟨GN, 1, none⟩ (.int .i64 tb)).setCell ⟨GN, 2, none⟩ (.int .i64 tw)) := fun w5 h5 hw5 =>
          ⟨((hw5.set_ 0 _).set_ 1 _).set_ 2 _, ((h5.setCell (p := ⟨GN, 0, none⟩) (.inr rfl) _).setCell (p := ⟨GN, 1, none⟩) (.inr rfl) _).setCell (p := ⟨GN, 2, none⟩) (.inr rfl) _⟩
        have FIN := Lib.hid fin
        clear a3 fin
        cases SO
        · go_wp2_with (go_at_call 9; (with_reducible refine (bApart_at HE.out _).mono ?_); rintro e w5 ⟨rfl, hb5⟩; have hS5 : Since wr w5 := Since.trans hwa hb5; have wN := (Whole.new wr 37 #[.int .i64 td, .int .i64 tb, .int .i64 tw]).below hb5 (by simp); have n1 := wN.cell 0; have n2 := wN.cell 1; have n3 := wN.cell 2; have wL := Since.whole hS5 hwh; have l1 := wL.cell 0; have l2 := wL.cell 1; have l3 := wL.cell 2; have l4 := wL.frozen 0; have l5 := wL.frozen 1; have l6 := wL.frozen 2; have ho5 := ho.since hS5; clear t1 t2 t3 k0 k1 k2 hwa hoa)
          go_roundw
          case rel => exact ⟨m + 1, by go_num, by omega, by rw [HT.out, HA.out]; rfl, by rw [HT.out, HA.out]; rfl, by rw [HT.out, HA.out]; exact (FIN.out _ ho5 wL).1, (FIN.out _ ho5 wL).2⟩
          case measure => simp [intOf]; omega
        · have a2' := a2 rfl
          have e3 : decide (D < LE) = true := decide_eq_true a2'
          clear a2
          go_wp2_with (go_at_call 9; (with_reducible refine (bApart_at HE.out _).mono ?_); rintro e w5 ⟨rfl, hb5⟩; have hS5 : Since wr w5 := Since.trans hwa hb5; have wN := (Whole.new wr 37 #[.int .i64 td, .int .i64 tb, .int .i64 tw]).below hb5 (by simp); have n1 := wN.cell 0; have n2 := wN.cell 1; have n3 := wN.cell 2; have wL := Since.whole hS5 hwh; have l1 := wL.cell 0; have l2 := wL.cell 1; have l3 := wL.cell 2; have l4 := wL.frozen 0; have l5 := wL.frozen 1; have l6 := wL.frozen 2; have ho5 := ho.since hS5; clear t1 t2 t3 k0 k1 k2 hwa hoa)
          go_roundw
          case rel => exact ⟨m + 1, by go_num, by omega, by rw [HT.out, HA.out]; rfl, by rw [HT.out, HA.out]; rfl, by rw [HT.out, HA.out]; exact (FIN.out _ ho5 wL).1, (FIN.out _ ho5 wL).2⟩
          case measure => simp [intOf]; omega
      · have HA := Lib.hid a3
        clear a3
        by_cases a4 : D < 0
        · have e1 : decide (D ≥ 0) = false := decide_eq_false (by omega)
          have e2 : decide (0 ≤ D) = false := decide_eq_false (by omega)
          clear a1
          go_wp2_with (go_at_call 9; (with_reducible refine (bApart_at HE.out _).mono ?_); rintro e w5 ⟨rfl, hb5⟩; have hS5 : Since wr w5 := Since.trans hwa hb5; have wN := (Whole.new wr 37 #[.int .i64 td, .int .i64 tb, .int .i64 tw]).below hb5 (by simp); have n1 := wN.cell 0; have n2 := wN.cell 1; have n3 := wN.cell 2; have wL := Since.whole hS5 hwh; have l1 := wL.cell 0; have l2 := wL.cell 1; have l3 := wL.cell 2; have l4 := wL.frozen 0; have l5 := wL.frozen 1; have l6 := wL.frozen 2; have ho5 := ho.since hS5; clear t1 t2 t3 k0 k1 k2 hwa hoa)
          go_roundw
          case rel => exact ⟨m + 1, by go_num, by omega, by rw [HT.out, HA.out, HC.out.2.1], by rw [HT.out, HA.out, HC.out.2.2], by rw [HT.out, HA.out, HC.out.1]; exact wL, ho5⟩
          case measure => simp [intOf]; omega
        · obtain ⟨rfl, a5⟩ : SO = true ∧ LE ≤ D := a1.resolve_left a4
          have e1 : decide (D ≥ 0) = true := decide_eq_true (by omega)
          have e2 : decide (0 ≤ D) = true := decide_eq_true (by omega)
          have e3 : decide (D < LE) = false := decide_eq_false (by omega)
          clear a1 a4
          go_wp2_with (go_at_call 9; (with_reducible refine (bApart_at HE.out _).mono ?_); rintro e w5 ⟨rfl, hb5⟩; have hS5 : Since wr w5 := Since.trans hwa hb5; have wN := (Whole.new wr 37 #[.int .i64 td, .int .i64 tb, .int .i64 tw]).below hb5 (by simp); have n1 := wN.cell 0; have n2 := wN.cell 1; have n3 := wN.cell 2; have wL := Since.whole hS5 hwh; have l1 := wL.cell 0; have l2 := wL.cell 1; have l3 := wL.cell 2; have l4 := wL.frozen 0; have l5 := wL.frozen 1; have l6 := wL.frozen 2; have ho5 := ho.since hS5; clear t1 t2 t3 k0 k1 k2 hwa hoa)
          go_roundw
          case rel => exact ⟨m + 1, by go_num, by omega, by rw [HT.out, HA.out, HC.out.2.1], by rw [HT.out, HA.out, HC.out.2.2], by rw [HT.out, HA.out, HC.out.1]; exact wL, ho5⟩
          case measure => simp [intOf]; omega
    · obtain rfl : m = L.length := by omega
      have d1 : decide ((L.length : Int) < L.length) = false := decide_eq_false (by omega)
      rw [List.take_of_length_le (Nat.le_refl _)] at hwh ⊢
      obtain ⟨o, hoq⟩ : ∃ o, nrT k x y L = o := ⟨_, rfl⟩
      rw [hoq] at hwh ⊢
      obtain ⟨p0, p1, p2, hC⟩ := nrC_ex o
      obtain ⟨LE, hLE⟩ : ∃ e, nrD o = e := ⟨_, rfl⟩
      obtain ⟨SO, hSO⟩ : ∃ e, nrZ o = e := ⟨_, rfl⟩
      rw [hC] at hwh
      rw [hLE, hSO]
      have HF := Lib.hid (show nrV (nrT k x y L) = .tuple #[.agg #[.int .i64 p0, .int .i64 p1, .int .i64 p2], .int .i64 LE, .bool SO] by rw [hoq, nrV_eq, hC, hLE, hSO])
      have l1 := hwh.cell 0
      have l2 := hwh.cell 1
      have l3 := hwh.cell 2
      have wR := HJ.out _ ho
      have r1 := wR.frozen 0
      have r2 := wR.frozen 1
      have r3 := wR.frozen 2
      have r4 := wR.cell 0
      have r5 := wR.cell 1
      have r6 := wR.cell 2
      have hbl : Below w.heap.size w wr := Below.trans (B := w.heap.size) (hs0.trans hs1) (ho.below (hs0.trans hs1).size_ (fun b hb => by omega))
      clear hC hLE hSO hoq h h0 hform
      go_wp2_with fail
      have u := ((wR.set_ 0 (.int .i64 p0)).set_ 1 (.int .i64 p1)).set_ 2 (.int .i64 p2)
      have u0 := u.cell 0
      have u1 := u.cell 1
      have u2 := u.cell 2
      exact bodyPost_ret (v := .tuple #[.agg #[.int .i64 p0, .int .i64 p1, .int .i64 p2], .int .i64 LE, .bool SO]) (by simp [results, Try.results12, go_sem, u0, u1, u2]) rfl ⟨by rw [HF.out], Below.setCell (Below.setCell (Below.setCell hbl (p := ⟨w.heap.size + 1 + 1, 0, none⟩) (show w.heap.size ≤ w.heap.size + 1 + 1 by omega) _) (p := ⟨w.heap.size + 1 + 1, 1, none⟩) (show w.heap.size ≤ w.heap.size + 1 + 1 by omega) _) (p := ⟨w.heap.size + 1 + 1, 2, none⟩) (show w.heap.size ≤ w.heap.size + 1 + 1 by omega) _⟩
end Go.Proofs.Ytbbnojfecmocgaa
