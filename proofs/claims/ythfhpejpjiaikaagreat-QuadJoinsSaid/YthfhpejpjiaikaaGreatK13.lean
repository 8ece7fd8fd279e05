/- quad's quarterOf: the quarter that has the cell; leafOf. slices.BinarySearchFunc by point.Compare over a list of records in order. quad's find and leafOf. Trees of quarters: one quarter turned, one record set. -/
import Derived.Test.YthfhpejpjiaikaaGreatK06
import Derived.Test.YthfhpejpjiaikaaGreatK07
import Derived.Test.YthfhpejpjiaikaaGreatK11
import Derived.Test.YthfhpejpjiaikaaGreatK12
import Derived.Laws.OwnMore
import Derived.Deep.Cut
import Derived.Deep.CutRange
namespace Go.Proofs.YthfhpejpjiaikaaGreat
open Go.RowKit
set_option linter.unusedVariables false
set_option linter.unusedSimpArgs false
/-- A node's quarters, wherever else it is about. -/
structure QsAt (W : World) (g : Nat) (cs : Array Value) (q : Nat → QN) : Prop where
  w : Whole W g 71 cs
  c : ∀ i, i < 4 → cs[6 + i]? = some (q i).v
  a : ∀ i, i < 4 → (q i).At W
theorem QsAt.since {W W' : World} {g : Nat} {cs : Array Value} {q : Nat → QN} (h : QsAt W g cs q) (hs : Since W W') : QsAt W' g cs q := ⟨Since.whole hs h.w, h.c, fun i hi => (h.a i hi).since hs⟩
theorem ncells_q (a : Rc) (n : Nat) (v : Value) (q : Nat → Value) (i : Nat) (hi : i < 4) : (ncells a n v q)[6 + i]? = some (q i) := by
  rcases (show i = 0 ∨ i = 1 ∨ i = 2 ∨ i = 3 by omega) with rfl | rfl | rfl | rfl <;> rfl
theorem QN.At.qs {g n : Nat} {a : Rc} {q : Nat → QN} {W : World} (h : (QN.quad g n a q).At W) : QsAt W g (ncells a n (.slice none 0 0) fun i => (q i).v) q := ⟨h.1, fun i hi => ncells_q _ _ _ _ i hi, h.2⟩
theorem QsAt.cell {W : World} {g : Nat} {cs : Array Value} {q : Nat → QN} (h : QsAt W g cs q) (m : Nat) (hm : m < 4) : W.cell? ⟨g, 6 + m, none⟩ = some (q m).v := (h.w.cell _).trans (h.c m hm)
set_option maxRecDepth 100000 in
set_option maxHeartbeats 1600000 in
theorem indexq_any {g : Nat} {cs : Array Value} {q : Nat → QN} {W : World} (h : QsAt W g cs q) {x y : Int} {pb : Nat} (hp : Whole W pb 50 #[.int .i64 x, .int .i64 y]) {t : Nat} (ht : t < 4) (hi : ∀ i, i < 4 → (q i).hasC x y = decide (i = t)) :
    Calls Tryz.prog 101 #[.slice (some ⟨g, 6, none⟩) 4 4, .func (.func 100) #[] #[.pointer (some ⟨pb, 0, none⟩)]] W fun e w' => e = .returned (.int .i64 (t : Nat)) ∧ Below W.heap.size W w' := by
  have HQ := Lib.hid (fun m (hm : m < 4) W' (hW : Since W W') => And.intro ((h.since hW).cell m hm) ((h.since hW).a m hm))
  have HP := Lib.hid (fun W' (hW : Since W W') => Since.whole hW hp)
  have HI := Lib.hid hi
  clear h hp hi
  go_enter Tryz.func101, Tryz.ntmps101
  go_wp2_with fail
  go_loopw [8] (fun i wr => ∃ m : Nat, i = .int .i64 m ∧ m ≤ t ∧ Since W wr) (fun i _ => 4 - (intOf i).toNat)
  case atStart => exact ⟨0, rfl, Nat.zero_le _, Since.refl W⟩
  case round =>
    obtain ⟨m, rfl, hm, hs⟩ := hrel
    have hm4 : m < 4 := by omega
    have hm4' : (m : Int) < 4 := by omega
    have d1 : decide ((m : Int) < 4) = true := decide_eq_true hm4'
    obtain ⟨hc, hq⟩ := HQ.out m hm4 wr hs
    have hh := HI.out m hm4
    obtain ⟨Q, hQ⟩ : ∃ Q, q m = Q := ⟨_, rfl⟩
    rw [hQ] at hc hq hh
    have hp := HP.out wr hs
    have HC := Lib.hid (fun R (hR : Q.hasC x y = R) => hasq_any hq hp hR)
    obtain ⟨o, ho, _⟩ := Q.v_ptr
    rw [ho] at hc HC
    by_cases he : m = t
    · subst he
      have hR : Q.hasC x y = true := by rw [hh]; simp
      have HR := Lib.hid hR
      clear hh hR hQ hq ho
      go_wp2_with (go_at_call 100; (with_reducible refine (Calls.since hs (HC.out _ HR.out)).mono ?_); rintro e w5 ⟨rfl, hb5⟩)
      go_ret
      exact ⟨rfl, hb5⟩
    · have hR : Q.hasC x y = false := by rw [hh]; simp [he]
      have HR := Lib.hid hR
      clear hh hR hQ hq ho
      go_wp2_with (go_at_call 100; (with_reducible refine (Calls.since hs (HC.out _ HR.out)).mono ?_); rintro e w5 ⟨rfl, hb5⟩)
      go_roundw
      case rel => exact ⟨m + 1, by go_num, by omega, hb5⟩
      case measure => simp [intOf]; omega
set_option maxRecDepth 100000 in
set_option maxHeartbeats 1600000 in
theorem quarterOf_any {g : Nat} {cs : Array Value} {q : Nat → QN} {W : World} (h : QsAt W g cs q) {x y : Int} {t : Nat} (ht4 : t < 4) (hpk : ∀ i, i < 4 → (q i).hasC x y = decide (i = t)) :
    Calls Tryz.prog 74 #[.pointer (some ⟨g, 0, none⟩), .agg #[.int .i64 x, .int .i64 y]] W fun e w' => e = .returned (q t).v ∧ Below W.heap.size W w' := by
  obtain ⟨w0, hw0⟩ : ∃ w0, w0 = W.alloc (.cells #[.int .i64 x, .int .i64 y] 50) := ⟨_, rfl⟩
  have hs0 : Since W w0 := by rw [hw0]; exact (Since.refl W).alloc _
  have hp : Whole w0 W.heap.size 50 #[.int .i64 x, .int .i64 y] := by rw [hw0]; exact Whole.new W _ _
  have hmf : ∀ (fn : Fn) (first cap : Array Value) (w : World), (Instr.makeFunc fn first cap).run Tryz.prog w = .ok (.func fn first cap) w := fun _ _ _ _ => rfl
  have HX := Lib.hid (fun W' (hW : Since w0 W') => indexq_any (h.since (hs0.trans hW)) (Since.whole hW hp) ht4 hpk)
  obtain ⟨Q, hQ⟩ : ∃ Q, q t = Q := ⟨_, rfl⟩
  have k1 : ∀ W', Since w0 W' → W'.cell? ⟨g, 6 + t, none⟩ = some Q.v := fun W' hW => by rw [← hQ]; exact (h.since (hs0.trans hW)).cell t ht4
  obtain ⟨o, ho, _⟩ := Q.v_ptr
  rw [ho] at k1
  rw [hQ, ho]
  have HW := Lib.hid hw0
  have hsr := Since.refl w0
  have hsd := hsr.drew
  have ht' : (t : Int) < 4 := by omega
  have ht0 : (0 : Int) ≤ t := by omega
  clear hw0 hp hpk hQ ho h
  go_enter Tryz.func74, Tryz.ntmps74
  go_wp2_with fail
  rw [← HW.out]
  go_region_held3 (fun W => Since w0 W) (first | assumption | exact Since.drew (by assumption)) ((first | (go_at_call 101; (with_reducible refine (Calls.since (by assumption) (HX.out _ (by assumption))).mono ?_); rintro e w5 ⟨rfl, hb5⟩)))
  go_wp2_with fail
  go_ret
  exact ⟨rfl, hs0.trans hb5⟩
end Go.Proofs.YthfhpejpjiaikaaGreat
namespace Go.Proofs.YthfhpejpjiaikaaGreat
open Go.RowKit
set_option linter.unusedVariables false
set_option linter.unusedSimpArgs false
theorem posQ_at {L : List Rq} (hs : SortQ L) {x y : Int} {k : ByteArray} {i : Nat} (h : i < L.length) {C : Int} (hC : cmpK L[i] x y k = C) : (C < 0 → i + 1 ≤ posQ L x y k) ∧ (¬ C < 0 → posQ L x y k ≤ i) := by
  subst hC
  have := posQ_take (x := x) (y := y) (k := k) hs i h
  exact ⟨fun c => this.1 c, fun c => Nat.not_lt.1 (fun z => c (this.2 z))⟩
theorem hasQ_at {L : List Rq} (hs : SortQ L) {x y : Int} {k : ByteArray} (h : posQ L x y k < L.length) {C : Int} (hC : cmpK L[posQ L x y k] x y k = C) : hasQ L x y k = (C == 0) := by
  subst hC
  rw [Bool.eq_iff_iff, hasQ_iff hs, beq_iff_eq]
  exact ⟨fun ⟨_, z⟩ => z, fun z => ⟨h, z⟩⟩
theorem hasQ_no {L : List Rq} (hs : SortQ L) {x y : Int} {k : ByteArray} (h : ¬ posQ L x y k < L.length) : hasQ L x y k = false := by
  rw [Bool.eq_false_iff]
  exact fun z => h ((hasQ_iff hs).1 z).1
set_option maxRecDepth 100000 in
set_option maxHeartbeats 6400000 in
theorem bsearch_any {B : Nat} {v : Value} {L : List Rq} (w : World) (h : ListE encQ 5 B w v L) (hB : B ≤ w.heap.size) (hs : SortQ L) (hl : L.length ≤ 100000) (x y : Int) (k val : ByteArray) (ver : Int) :
    Calls Tryz.prog 83 #[v, .agg #[.int .i64 x, .int .i64 y, .string k, .string val, .int .i64 ver], .func (.func 84) #[] #[]] w fun e w' => e = .returned (.tuple #[.int .i64 (posQ L x y k : Nat), .bool (hasQ L x y k)]) ∧ Below w.heap.size w w' := by
  obtain ⟨va, cap, rfl, hform⟩ := h.form
  obtain ⟨w0, hw0⟩ : ∃ w0, w0 = w.alloc (.cells #[.int .i64 x, .int .i64 y, .string k, .string val, .int .i64 ver] 55) := ⟨_, rfl⟩
  have hs0 : Since w w0 := by rw [hw0]; exact (Since.refl w).alloc _
  have wh0 : Whole w0 (w.heap.size) 55 #[.int .i64 x, .int .i64 y, .string k, .string val, .int .i64 ver] := by rw [hw0]; exact Whole.new w _ _
  have HW := Lib.hid hw0
  have c0_0 := box_cell wh0 0 (.int .i64 x) rfl
  have c0_1 := box_cell wh0 1 (.int .i64 y) rfl
  have c0_2 := box_cell wh0 2 (.string k) rfl
  have c0_3 := box_cell wh0 3 (.string val) rfl
  have c0_4 := box_cell wh0 4 (.int .i64 ver) rfl
  have hsr := Since.refl w0
  have hsd := hsr.drew
  clear hw0 wh0
  have hB0 : B ≤ w0.heap.size := Nat.le_trans hB hs0.size_
  have h0 := h.since hs0 hB
  have hpos := posQ_le L x y k
  have HP := Lib.hid (fun i (hi : i < L.length) C (hC : cmpK L[i] x y k = C) => posQ_at hs hi hC)
  have HQ := Lib.hid (fun (hp : posQ L x y k < L.length) C (hC : cmpK L[posQ L x y k] x y k = C) => hasQ_at hs hp hC)
  have HN := Lib.hid (fun (hp : ¬ posQ L x y k < L.length) => hasQ_no hs hp)
  have HL0 := Lib.hid h0
  obtain ⟨P, hP⟩ : ∃ P, posQ L x y k = P := ⟨_, rfl⟩
  obtain ⟨H, hH⟩ : ∃ H, hasQ L x y k = H := ⟨_, rfl⟩
  rw [hP] at hpos HQ HN
  rw [hP] at HP
  rw [hH] at HQ HN
  rw [hP, hH]
  have cell : ∀ W, Since w0 W → ∀ (m g : Nat) (hm : m < L.length), va = some ⟨g, 0, none⟩ → ∀ r, L[m] = r → W.cell? ⟨g, m * 5, none⟩ = some (.int .i64 r.x) ∧ W.cell? ⟨g, m * 5 + 1, none⟩ = some (.int .i64 r.y) ∧ W.cell? ⟨g, m * 5 + 2, none⟩ = some (.string r.key) ∧ W.cell? ⟨g, m * 5 + 3, none⟩ = some (.string r.val) ∧ W.cell? ⟨g, m * 5 + 4, none⟩ = some (.int .i64 r.ver) := fun W hW m g hm hg r hr => by
    subst hg
    have z := h0.since hW hB0
    have t := fun j u (hu : (encQ r)[j]? = some u) => z.at_ hm j (u := u) (by rw [hr]; exact hu)
    exact ⟨t 0 _ rfl, t 1 _ rfl, t 2 _ rfl, t 3 _ rfl, t 4 _ rfl⟩
  have HCE := Lib.hid cell
  clear hP hH h h0 hs cell
  go_enter Tryz.func83, Tryz.ntmps83
  go_wp2_with fail
  rw [← HW.out]
  go_loopw [9, 10] (fun a b wr => ∃ lo hi : Nat, a = .int .i64 lo ∧ b = .int .i64 hi ∧ lo ≤ P ∧ P ≤ hi ∧ hi ≤ L.length ∧ Since w0 wr) (fun a b _ => (intOf b).toNat - (intOf a).toNat)
  case atStart => exact ⟨0, L.length, rfl, rfl, Nat.zero_le _, hpos, Nat.le_refl _, Since.refl _⟩
  case round =>
    obtain ⟨lo, hi, rfl, rfl, h1, h2, h3, hs⟩ := hrel
    by_cases hlt : lo < hi
    · obtain ⟨m, hm⟩ : ∃ m, m = (lo + hi) / 2 := ⟨_, rfl⟩
      have hml : m < L.length := by omega
      obtain ⟨g, rfl, hg⟩ := hform m hml
      obtain ⟨r, hr⟩ : ∃ r, L[m] = r := ⟨_, rfl⟩
      obtain ⟨C, hC⟩ : ∃ C, cmpK r x y k = C := ⟨_, rfl⟩
      have hp := HP.out m hml C (by rw [hr]; exact hC)
      have HC := Lib.hid (show cmpR r.x r.y r.key.data.toList x y k.data.toList = C from hC)
      have t1 := fun W hW => (HCE.out W hW m g hml rfl r hr).1
      have t2 := fun W hW => (HCE.out W hW m g hml rfl r hr).2.1
      have t3 := fun W hW => (HCE.out W hW m g hml rfl r hr).2.2.1
      have t4 := fun W hW => (HCE.out W hW m g hml rfl r hr).2.2.2.1
      have t5 := fun W hW => (HCE.out W hW m g hml rfl r hr).2.2.2.2
      have d1 : decide ((lo : Int) < hi) = true := decide_eq_true (by omega)
      have e1 : IntKind.i64.wrap ((lo : Int) + hi) = (lo : Int) + hi := IntWalk.i64_in _ (by omega)
      have hmi : ((lo : Int) + hi) / 2 = (m : Int) := by omega
      have hlt' : (m : Int) < L.length := by omega
      have hlen : (L.length : Int) ≤ 100000 := by omega
      have e3 : IntKind.i64.wrap ((m : Int) + 1) = (m : Int) + 1 := IntWalk.i64_in _ (by omega)
      clear hr hC hm hform
      have hsd := hs.drew
      by_cases hc : C < 0
      · have d2 : decide (C < 0) = true := decide_eq_true hc
        have hp1 := hp.1 hc
        clear hp hc
        go_upto_region 5 with fail
        go_region_held3 (fun W => Since w0 W) (first | assumption | exact Since.drew (by assumption)) ((first | (go_at_call 84; (with_reducible refine (Calls.since (by assumption) (qcompare_at HC.out _)).mono ?_); rintro e w5 ⟨rfl, hb5⟩)))
        go_wp2_with fail
        go_roundw
        case rel => exact ⟨m + 1, hi, by go_num, rfl, hp1, h2, h3, hb5⟩
        case measure => simp [intOf]; omega
      · have d2 : decide (C < 0) = false := decide_eq_false hc
        have hp1 := hp.2 (by omega)
        clear hp hc
        go_upto_region 5 with fail
        go_region_held3 (fun W => Since w0 W) (first | assumption | exact Since.drew (by assumption)) ((first | (go_at_call 84; (with_reducible refine (Calls.since (by assumption) (qcompare_at HC.out _)).mono ?_); rintro e w5 ⟨rfl, hb5⟩)))
        go_wp2_with fail
        go_roundw
        case rel => exact ⟨lo, m, rfl, rfl, h1, hp1, by omega, hb5⟩
        case measure => simp [intOf]; omega
    · obtain rfl : lo = hi := by omega
      obtain rfl : lo = P := by omega
      have hsd := hs.drew
      have d1 : decide ((lo : Int) < lo) = false := decide_eq_false (by omega)
      by_cases hn : lo < L.length
      · obtain ⟨g, rfl, hg⟩ := hform lo hn
        obtain ⟨r, hr⟩ : ∃ r, L[lo] = r := ⟨_, rfl⟩
        obtain ⟨C, hC⟩ : ∃ C, cmpK r x y k = C := ⟨_, rfl⟩
        have hq := HQ.out hn C (by rw [hr]; exact hC)
        subst hq
        have HC := Lib.hid (show cmpR r.x r.y r.key.data.toList x y k.data.toList = C from hC)
        have t1 := fun W hW => (HCE.out W hW lo g hn rfl r hr).1
        have t2 := fun W hW => (HCE.out W hW lo g hn rfl r hr).2.1
        have t3 := fun W hW => (HCE.out W hW lo g hn rfl r hr).2.2.1
        have t4 := fun W hW => (HCE.out W hW lo g hn rfl r hr).2.2.2.1
        have t5 := fun W hW => (HCE.out W hW lo g hn rfl r hr).2.2.2.2
        have d2 : decide ((lo : Int) < L.length) = true := decide_eq_true (by omega)
        have hlt' : (lo : Int) < L.length := by omega
        have hlen : (L.length : Int) ≤ 100000 := by omega
        clear hr hC hform HQ HN
        go_upto_region 8 with fail
        go_region_held3 (fun W => Since w0 W) (first | assumption | exact Since.drew (by assumption)) ((first | (go_at_call 84; (with_reducible refine (Calls.since (by assumption) (qcompare_at HC.out _)).mono ?_); rintro e w5 ⟨rfl, hb5⟩)))
        go_wp2_with fail
        go_ret2
        exact ⟨rfl, hs0.trans hb5⟩
      · have d2 : decide ((lo : Int) < L.length) = false := decide_eq_false (by omega)
        obtain rfl := HN.out hn
        go_upto_region 8 with fail
        refine wp_region_held_drew (S := fun W => Since w0 W) (by kernel_rfl) hsd (fun hHeld => ?_)
        refine wpAnyH_take (i := 0) (v := ?_) rfl (by kernel_rfl) (by kernel_rfl) (by kernel_rfl) (fun _ _ _ h => h) (Or.inl ⟨by rfl, ?_⟩) (by assumption) ?_
        rotate_left 1
        · (intro W hW; clear hW; go_simp; try with_reducible rfl)
        simp only [Act.put, List.getElem_toArray, List.getElem_cons_zero, List.setIfInBounds_toArray, List.set_cons_zero, List.set_cons_succ]
        refine wpAnyH_take (i := 1) (v := ?_) rfl (by kernel_rfl) (by kernel_rfl) (by kernel_rfl) (fun _ _ _ h => h) (Or.inl ⟨by rfl, ?_⟩) (by assumption) ?_
        rotate_left 1
        · (intro W hW; clear hW; go_simp; try with_reducible rfl)
        simp only [Act.put, List.getElem_toArray, List.getElem_cons_succ, List.getElem_cons_zero, List.setIfInBounds_toArray, List.set_cons_zero, List.set_cons_succ]
        refine wpAnyH_take (i := 2) (v := ?_) rfl (by kernel_rfl) (by kernel_rfl) (by kernel_rfl) (fun _ _ _ h => h) (Or.inl ⟨by rfl, ?_⟩) (by assumption) ?_
        rotate_left 1
        · (intro W hW; clear hW; go_simp; try with_reducible rfl)
        simp only [Act.put, List.getElem_toArray, List.getElem_cons_succ, List.getElem_cons_zero, List.setIfInBounds_toArray, List.set_cons_zero, List.set_cons_succ]
        refine wpAnyH_take (i := 3) (v := ?_) rfl (by kernel_rfl) (by kernel_rfl) (by kernel_rfl) (fun _ _ _ h => h) (Or.inl ⟨by rfl, ?_⟩) (by assumption) ?_
        rotate_left 1
        · (intro W hW; clear hW; go_simp; try with_reducible rfl)
        simp only [Act.put, List.getElem_toArray, List.getElem_cons_succ, List.getElem_cons_zero, List.setIfInBounds_toArray, List.set_cons_zero, List.set_cons_succ]
        refine wpAnyH_take (i := 4) (v := ?_) rfl (by kernel_rfl) (by kernel_rfl) (by kernel_rfl) (fun _ _ _ h => h) (Or.inl ⟨by rfl, ?_⟩) (by assumption) ?_
        rotate_left 1
        · (intro W hW; clear hW; go_simp; try with_reducible rfl)
        simp only [Act.put, List.getElem_toArray, List.getElem_cons_succ, List.getElem_cons_zero, List.setIfInBounds_toArray, List.set_cons_zero, List.set_cons_succ]
        refine wpAnyH_take (i := 5) (v := undef) rfl (by kernel_rfl) (by kernel_rfl) (by kernel_rfl) (fun _ _ _ h => h) (Or.inr ⟨by rfl, rfl⟩) (by assumption) ?_
        simp only [Act.put, List.getElem_toArray, List.getElem_cons_succ, List.getElem_cons_zero, List.setIfInBounds_toArray, List.set_cons_zero, List.set_cons_succ]
        refine wpAnyH_take (i := 6) (v := undef) rfl (by kernel_rfl) (by kernel_rfl) (by kernel_rfl) (fun _ _ _ h => h) (Or.inr ⟨by rfl, rfl⟩) (by assumption) ?_
        simp only [Act.put, List.getElem_toArray, List.getElem_cons_succ, List.getElem_cons_zero, List.setIfInBounds_toArray, List.set_cons_zero, List.set_cons_succ]
        refine wpAnyH_take (i := 7) (v := undef) rfl (by kernel_rfl) (by kernel_rfl) (by kernel_rfl) (fun _ _ _ h => h) (Or.inr ⟨by rfl, rfl⟩) (by assumption) ?_
        simp only [Act.put, List.getElem_toArray, List.getElem_cons_succ, List.getElem_cons_zero, List.setIfInBounds_toArray, List.set_cons_zero, List.set_cons_succ]
        refine wpAnyH_take (i := 8) (v := undef) rfl (by kernel_rfl) (by kernel_rfl) (by kernel_rfl) (fun _ _ _ h => h) (Or.inr ⟨by rfl, rfl⟩) (by assumption) ?_
        simp only [Act.put, List.getElem_toArray, List.getElem_cons_succ, List.getElem_cons_zero, List.setIfInBounds_toArray, List.set_cons_zero, List.set_cons_succ]
        refine wpAnyH_take (i := 9) (v := undef) rfl (by kernel_rfl) (by kernel_rfl) (by kernel_rfl) (fun _ _ _ h => h) (Or.inr ⟨by rfl, rfl⟩) (by assumption) ?_
        simp only [Act.put, List.getElem_toArray, List.getElem_cons_succ, List.getElem_cons_zero, List.setIfInBounds_toArray, List.set_cons_zero, List.set_cons_succ]
        refine wpAnyH_take (i := 10) (v := undef) rfl (by kernel_rfl) (by kernel_rfl) (by kernel_rfl) (fun _ _ _ h => h) (Or.inr ⟨by rfl, rfl⟩) (by assumption) ?_
        simp only [Act.put, List.getElem_toArray, List.getElem_cons_succ, List.getElem_cons_zero, List.setIfInBounds_toArray, List.set_cons_zero, List.set_cons_succ]
        refine wpAnyH_take (i := 11) (v := undef) rfl (by kernel_rfl) (by kernel_rfl) (by kernel_rfl) (fun _ _ _ h => h) (Or.inr ⟨by rfl, rfl⟩) (by assumption) ?_
        simp only [Act.put, List.getElem_toArray, List.getElem_cons_succ, List.getElem_cons_zero, List.setIfInBounds_toArray, List.set_cons_zero, List.set_cons_succ]
        refine wpAnyH_take (i := 12) (v := undef) rfl (by kernel_rfl) (by kernel_rfl) (by kernel_rfl) (fun _ _ _ h => h) (Or.inr ⟨by rfl, rfl⟩) (by assumption) ?_
        simp only [Act.put, List.getElem_toArray, List.getElem_cons_succ, List.getElem_cons_zero, List.setIfInBounds_toArray, List.set_cons_zero, List.set_cons_succ]
        refine wpAnyH_take (i := 13) (v := ?_) rfl (by kernel_rfl) (by kernel_rfl) (by kernel_rfl) (fun _ _ _ h => h) (Or.inl ⟨by rfl, ?_⟩) (by assumption) ?_
        rotate_left 1
        · (intro W hW; clear hW; go_simp; try with_reducible rfl)
        simp only [Act.put, List.getElem_toArray, List.getElem_cons_succ, List.getElem_cons_zero, List.setIfInBounds_toArray, List.set_cons_zero, List.set_cons_succ]
        refine wpAnyH_take (i := 14) (v := ?_) rfl (by kernel_rfl) (by kernel_rfl) (by kernel_rfl) (fun _ _ _ h => h) (Or.inl ⟨by rfl, ?_⟩) (by assumption) ?_
        rotate_left 1
        · (intro W hW; clear hW; go_simp; try with_reducible rfl)
        simp only [Act.put, List.getElem_toArray, List.getElem_cons_succ, List.getElem_cons_zero, List.setIfInBounds_toArray, List.set_cons_zero, List.set_cons_succ]
        refine wpAnyH_take (i := 15) (v := ?_) rfl (by kernel_rfl) (by kernel_rfl) (by kernel_rfl) (fun _ _ _ h => h) (Or.inl ⟨by rfl, ?_⟩) (by assumption) ?_
        rotate_left 1
        · (intro W hW; clear hW; go_simp; try with_reducible rfl)
        simp only [Act.put, List.getElem_toArray, List.getElem_cons_succ, List.getElem_cons_zero, List.setIfInBounds_toArray, List.set_cons_zero, List.set_cons_succ]
        refine wpAnyH_done (by kernel_rfl) ?_ _
        go_wp2_with fail
        go_ret2
        exact ⟨rfl, hs0.trans hsd⟩
end Go.Proofs.YthfhpejpjiaikaaGreat
namespace Go.Proofs.YthfhpejpjiaikaaGreat
open Go.RowKit
set_option linter.unusedVariables false
set_option linter.unusedSimpArgs false
set_option maxRecDepth 100000 in
set_option maxHeartbeats 1600000 in
theorem nfind_any {g : Nat} {v : Value} {a : Rc} {L : List Rq} {W : World} (h : (QN.leaf g v a L).At W) (hs : SortQ L) (hl : L.length ≤ 100000) (x y : Int) (k : ByteArray) :
    Calls Tryz.prog 49 #[.pointer (some ⟨g, 0, none⟩), .agg #[.int .i64 x, .int .i64 y], .string k] W fun e w' => e = .returned (.tuple #[.int .i64 (posQ L x y k : Nat), .bool (hasQ L x y k)]) ∧ Below W.heap.size W w' := by
  obtain ⟨w0, hw0⟩ : ∃ w0, w0 = W.alloc (.cells #[.int .i64 x, .int .i64 y] 50) := ⟨_, rfl⟩
  have hs0 : Since W w0 := by rw [hw0]; exact (Since.refl W).alloc _
  have hp : Whole w0 W.heap.size 50 #[.int .i64 x, .int .i64 y] := by rw [hw0]; exact Whole.new W _ _
  have HB := Lib.hid (fun W' (hW : Since w0 W') => bsearch_any W' ((RowE.since h.2 (hs0.trans hW)).list encQ_len) (Nat.le_refl _) hs hl x y k ⟨#[]⟩ 0)
  have c0 := box_cell hp 0 _ rfl
  have c1 := box_cell hp 1 _ rfl
  have c2 : ∀ W', Since w0 W' → W'.cell? ⟨g, 5, none⟩ = some v := fun W' hW => (Since.whole (hs0.trans hW) (show Whole W g 71 _ from h.1)).cell 5
  have HW := Lib.hid hw0
  have hsr := Since.refl w0
  have hsd := hsr.drew
  obtain ⟨P, hP⟩ : ∃ P, posQ L x y k = P := ⟨_, rfl⟩
  obtain ⟨H, hH⟩ : ∃ H, hasQ L x y k = H := ⟨_, rfl⟩
  rw [hP, hH] at HB ⊢
  clear hw0 hp h hP hH
  go_enter Tryz.func49, Tryz.ntmps49
  go_wp2_with fail
  rw [← HW.out]
  go_region_held3 (fun W => Since w0 W) (first | assumption | exact Since.drew (by assumption)) ((first | (go_at_call 83; (with_reducible refine (Calls.since (by assumption) (HB.out _ (by assumption))).mono ?_); rintro e w5 ⟨rfl, hb5⟩)))
  go_wp2_with fail
  go_ret2
  exact ⟨rfl, hs0.trans hb5⟩
end Go.Proofs.YthfhpejpjiaikaaGreat
namespace Go.Proofs.YthfhpejpjiaikaaGreat
open Go.RowKit
set_option linter.unusedVariables false
set_option linter.unusedSimpArgs false
def updQ (q : Nat → QN) (t : Nat) (p : QN) : Nat → QN := fun i => if i = t then p else q i
theorem updQ_same (q : Nat → QN) (t : Nat) (p : QN) : updQ q t p t = p := if_pos rfl
theorem updQ_ne {q : Nat → QN} {t i : Nat} (h : i ≠ t) (p : QN) : updQ q t p i = q i := if_neg h
theorem ncells_updQ {q : Nat → QN} {t : Nat} {p : QN} (hv : p.v = (q t).v) (a : Rc) (n : Nat) (v : Value) : ncells a n v (fun i => (updQ q t p i).v) = ncells a n v (fun i => (q i).v) := by
  have e : (fun i => (updQ q t p i).v) = fun i => (q i).v := by
    funext i
    by_cases h : i = t
    · subst h; rw [updQ_same, hv]
    · rw [updQ_ne h]
  rw [e]
/-- What a change of one quarter leaves. -/
theorem quad_updQ {g n : Nat} {a : Rc} {q : Nat → QN} {W W' : World} (h : (QN.quad g n a q).At W) (hs : (QN.quad g n a q).Sep) {t : Nat} (ht : t < 4) {p : QN} (hp : p.At W') (hps : p.Sep) (hv : p.v = (q t).v)
    (ho : Off (fun b => b ∈ (q t).bl) W W') (hb : ∀ b ∈ p.bl, b ∈ (q t).bl ∨ W.heap.size ≤ b) :
    (QN.quad g n a (updQ q t p)).At W' ∧ (QN.quad g n a (updQ q t p)).Sep ∧ ∀ b ∈ (QN.quad g n a (updQ q t p)).bl, b ∈ (QN.quad g n a q).bl ∨ W.heap.size ≤ b := by
  have hg := hs.1 t ht
  have hgl : g < W.heap.size := Whole.lt h.1
  have hlt := fun i hi => (h.2 i hi).lt
  refine ⟨⟨?_, fun i hi => ?_⟩, ⟨fun i hi => ?_, fun i j hi hj hij b hbi hbj => ?_⟩, fun b hbb => ?_⟩
  · rw [ncells_updQ hv]
    exact ho.whole h.1 hg.2
  · by_cases e : i = t
    · subst e; rw [updQ_same]; exact hp
    · rw [updQ_ne e]
      exact (h.2 i hi).off ho (fun b hb => hs.2 i t hi ht e b hb)
  · by_cases e : i = t
    · subst e
      rw [updQ_same]
      exact ⟨hps, fun z => (hb g z).elim hg.2 (fun y => by omega)⟩
    · rw [updQ_ne e]; exact hs.1 i hi
  · by_cases e : i = t
    · subst e
      rw [updQ_same] at hbi
      rw [updQ_ne (fun z => hij z.symm)] at hbj
      rcases hb b hbi with z | z
      · exact hs.2 i j hi hj hij b z hbj
      · have := hlt j hj b hbj; omega
    · rw [updQ_ne e] at hbi
      by_cases e2 : j = t
      · subst e2
        rw [updQ_same] at hbj
        rcases hb b hbj with z | z
        · exact hs.2 i j hi hj hij b hbi z
        · have := hlt i hi b hbi; omega
      · rw [updQ_ne e2] at hbj
        exact hs.2 i j hi hj hij b hbi hbj
  · rcases bl_quad.1 hbb with rfl | ⟨i, hi, z⟩
    · exact .inl (bl_quad.2 (.inl rfl))
    · by_cases e : i = t
      · subst e
        rw [updQ_same] at z
        exact (hb b z).imp (fun y => bl_quad.2 (.inr ⟨i, hi, y⟩)) id
      · rw [updQ_ne e] at z
        exact .inl (bl_quad.2 (.inr ⟨i, hi, z⟩))
theorem inQ_qix {a : Rc} (hg : Good a) {r : Rq} (hr : inQ a r = true) {i : Nat} (hi : i < 4) (hn : neR (qtr a i) = true) : inQ (qtr a i) r = decide (i = qix a r.x r.y) := by
  rw [Bool.eq_iff_iff, decide_eq_true_iff, ← qtr_has hg hr hi]
  exact ⟨fun z => ⟨hn, z⟩, fun z => z.2⟩
/-- A quarter's records, when one is put into another one. -/
theorem other_put {a : Rc} (hg : Good a) {L : List Rq} (hs : SortQ L) (hL : ∀ s ∈ L, inQ a s = true) {r : Rq} (hr : inQ a r = true) {i : Nat} (hi : i < 4) (hne : i ≠ qix a r.x r.y) {q : QN} (ho : q.Ok (qtr a i) (L.filter (inQ (qtr a i)))) : q.Ok (qtr a i) ((putQ L r).filter (inQ (qtr a i))) := by
  cases hn : neR (qtr a i) with
  | true =>
    rw [put_out (inQ_cell (qtr a i)) hs (by rw [inQ_qix hg hr hi hn]; exact decide_eq_false hne)]
    exact ho
  | false =>
    have e : (putQ L r).filter (inQ (qtr a i)) = L.filter (inQ (qtr a i)) := by
      cases hq : inQ (qtr a i) r with
      | false => exact put_out (inQ_cell (qtr a i)) hs hq
      | true =>
        exfalso
        -- an empty rectangle has no cell
        unfold inQ hasR at hq
        rw [Bool.and_eq_true, decide_eq_true_iff] at hq
        unfold neR at hn
        have hn := of_decide_eq_false hn
        omega
    rw [e]; exact ho
theorem filter_len {L : List Rq} (p : Rq → Bool) : (L.filter p).length ≤ L.length := List.length_filter_le _ _
theorem quad_ok {g n n' : Nat} {b a : Rc} {q : Nat → QN} {L : List Rq} (h : (QN.quad g n b q).Ok a L) (hg : Good a) (hs : SortQ L) (hL : ∀ s ∈ L, inQ a s = true) {r : Rq} (hr : inQ a r = true) {p : QN}
    (hp : p.Ok (qtr a (qix a r.x r.y)) (putQ (L.filter (inQ (qtr a (qix a r.x r.y)))) r)) (hn : n' = (putQ L r).length) : (QN.quad g n' b (updQ q (qix a r.x r.y) p)).Ok a (putQ L r) := by
  obtain ⟨h1, h2, h3, h4, h5, h6⟩ := h
  have hlen := putQ_len L r
  refine ⟨h1, hn, h3, ?_, h5, fun i hi => ?_⟩
  · rw [hlen]; split <;> omega
  · by_cases e : i = qix a r.x r.y
    · subst e
      rw [updQ_same, put_part hs ((qtr_has hg hr hi).2 rfl).2]
      exact hp
    · rw [updQ_ne e]
      exact other_put hg hs hL hr hi e (h6 i hi)
theorem flat_set5 : ∀ (L : List Rq) (i : Nat) (r : Rq), i < L.length → (L.set i r).flatMap encQ = (((((L.flatMap encQ).set (i * 5) (.int .i64 r.x)).set (i * 5 + 1) (.int .i64 r.y)).set (i * 5 + 2) (.string r.key)).set (i * 5 + 3) (.string r.val)).set (i * 5 + 4) (.int .i64 r.ver)
  | s :: L, 0, r, _ => by simp [encQ]
  | s :: L, i + 1, r, h => by
    have ih := flat_set5 L i r (by simpa using h)
    rw [List.set_cons_succ, List.flatMap_cons, List.flatMap_cons, ih]
    rw [show (i + 1) * 5 = i * 5 + 4 + 1 by omega]
    simp [encQ]
/-- One record set. -/
theorem RowE.set5 {W : World} {base g cap : Nat} {L : List Rq} (h : RowE encQ 5 W base 55 (.slice (some ⟨g, 0, none⟩) L.length cap) L) {i : Nat} (hi : i < L.length) (r : Rq) :
    RowE encQ 5 (((((W.setCell ⟨g, i * 5, none⟩ (.int .i64 r.x)).setCell ⟨g, i * 5 + 1, none⟩ (.int .i64 r.y)).setCell ⟨g, i * 5 + 2, none⟩ (.string r.key)).setCell ⟨g, i * 5 + 3, none⟩ (.string r.val)).setCell ⟨g, i * 5 + 4, none⟩ (.int .i64 r.ver)) base 55 (.slice (some ⟨g, 0, none⟩) L.length cap) (L.set i r) := by
  have z := (World.ownsRow.stored (World.ownsRow.stored (World.ownsRow.stored (World.ownsRow.stored (World.ownsRow.stored h (i * 5) (.int .i64 r.x)).1 (i * 5 + 1) (.int .i64 r.y)).1 (i * 5 + 2) (.string r.key)).1 (i * 5 + 3) (.string r.val)).1 (i * 5 + 4) (.int .i64 r.ver)).1
  unfold RowE
  rw [List.length_set, flat_set5 L i r hi]
  exact z
end Go.Proofs.YthfhpejpjiaikaaGreat
