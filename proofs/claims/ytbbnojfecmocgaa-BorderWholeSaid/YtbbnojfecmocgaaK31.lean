/- append(s, x...) of a whole list onto a list of the call's own; parts of lists. Nothing of one program. A region that draws its order, one of whose operations waits for all others: what is known of the world need not hold behind that one. Nothing of one program. The document's tilings: Under. The program's Round of a list, and tooLong. -/
import Derived.Test.YtbbnojfecmocgaaK03
import Derived.Test.YtbbnojfecmocgaaK07
import Derived.Test.YtbbnojfecmocgaaK08
import Derived.Test.YtbbnojfecmocgaaK21
import Derived.Test.YtbbnojfecmocgaaK22
import Derived.Test.YtbbnojfecmocgaaK30
import Derived.Maps.AppendAt
import Derived.Great.BuildSlice
import Derived.Laws.IdiomStrings
import Derived.OrdersHeld
import Derived.Deep.RegionHeld
import Derived.RangeFuncRecord
namespace Go.Proofs.Ytbbnojfecmocgaa
open Go.RowKit
set_option linter.unusedVariables false
section
variable {α : Type} {enc : α → List Value} {n : Nat} {W W' : World}
/-- A part of a list that lies there, at whatever place. -/
def PartE (enc : α → List Value) (W : World) (x : Value) (m : List α) : Prop :=
  (x = .slice none 0 0 ∧ m = []) ∨ ∃ ad c, x = .slice (some ad) m.length c ∧ ∀ j u, (m.flatMap enc)[j]? = some u → W.cell? (ad.add j) = some u
/-- A list of one in memory. -/
theorem PartE.one {g : Nat} {t : TypeId} {r : α} {c : Nat} (h : Whole W g t (enc r).toArray) : PartE enc W (.slice (some ⟨g, 0, none⟩) 1 c) [r] :=
  .inr ⟨_, c, rfl, fun j u hu => by
    rw [show (⟨g, 0, none⟩ : Addr).add j = ⟨g, j, none⟩ by unfold Addr.add; split <;> simp_all, h.cell j]
    simpa using hu⟩
theorem flat_take (hlen : ∀ r, (enc r).length = n) : ∀ (l : List α) (i : Nat), (l.take i).flatMap enc = (l.flatMap enc).take (i * n)
  | [], i => by simp
  | r :: l, 0 => by simp
  | r :: l, i + 1 => by
    rw [List.take_succ_cons, List.flatMap_cons, List.flatMap_cons, flat_take hlen l i, Nat.add_mul, Nat.one_mul, List.take_append, List.take_of_length_le (l := enc r) (by rw [hlen]; omega), hlen, Nat.add_sub_cancel]
theorem flat_drop (hlen : ∀ r, (enc r).length = n) : ∀ (l : List α) (i : Nat), (l.drop i).flatMap enc = (l.flatMap enc).drop (i * n)
  | [], i => by simp
  | r :: l, 0 => by simp
  | r :: l, i + 1 => by
    rw [List.drop_succ_cons, List.flatMap_cons, flat_drop hlen l i, Nat.add_mul, Nat.one_mul, List.drop_append, List.drop_of_length_le (l := enc r) (by rw [hlen]; omega), hlen, Nat.add_sub_cancel, List.nil_append]
theorem RowE.take {g cap i : Nat} {base : Nat} {T : TypeId} {l : List α} (h : RowE enc n W base T (.slice (some ⟨g, 0, none⟩) l.length cap) l) (hlen : ∀ r, (enc r).length = n) (hi : i ≤ l.length) : PartE enc W (.slice (some ⟨g, 0, none⟩) i cap) (l.take i) := by
  have hl : (l.take i).length = i := by rw [List.length_take]; omega
  refine .inr ⟨_, cap, by rw [hl], fun j u hu => ?_⟩
  rw [flat_take hlen] at hu
  exact World.ownsRow.cells (g := g) h rfl j u (by
    rw [List.getElem?_take] at hu
    split at hu
    · exact hu
    · cases hu)
theorem RowE.drop {g cap i c : Nat} {base : Nat} {T : TypeId} {l : List α} (h : RowE enc n W base T (.slice (some ⟨g, 0, none⟩) l.length cap) l) (hlen : ∀ r, (enc r).length = n) : PartE enc W (.slice (some ⟨g, i * n, none⟩) (l.length - i) c) (l.drop i) := by
  refine .inr ⟨_, c, by rw [List.length_drop], fun j u hu => ?_⟩
  rw [flat_drop hlen, List.getElem?_drop] at hu
  have := World.ownsRow.cells (g := g) h rfl (i * n + j) u hu
  rw [add_at] at this
  rw [show (⟨g, i * n, none⟩ : Addr).add j = ⟨g, i * n + j, none⟩ by unfold Addr.add; split <;> simp_all]
  exact this
end
end Go.Proofs.Ytbbnojfecmocgaa
namespace Go.Proofs.Ytbbnojfecmocgaa
section
variable {P : Program} {ops : Array Oper} {Q : Exit → Act → World → Prop} {md : Region.Mode} {S : World → Prop} {z : Nat}
/-- In whatever order; S holds behind each operation but z. -/
def wpLast (P : Program) (md : Region.Mode) (ops : Array Oper) (Q : Exit → Act → World → Prop) (S : World → Prop) (z : Nat) : Nat → Array Bool → Act → World → Prop
  | 0, listed, a, w => Region.ready md ops listed = [] ∧ Q .normal a w
  | fuel + 1, listed, a, w =>
    (Region.ready md ops listed = [] → Q .normal a w) ∧
    ∀ i ∈ Region.ready md ops listed, wpOp P ops Q i (fun a' w' => (i ≠ z → S w') ∧ wpLast P md ops Q S z fuel (listed.setIfInBounds i true) a' w') a w
/-- Each of the operations rs comes up next. -/
def LastReady (P : Program) (md : Region.Mode) (ops : Array Oper) (Q : Exit → Act → World → Prop) (S : World → Prop) (z : Nat) (fuel : Nat) (listed : Array Bool) (a : Act) (w : World) (rs : List Nat) : Prop :=
  ∀ i ∈ rs, wpOp P ops Q i (fun a' w' => (i ≠ z → S w') ∧ wpLast P md ops Q S z fuel (listed.setIfInBounds i true) a' w') a w
theorem LastReady.nil {fuel : Nat} {listed : Array Bool} {a : Act} {w : World} : LastReady P md ops Q S z fuel listed a w [] := fun _ h => by cases h
theorem LastReady.cons {fuel : Nat} {listed : Array Bool} {a : Act} {w : World} {i : Nat} {o : Oper} {rs : List Nat} (ho : ops[i]? = some o)
    (h : ∀ K' : Act → World → Prop, Shut (∀ a w, (i ≠ z → S w) → ((i ≠ z → S w) → wpLast P md ops Q S z fuel (listed.setIfInBounds i true) a w) → K' a w) → if Region.wanted o (yielded ops a.tmps) = true then Oper.wp P o a w K' Q else K' (a.put o.dst undef) w)
    (hs : LastReady P md ops Q S z fuel listed a w rs) : LastReady P md ops Q S z fuel listed a w (i :: rs) := fun j hj => by
  rcases List.mem_cons.1 hj with rfl | hj
  · exact wpOp_step ho (fun K' hK => h K' (fun a w hS hW => hK a w ⟨hS, hW hS⟩))
  · exact hs j hj
end
end Go.Proofs.Ytbbnojfecmocgaa
namespace Go.Proofs.Ytbbnojfecmocgaa
open Go.RowKit
set_option linter.unusedVariables false
set_option linter.unusedSimpArgs false
theorem take_filterA {α : Type} (l : List α) (p : α → Bool) (m : Nat) (h : m < l.length) : (l.take (m + 1)).filter p = (l.take m).filter p ++ (if p l[m] = true then [l[m]] else []) := by
  rw [List.take_succ_eq_append_getElem h, List.filter_append]
  congr 1
  cases hp : p l[m] <;> simp [hp]
end Go.Proofs.Ytbbnojfecmocgaa
namespace Go.Proofs.Ytbbnojfecmocgaa
open Go.RowKit
set_option linter.unusedVariables false
set_option linter.unusedSimpArgs false
theorem infoTl : (Try.prog.info? 37).map (fun i => (i.zero, i.size, i.bytes)) = some (some (.agg #[.int .i64 0, .int .i64 0, .int .i64 0]), 3, 24) := by kernel_rfl
theorem tooLong_no {a : Option Addr} {n c : Nat} (h : n ≤ 64) (w : World) : Calls Try.prog 38 #[.slice a n c] w fun e w' => e = .returned (.bool false) ∧ w = w' := by
  have d : decide ((64 : Int) < n) = false := decide_eq_false (by omega)
  go_enter Try.func38, Try.ntmps38
  go_wp2
  go_ret
  exact ⟨rfl, rfl⟩
set_option maxRecDepth 100000 in
set_option maxHeartbeats 1600000 in
theorem round_any {B : Nat} {v : Value} {L : List Tl} {k d b : Int} (w : World) (h : ListE encT 3 B w v L) (hB : B ≤ w.heap.size) (hl : L.length ≤ 64) : Calls Try.prog 37 #[.agg #[.int .i64 k], v, .agg #[.int .i64 d, .int .i64 b]] w fun e w' => ∃ a, e = .returned a ∧ RowE encT 3 w' w.heap.size 37 a (bsT k d b L) ∧ Below w.heap.size w w' := by
  obtain ⟨va, cap, rfl, hform⟩ := h.form
  obtain ⟨w0, hw0⟩ : ∃ w0, w0 = (w.alloc (.cells #[.int .i64 k] 26)).alloc (.cells #[.int .i64 d, .int .i64 b] 35) := ⟨_, rfl⟩
  have hs0 : Since w w0 := by rw [hw0]; exact ((Since.refl w).alloc _).alloc _
  have wh0 : Whole w0 (w.heap.size) 26 #[.int .i64 k] := by rw [hw0]; exact (Whole.new w _ _).alloc _
  have wh1 : Whole w0 (w.heap.size + 1) 35 #[.int .i64 d, .int .i64 b] := by rw [hw0]; exact (Whole.new (w.alloc _) _ _).at_ (by simp)
  have HW := Lib.hid hw0
  have c0_0 := box_cell wh0 0 (.int .i64 k) rfl
  have c1_0 := box_cell wh1 0 (.int .i64 d) rfl
  have c1_1 := box_cell wh1 1 (.int .i64 b) rfl
  have hsr := Since.refl w0
  have hsd := hsr.drew
  clear hw0 wh0 wh1
  have hB0 : B ≤ w0.heap.size := Nat.le_trans hB hs0.size_
  have h0 := h.since hs0 hB
  go_enter Try.func37, Try.ntmps37
  go_wp2_with fail
  rw [← HW.out]
  go_wp2_with (go_at_call 38; (with_reducible refine (tooLong_no hl _).mono ?_); rintro e wn ⟨rfl, rfl⟩)
  go_loopw [7, 14] (fun out i wr => ∃ m : Nat, i = .int .i64 m ∧ m ≤ L.length ∧ RowE encT 3 wr w0.heap.size 37 out (bsT k d b (L.take m)) ∧ Since w0 wr) (fun _ i _ => L.length - (intOf i).toNat)
  case atStart => exact ⟨0, rfl, Nat.zero_le _, RowE.nil _ _ _, Since.refl w0⟩
  case round =>
    obtain ⟨m, rfl, hm, hrow, hs⟩ := hrel
    have hm100 : (m : Int) ≤ 100 := by omega
    by_cases hlt : m < L.length
    · obtain ⟨g, rfl, hg⟩ := hform m hlt
      have hls := h0.since hs hB0
      have htk : bsT k d b (L.take (m + 1)) = _ := take_filterA L (fun s => besB k d b s.d s.b) m hlt
      have hll : (bsT k d b (L.take m)).length ≤ 64 := by
        have := List.length_filter_le (fun s : Tl => besB k d b s.d s.b) (L.take m)
        have := List.length_take_le m L
        unfold bsT
        omega
      obtain ⟨⟨td, tb, tw⟩, hr⟩ : ∃ ρ, L[m] = ρ := ⟨_, rfl⟩
      have t1 := hls.at_ hlt 0 (u := .int .i64 td) (by rw [hr]; rfl)
      have t2 := hls.at_ hlt 1 (u := .int .i64 tb) (by rw [hr]; rfl)
      have t3 := hls.at_ hlt 2 (u := .int .i64 tw) (by rw [hr]; rfl)
      rw [Nat.add_zero] at t1
      rw [hr] at htk
      change _ = bsT k d b (L.take m) ++ _ at htk
      obtain ⟨l, hlq⟩ : ∃ l, bsT k d b (L.take m) = l := ⟨_, rfl⟩
      rw [hlq] at hrow hll htk
      obtain ⟨E, hE⟩ : ∃ E, besB k d b td tb = E := ⟨_, rfl⟩
      dsimp only at htk
      rw [hE] at htk
      have HT := Lib.hid htk
      have HE := Lib.hid hE
      have hwa : Since wr (wr.alloc (.cells #[.int .i64 td, .int .i64 tb, .int .i64 tw] 37)) := (Since.refl wr).alloc _
      have hwa0 := hs.trans hwa
      have d1 : decide ((m : Int) < L.length) = true := decide_eq_true (by omega)
      clear htk hlq hE hr hform hls h h0
      cases E
      · rw [if_neg Bool.false_ne_true, List.append_nil] at HT
        go_wp2_with (go_at_call 11; (with_reducible refine (bBeside_at HE.out _).mono ?_); rintro e w5 ⟨rfl, hb5⟩; have hS5 : Since wr w5 := Since.trans hwa hb5; have wN := (Whole.new wr 37 #[.int .i64 td, .int .i64 tb, .int .i64 tw]).below hb5 (by simp); have n1 := wN.cell 0; have n2 := wN.cell 1; have n3 := wN.cell 2; have hrow5 := hrow.since hS5; have hs5 := hs.trans hS5; clear t1 t2 t3 c0_0 c1_0 c1_1 hwa)
        go_roundw
        case rel => exact ⟨m + 1, by go_num, by omega, by rw [HT.out]; exact hrow5, hs5⟩
        case measure => simp [intOf]; omega
      · rw [if_pos rfl] at HT
        go_wp2_with (first | (go_at_call 11; (with_reducible refine (bBeside_at HE.out _).mono ?_); rintro e w5 ⟨rfl, hb5⟩; have hS5 : Since wr w5 := Since.trans hwa hb5; have wN := (Whole.new wr 37 #[.int .i64 td, .int .i64 tb, .int .i64 tw]).below hb5 (by simp); have n1 := wN.cell 0; have n2 := wN.cell 1; have n3 := wN.cell 2; have hrow5 := hrow.since hS5; have hs5 := hs.trans hS5; clear t1 t2 t3 c0_0 c1_0 c1_1 hwa) | (at_builtin; refine wpList_append_e rfl _ _ 30 rfl w0.heap.size 37 _ 24 Try.underlying30 infoTl rfl (by decide) hrow5 ⟨td, tb, tw⟩ rfl rfl (by simp [encT, Value.oneCell']) rfl rfl (by omega) (by decide) hs5 (Nat.le_refl _) hs5.size_ ?_; intro v' w7 hrow2 hs2 hk))
        go_roundw
        case rel => exact ⟨m + 1, by go_num, by omega, by rw [HT.out]; exact hrow2, hs2⟩
        case measure => simp [intOf]; omega
    · obtain rfl : m = L.length := by omega
      have d1 : decide ((L.length : Int) < L.length) = false := decide_eq_false (by omega)
      rw [List.take_of_length_le (Nat.le_refl _)] at hrow
      go_wp2_with fail
      go_ret
      exact ⟨_, rfl, hrow.mono hs0.size_, hs0.trans hs⟩
end Go.Proofs.Ytbbnojfecmocgaa
