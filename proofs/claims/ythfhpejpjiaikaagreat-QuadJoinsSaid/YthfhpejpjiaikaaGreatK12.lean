/- Trees of quarters: their nodes in memory; which quarter has a cell. quad's nodes: isLeaf, crowded, halved, quarterOf. -/
import Derived.Test.YthfhpejpjiaikaaGreatK05
import Derived.Test.YthfhpejpjiaikaaGreatK06
import Derived.Test.YthfhpejpjiaikaaGreatK09
import Derived.Deep.Cut
import Derived.Deep.CutRange
import Derived.StillTailTactics
namespace Go.Proofs.YthfhpejpjiaikaaGreat
open Go.RowKit
set_option linter.unusedVariables false
inductive QN where
  | nil
  | leaf (g : Nat) (v : Value) (a : Rc) (L : List Rq)
  | quad (g : Nat) (n : Nat) (a : Rc) (q : Nat → QN)
def QN.v : QN → Value
  | .nil => .pointer none
  | .leaf g _ _ _ => .pointer (some ⟨g, 0, none⟩)
  | .quad g _ _ _ => .pointer (some ⟨g, 0, none⟩)
def ownL (v : Value) : List Nat := match v.ownBlock with | some b => [b] | none => []
theorem ownL_mem {v : Value} {b : Nat} : b ∈ ownL v ↔ v.ownBlock = some b := by
  unfold ownL
  cases h : v.ownBlock with
  | none => simp
  | some c => simp [eq_comm]
def QN.bl : QN → List Nat
  | .nil => []
  | .leaf g v _ _ => g :: ownL v
  | .quad g _ _ q => g :: ((q 0).bl ++ ((q 1).bl ++ ((q 2).bl ++ (q 3).bl)))
/-- A node's cells. -/
def ncells (a : Rc) (n : Nat) (v : Value) (q : Nat → Value) : Array Value := #[.int .i64 a.x, .int .i64 a.y, .int .i64 a.w, .int .i64 a.h, .int .i64 (n : Nat), v, q 0, q 1, q 2, q 3]
def noQ : Nat → Value := fun _ => .pointer none
def QN.At (W : World) : QN → Prop
  | .nil => True
  | .leaf g v a L => Whole W g 71 (ncells a L.length v noQ) ∧ RowE encQ 5 W 0 55 v L
  | .quad g n a q => Whole W g 71 (ncells a n (.slice none 0 0) fun i => (q i).v) ∧ ∀ i, i < 4 → (q i).At W
theorem bl_quad {g n : Nat} {a : Rc} {q : Nat → QN} {b : Nat} : b ∈ (QN.quad g n a q).bl ↔ b = g ∨ ∃ i, i < 4 ∧ b ∈ (q i).bl := by
  simp only [QN.bl, List.mem_cons, List.mem_append]
  constructor
  · rintro (h | h | h | h | h)
    · exact .inl h
    · exact .inr ⟨0, by decide, h⟩
    · exact .inr ⟨1, by decide, h⟩
    · exact .inr ⟨2, by decide, h⟩
    · exact .inr ⟨3, by decide, h⟩
  · rintro (h | ⟨i, hi, h⟩)
    · exact .inl h
    · rcases (show i = 0 ∨ i = 1 ∨ i = 2 ∨ i = 3 by omega) with rfl | rfl | rfl | rfl
      · exact .inr (.inl h)
      · exact .inr (.inr (.inl h))
      · exact .inr (.inr (.inr (.inl h)))
      · exact .inr (.inr (.inr (.inr h)))
/-- The blocks of a tree are each in one place. -/
def QN.Sep : QN → Prop
  | .nil => True
  | .leaf g v _ _ => v.ownBlock ≠ some g
  | .quad g _ _ q => (∀ i, i < 4 → (q i).Sep ∧ g ∉ (q i).bl) ∧ ∀ i j, i < 4 → j < 4 → i ≠ j → ∀ b ∈ (q i).bl, b ∉ (q j).bl
theorem RowE.keepQ {α : Type} {enc : α → List Value} {n : Nat} {W W' : World} {base : Nat} {T : TypeId} {v : Value} {l : List α} (h : RowE enc n W base T v l) (hb : ∀ b, v.ownBlock = some b → W'.heap[b]? = W.heap[b]?) : RowE enc n W' base T v l := by
  obtain ⟨h0, h | ⟨g, cap, cur, rfl, a, b, rest⟩⟩ := h
  · exact ⟨h0, .inl h⟩
  · exact ⟨h0, .inr ⟨g, cap, cur, rfl, a, (hb g rfl).trans b, rest⟩⟩
theorem QN.At.keep {W W' : World} : ∀ {q : QN}, q.At W → (∀ b ∈ q.bl, W'.heap[b]? = W.heap[b]?) → q.At W'
  | .nil, _, _ => trivial
  | .leaf g v a L, ⟨h, hr⟩, hb => ⟨(hb g List.mem_cons_self).trans h, hr.keepQ (fun b e => hb b (List.mem_cons_of_mem _ (ownL_mem.2 e)))⟩
  | .quad g n a q, ⟨h, hq⟩, hb => ⟨(hb g (bl_quad.2 (.inl rfl))).trans h, fun i hi => (hq i hi).keep (fun b z => hb b (bl_quad.2 (.inr ⟨i, hi, z⟩)))⟩
theorem QN.At.lt {W : World} : ∀ {q : QN}, q.At W → ∀ b ∈ q.bl, b < W.heap.size
  | .nil, _, b, hb => by cases hb
  | .leaf g v a L, ⟨h, hr⟩, b, hb => by
    rcases List.mem_cons.1 hb with rfl | hb
    · exact Whole.lt h
    · exact (hr.own b (ownL_mem.1 hb)).2
  | .quad g n a q, ⟨h, hq⟩, b, hb => by
    rcases bl_quad.1 hb with rfl | ⟨i, hi, hb⟩
    · exact Whole.lt h
    · exact (hq i hi).lt b hb
theorem QN.At.off {F : Nat → Prop} {W W' : World} {q : QN} (h : q.At W) (ho : Off F W W') (hF : ∀ b ∈ q.bl, ¬ F b) : q.At W' := h.keep (fun b hb => ho.block b (h.lt b hb) (hF b hb))
theorem QN.At.since {W W' : World} {q : QN} (h : q.At W) (hs : Since W W') : q.At W' := h.keep (fun b hb => hs.block b (h.lt b hb))
def QN.isLeaf : QN → Bool
  | .quad .. => false
  | _ => true
def QN.area : QN → Rc
  | .nil => ⟨0, 0, 0, 0⟩
  | .leaf _ _ a _ => a
  | .quad _ _ a _ => a
def QN.isNil : QN → Bool
  | .nil => true
  | _ => false
/-- Does the node's rectangle have the cell? -/
def QN.hasC (q : QN) (x y : Int) : Bool := !q.isNil && hasR q.area x y
/-- A rectangle as they come: not empty, of the greatest torus. -/
structure Good (a : Rc) : Prop where
  x0 : 0 ≤ a.x
  y0 : 0 ≤ a.y
  w1 : 1 ≤ a.w
  h1 : 1 ≤ a.h
  x1 : a.x + a.w ≤ 65536
  y1 : a.y + a.h ≤ 65536
theorem Good.fine {a : Rc} (h : Good a) : fineR a = true := by
  unfold fineR
  have := h.x0; have := h.y0; have := h.w1; have := h.h1; have := h.x1; have := h.y1
  exact decide_eq_true (by omega)
theorem Good.has {a : Rc} (h : Good a) (x y : Int) : hasR a x y = true ↔ (a.x ≤ x ∧ x < a.x + a.w) ∧ (a.y ≤ y ∧ y < a.y + a.h) := by
  unfold hasR
  rw [h.fine]
  simp
  omega
/-- The quarters. -/
def qtr (a : Rc) (i : Nat) : Rc := ⟨a.x + ((i % 2 : Nat) : Int) * (a.w - a.w / 2), a.y + ((i / 2 : Nat) : Int) * (a.h - a.h / 2), if i % 2 = 0 then a.w - a.w / 2 else a.w / 2, if i / 2 = 0 then a.h - a.h / 2 else a.h / 2⟩
def qix (a : Rc) (x y : Int) : Nat := (if x < a.x + (a.w - a.w / 2) then 0 else 1) + (if y < a.y + (a.h - a.h / 2) then 0 else 2)
theorem qtr_good {a : Rc} (h : Good a) {i : Nat} (hi : i < 4) (hs : neR (qtr a i) = true) : Good (qtr a i) := by
  have h1 := h.x0; have h2 := h.y0; have h3 := h.w1; have h4 := h.h1; have h5 := h.x1; have h6 := h.y1
  unfold neR at hs
  have hs := of_decide_eq_true hs
  rcases (show i = 0 ∨ i = 1 ∨ i = 2 ∨ i = 3 by omega) with rfl | rfl | rfl | rfl <;> (simp [qtr] at hs ⊢; constructor <;> simp <;> omega)
theorem qtr_has {a : Rc} (h : Good a) {x y : Int} (hc : hasR a x y = true) {i : Nat} (hi : i < 4) : (neR (qtr a i) = true ∧ hasR (qtr a i) x y = true) ↔ i = qix a x y := by
  have hc := (h.has x y).1 hc
  have h3 := h.w1; have h4 := h.h1
  constructor
  · rintro ⟨hs, hh⟩
    have hh := ((qtr_good h hi hs).has x y).1 hh
    unfold qix
    rcases (show i = 0 ∨ i = 1 ∨ i = 2 ∨ i = 3 by omega) with rfl | rfl | rfl | rfl <;> (simp [qtr] at hh ⊢; (repeat' split) <;> omega)
  · intro e
    have hs : neR (qtr a i) = true := by
      unfold neR
      rw [decide_eq_true_iff]
      unfold qix at e
      rcases (show i = 0 ∨ i = 1 ∨ i = 2 ∨ i = 3 by omega) with rfl | rfl | rfl | rfl <;> (simp [qtr]; (repeat' split at e) <;> omega)
    refine ⟨hs, ((qtr_good h hi hs).has x y).2 ?_⟩
    unfold qix at e
    rcases (show i = 0 ∨ i = 1 ∨ i = 2 ∨ i = 3 by omega) with rfl | rfl | rfl | rfl <;> (simp [qtr]; (repeat' split at e) <;> omega)
theorem qix_lt (a : Rc) (x y : Int) : qix a x y < 4 := by unfold qix; (repeat' split) <;> omega
def inQ (a : Rc) (r : Rq) : Bool := hasR a r.x r.y
theorem inQ_cell (a : Rc) (r s : Rq) (h1 : r.x = s.x) (h2 : r.y = s.y) : inQ a r = inQ a s := by unfold inQ; rw [h1, h2]
/-- The tree of just these records. -/
def QN.Ok : QN → Rc → List Rq → Prop
  | .nil, a, L => neR a = false ∧ L = []
  | .leaf _ _ b M, a, L => b = a ∧ M = L ∧ neR a = true ∧ (4 < L.length → a.w * a.h ≤ 1)
  | .quad _ n b q, a, L => b = a ∧ n = L.length ∧ neR a = true ∧ 4 < L.length ∧ 1 < a.w * a.h ∧ ∀ i, i < 4 → (q i).Ok (qtr a i) (L.filter (inQ (qtr a i)))
theorem QN.Ok.nil_iff {q : QN} {a : Rc} {L : List Rq} (h : q.Ok a L) : q.isNil = !neR a := by
  cases q with
  | nil => rw [h.1]; rfl
  | leaf g v b M => rw [h.2.2.1]; rfl
  | quad g n b q => rw [h.2.2.1]; rfl
theorem QN.Ok.area_eq {q : QN} {a : Rc} {L : List Rq} (h : q.Ok a L) (hs : neR a = true) : q.area = a := by
  cases q with
  | nil => rw [h.1] at hs; cases hs
  | leaf g v b M => exact h.1
  | quad g n b q => exact h.1
theorem QN.Ok.hasC {q : QN} {a : Rc} {L : List Rq} (h : q.Ok a L) (x y : Int) : q.hasC x y = (neR a && hasR a x y) := by
  unfold QN.hasC
  rw [h.nil_iff, Bool.not_not]
  cases hs : neR a with
  | false => rfl
  | true => rw [h.area_eq hs]
/-- Just one quarter has the cell. -/
theorem pick_one {q : Nat → QN} {a : Rc} {L : Nat → List Rq} (h : ∀ i, i < 4 → (q i).Ok (qtr a i) (L i)) (hg : Good a) {x y : Int} (hc : hasR a x y = true) (i : Nat) (hi : i < 4) : (q i).hasC x y = decide (i = qix a x y) := by
  rw [(h i hi).hasC, Bool.eq_iff_iff, Bool.and_eq_true, decide_eq_true_iff]
  exact qtr_has hg hc hi
theorem qtr0_ne {a : Rc} (h : Good a) : neR (qtr a 0) = true := by
  have h3 := h.w1; have h4 := h.h1
  unfold neR
  rw [decide_eq_true_iff]
  simp [qtr]
  omega
theorem qtr_less {a : Rc} (h : Good a) (h1 : 1 < a.w * a.h) {i : Nat} (hi : i < 4) : (qtr a i).w + (qtr a i).h < a.w + a.h := by
  have h3 := h.w1; have h4 := h.h1
  have hwh : 2 ≤ a.w ∨ 2 ≤ a.h := by
    by_cases c : 2 ≤ a.w
    · exact .inl c
    · refine .inr ?_
      rw [show a.w = 1 by omega, Int.one_mul] at h1
      omega
  rcases (show i = 0 ∨ i = 1 ∨ i = 2 ∨ i = 3 by omega) with rfl | rfl | rfl | rfl <;> (simp [qtr]; omega)
end Go.Proofs.YthfhpejpjiaikaaGreat
namespace Go.Proofs.YthfhpejpjiaikaaGreat
open Go.RowKit
set_option linter.unusedVariables false
set_option linter.unusedSimpArgs false
theorem QN.v_ptr (q : QN) : ∃ o, q.v = .pointer o ∧ o.isNone = q.isNil := by
  cases q with
  | nil => exact ⟨none, rfl, rfl⟩
  | leaf g v a L => exact ⟨some ⟨g, 0, none⟩, rfl, rfl⟩
  | quad g n a q => exact ⟨some ⟨g, 0, none⟩, rfl, rfl⟩
theorem eq_quarters (o0 o1 o2 o3 : Option Addr) (W : World) : (Op.equalIn 10000 69 (.agg #[.pointer o0, .pointer o1, .pointer o2, .pointer o3]) (.agg #[.pointer none, .pointer none, .pointer none, .pointer none])).run Tryz.prog W = .ok (o0.isNone && (o1.isNone && (o2.isNone && o3.isNone))) W := by
  cases o0 <;> cases o1 <;> cases o2 <;> cases o3 <;> kernel_rfl
set_option maxRecDepth 100000 in
theorem isLeafN_yes {g : Nat} {v : Value} {a : Rc} {L : List Rq} {W : World} (h : (QN.leaf g v a L).At W) : Calls Tryz.prog 51 #[.pointer (some ⟨g, 0, none⟩)] W fun e w' => e = .returned (.bool true) ∧ W = w' := by
  have hw : Whole W g 71 #[.int .i64 a.x, .int .i64 a.y, .int .i64 a.w, .int .i64 a.h, .int .i64 (L.length : Nat), v, .pointer none, .pointer none, .pointer none, .pointer none] := h.1
  have h0 := hw.cell 6
  have h1 := hw.cell 7
  have h2 := hw.cell 8
  have h3 := hw.cell 9
  have he := eq_quarters none none none none
  clear h hw
  go_enter Tryz.func51, Tryz.ntmps51
  go_wp2
  go_ret
  exact ⟨rfl, rfl⟩
set_option maxRecDepth 100000 in
theorem isLeafN_no {g n : Nat} {a : Rc} {q : Nat → QN} {W : World} (h : (QN.quad g n a q).At W) (hn : (q 0).isNil = false) : Calls Tryz.prog 51 #[.pointer (some ⟨g, 0, none⟩)] W fun e w' => e = .returned (.bool false) ∧ W = w' := by
  have hw : Whole W g 71 #[.int .i64 a.x, .int .i64 a.y, .int .i64 a.w, .int .i64 a.h, .int .i64 (n : Nat), .slice none 0 0, (q 0).v, (q 1).v, (q 2).v, (q 3).v] := h.1
  obtain ⟨o0, e0, i0⟩ := (q 0).v_ptr
  obtain ⟨o1, e1, i1⟩ := (q 1).v_ptr
  obtain ⟨o2, e2, i2⟩ := (q 2).v_ptr
  obtain ⟨o3, e3, i3⟩ := (q 3).v_ptr
  rw [e0, e1, e2, e3] at hw
  have h0 := hw.cell 6
  have h1 := hw.cell 7
  have h2 := hw.cell 8
  have h3 := hw.cell 9
  have he : ∀ W, (Op.equalIn 10000 69 (.agg #[.pointer o0, .pointer o1, .pointer o2, .pointer o3]) (.agg #[.pointer none, .pointer none, .pointer none, .pointer none])).run Tryz.prog W = .ok false W := fun W => by
    rw [eq_quarters, i0, hn]; rfl
  clear h hw i0 i1 i2 i3 e0 e1 e2 e3
  go_enter Tryz.func51, Tryz.ntmps51
  go_wp2
  go_ret
  exact ⟨rfl, rfl⟩
set_option maxRecDepth 100000 in
set_option maxHeartbeats 800000 in
theorem crowded_any {g n : Nat} {a : Rc} {W : World} {cs : Array Value} (h : Whole W g 71 cs) (h0 : cs[0]? = some (.int .i64 a.x)) (h1 : cs[1]? = some (.int .i64 a.y)) (h2 : cs[2]? = some (.int .i64 a.w)) (h3 : cs[3]? = some (.int .i64 a.h)) (h4 : cs[4]? = some (.int .i64 (n : Nat))) (ha : Good a) :
    Calls Tryz.prog 76 #[.pointer (some ⟨g, 0, none⟩)] W fun e w' => e = .returned (.bool (decide (4 < n ∧ 1 < a.w * a.h))) ∧ Below W.heap.size W w' := by
  have c0 := (h.cell 0).trans h0
  have c1 := (h.cell 1).trans h1
  have c2 := (h.cell 2).trans h2
  have c3 := (h.cell 3).trans h3
  have c4 := (h.cell 4).trans h4
  have hA : areaR ⟨a.x, a.y, a.w, a.h⟩ = a.w * a.h := by unfold areaR; rw [show fineR ⟨a.x, a.y, a.w, a.h⟩ = true from ha.fine]; rfl
  obtain ⟨A, hA2⟩ : ∃ A, a.w * a.h = A := ⟨_, rfl⟩
  rw [hA2] at hA ⊢
  have HA := Lib.hid hA
  clear h h0 h1 h2 h3 h4 hA hA2
  by_cases hn : 4 < n
  · have d1 : decide ((4 : Int) < n) = true := decide_eq_true (by omega)
    have HR := Lib.hid (show decide (4 < n ∧ 1 < A) = decide (1 < A) by simp [hn])
    go_enter Tryz.func76, Tryz.ntmps76
    go_wp2_with (go_at_call 86; (with_reducible refine (wArea_at HA.out _).mono ?_); rintro e w1 ⟨rfl, hb1⟩)
    go_ret
    exact ⟨by rw [HR.out]; rfl, hb1⟩
  · have d1 : decide ((4 : Int) < n) = false := decide_eq_false (by omega)
    have HR := Lib.hid (show decide (4 < n ∧ 1 < A) = false by simp [hn])
    go_enter Tryz.func76, Tryz.ntmps76
    go_wp2
    go_ret
    exact ⟨by rw [HR.out]; rfl, Below.refl _ _⟩
set_option maxRecDepth 100000 in
theorem halved_any {n a b : Int} (h0 : 0 ≤ n) (h1 : n ≤ 65536) (ha : n - n / 2 = a) (hb : n / 2 = b) (w : World) : Calls Tryz.prog 104 #[.int .i64 n] w fun e w' => e = .returned (.agg #[.int .i64 a, .int .i64 b]) ∧ Below w.heap.size w w' := by
  have ht : n.tdiv 2 = b := by rw [Int.tdiv_eq_ediv_of_nonneg h0]; exact hb
  have hw1 : IntKind.i64.wrap b = b := IntWalk.i64_in _ (by omega)
  have hw2 : IntKind.i64.wrap (n - b) = a := by rw [IntWalk.i64_in _ (by omega)]; omega
  have hx := Whole.new w 145 #[.int .i64 0, .int .i64 0]
  have x0 := hx.cell 0
  have x1 := hx.cell 1
  have y0 := hx.frozen 0
  have y1 := hx.frozen 1
  clear ha hb hx
  go_enter Tryz.func104, Tryz.ntmps104
  go_wp2
  have u := Whole.new w 145 #[.int .i64 a, .int .i64 b]
  have u0 := u.cell 0
  have u1 := u.cell 1
  exact bodyPost_ret (v := .agg #[.int .i64 a, .int .i64 b]) (by simp [results, Tryz.results104, go_sem, u0, u1]) rfl ⟨rfl, (Below.refl _ w).alloc (Nat.le_refl _) _⟩
set_option maxRecDepth 100000 in
set_option maxHeartbeats 800000 in
/-- Has the quarter the cell? -/
theorem hasq_any {q : QN} {W : World} (h : q.At W) {x y : Int} {pb : Nat} (hp : Whole W pb 50 #[.int .i64 x, .int .i64 y]) {R : Bool} (hR : q.hasC x y = R) :
    Calls Tryz.prog 100 #[q.v, .pointer (some ⟨pb, 0, none⟩)] W fun e w' => e = .returned (.bool R) ∧ Below W.heap.size W w' := by
  have p0 := box_cell hp 0 _ rfl
  have p1 := box_cell hp 1 _ rfl
  have hsr := Since.refl W
  have hsd := hsr.drew
  cases hn : q.isNil with
  | true =>
    cases q with
    | nil =>
      obtain rfl : R = false := by rw [← hR]; rfl
      clear hR hp h
      simp only [QN.v]
      go_enter Tryz.func100, Tryz.ntmps100
      go_upto_region 1 with fail
      refine wp_region_held_drew (S := fun W' => Since W W') (by kernel_rfl) hsd (fun hHeld => ?_)
      refine wpAnyH_take (i := 0) (v := ?_) rfl (by kernel_rfl) (by kernel_rfl) (by kernel_rfl) (fun _ _ _ h => h) (Or.inl ⟨by rfl, ?_⟩) (by assumption) ?_
      rotate_left 1
      · (intro W hW; clear hW; go_simp; try with_reducible rfl)
      simp only [Act.put, List.getElem_toArray, List.getElem_cons_zero, List.setIfInBounds_toArray, List.set_cons_zero, List.set_cons_succ]
      refine wpAnyH_take (i := 1) (v := ?_) rfl (by kernel_rfl) (by kernel_rfl) (by kernel_rfl) (fun _ _ _ h => h) (Or.inl ⟨by rfl, ?_⟩) (by assumption) ?_
      rotate_left 1
      · (intro W hW; clear hW; go_simp; try with_reducible rfl)
      simp only [Act.put, List.getElem_toArray, List.getElem_cons_succ, List.getElem_cons_zero, List.setIfInBounds_toArray, List.set_cons_zero, List.set_cons_succ]
      refine wpAnyH_take (i := 2) (v := ?_) rfl (by kernel_rfl) (by kernel_rfl) (by kernel_rfl) (fun _ _ _ h => h) (Or.inl ⟨by rfl, ?_⟩) (by assumption) ?_
      rotate_left 1
      · (intro W hW; clear hW; go_simp; try with_reducible rfl)
      simp only [Act.put, List.getElem_toArray, List.getElem_cons_succ, List.getElem_cons_zero, List.setIfInBounds_toArray, List.set_cons_zero, List.set_cons_succ]
      refine wpAnyH_take (i := 3) (v := undef) rfl (by kernel_rfl) (by kernel_rfl) (by kernel_rfl) (fun _ _ _ h => h) (Or.inr ⟨by rfl, rfl⟩) (by assumption) ?_
      simp only [Act.put, List.getElem_toArray, List.getElem_cons_succ, List.getElem_cons_zero, List.setIfInBounds_toArray, List.set_cons_zero, List.set_cons_succ]
      refine wpAnyH_take (i := 4) (v := undef) rfl (by kernel_rfl) (by kernel_rfl) (by kernel_rfl) (fun _ _ _ h => h) (Or.inr ⟨by rfl, rfl⟩) (by assumption) ?_
      simp only [Act.put, List.getElem_toArray, List.getElem_cons_succ, List.getElem_cons_zero, List.setIfInBounds_toArray, List.set_cons_zero, List.set_cons_succ]
      refine wpAnyH_take (i := 5) (v := undef) rfl (by kernel_rfl) (by kernel_rfl) (by kernel_rfl) (fun _ _ _ h => h) (Or.inr ⟨by rfl, rfl⟩) (by assumption) ?_
      simp only [Act.put, List.getElem_toArray, List.getElem_cons_succ, List.getElem_cons_zero, List.setIfInBounds_toArray, List.set_cons_zero, List.set_cons_succ]
      refine wpAnyH_take (i := 6) (v := undef) rfl (by kernel_rfl) (by kernel_rfl) (by kernel_rfl) (fun _ _ _ h => h) (Or.inr ⟨by rfl, rfl⟩) (by assumption) ?_
      simp only [Act.put, List.getElem_toArray, List.getElem_cons_succ, List.getElem_cons_zero, List.setIfInBounds_toArray, List.set_cons_zero, List.set_cons_succ]
      refine wpAnyH_take (i := 7) (v := undef) rfl (by kernel_rfl) (by kernel_rfl) (by kernel_rfl) (fun _ _ _ h => h) (Or.inr ⟨by rfl, rfl⟩) (by assumption) ?_
      simp only [Act.put, List.getElem_toArray, List.getElem_cons_succ, List.getElem_cons_zero, List.setIfInBounds_toArray, List.set_cons_zero, List.set_cons_succ]
      refine wpAnyH_take (i := 8) (v := undef) rfl (by kernel_rfl) (by kernel_rfl) (by kernel_rfl) (fun _ _ _ h => h) (Or.inr ⟨by rfl, rfl⟩) (by assumption) ?_
      simp only [Act.put, List.getElem_toArray, List.getElem_cons_succ, List.getElem_cons_zero, List.setIfInBounds_toArray, List.set_cons_zero, List.set_cons_succ]
      refine wpAnyH_take (i := 9) (v := ?_) rfl (by kernel_rfl) (by kernel_rfl) (by kernel_rfl) (fun _ _ _ h => h) (Or.inl ⟨by rfl, ?_⟩) (by assumption) ?_
      rotate_left 1
      · (intro W hW; clear hW; go_simp; try with_reducible rfl)
      simp only [Act.put, List.getElem_toArray, List.getElem_cons_succ, List.getElem_cons_zero, List.setIfInBounds_toArray, List.set_cons_zero, List.set_cons_succ]
      refine wpAnyH_take (i := 10) (v := ?_) rfl (by kernel_rfl) (by kernel_rfl) (by kernel_rfl) (fun _ _ _ h => h) (Or.inl ⟨by rfl, ?_⟩) (by assumption) ?_
      rotate_left 1
      · (intro W hW; clear hW; go_simp; try with_reducible rfl)
      simp only [Act.put, List.getElem_toArray, List.getElem_cons_succ, List.getElem_cons_zero, List.setIfInBounds_toArray, List.set_cons_zero, List.set_cons_succ]
      refine wpAnyH_done (by kernel_rfl) ?_ _
      go_wp2_with fail
      go_ret
      exact ⟨rfl, hsd⟩
    | leaf g v a L => cases hn
    | quad g n a q => cases hn
  | false =>
    have hw : ∃ g cs, q.v = .pointer (some ⟨g, 0, none⟩) ∧ Whole W g 71 cs ∧ cs[0]? = some (.int .i64 q.area.x) ∧ cs[1]? = some (.int .i64 q.area.y) ∧ cs[2]? = some (.int .i64 q.area.w) ∧ cs[3]? = some (.int .i64 q.area.h) := by
      cases q with
      | nil => cases hn
      | leaf g v a L => exact ⟨g, _, rfl, h.1, rfl, rfl, rfl, rfl⟩
      | quad g n a q => exact ⟨g, _, rfl, h.1, rfl, rfl, rfl, rfl⟩
    obtain ⟨g, cs, e, hc, h0, h1, h2, h3⟩ := hw
    have hR2 : hasR ⟨q.area.x, q.area.y, q.area.w, q.area.h⟩ x y = R := by rw [← hR]; unfold QN.hasC; rw [hn]; rfl
    have c0 := box_cell hc 0 _ h0
    have c1 := box_cell hc 1 _ h1
    have c2 := box_cell hc 2 _ h2
    have c3 := box_cell hc 3 _ h3
    have HH := Lib.hid (fun w => hR2 ▸ wHas_any q.area.x q.area.y q.area.w q.area.h x y w)
    generalize q.area.x = ax, q.area.y = ay, q.area.w = aw, q.area.h = ah at *
    rw [e]
    clear hR hR2 hp h hn e hc h0 h1 h2 h3
    go_enter Tryz.func100, Tryz.ntmps100
    go_upto_region 1 with fail
    go_region_held3 (fun W' => Since W W') (first | assumption | exact Since.drew (by assumption)) ((first | (go_at_call 73; (with_reducible refine (Calls.since (by assumption) (HH.out _)).mono ?_); rintro e w5 ⟨rfl, hb5⟩)))
    go_wp2_with fail
    go_ret
    exact ⟨rfl, hb5⟩
end Go.Proofs.YthfhpejpjiaikaaGreat
