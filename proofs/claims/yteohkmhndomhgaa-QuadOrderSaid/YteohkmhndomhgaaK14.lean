/- Trees of quarters: their nodes in memory; which quarter has a cell. -/
import Derived.Test.YteohkmhndomhgaaK03
import Derived.Test.YteohkmhndomhgaaK04
import Derived.Test.YteohkmhndomhgaaK13
namespace Go.Proofs.Yteohkmhndomhgaa
open Go.RowKit
set_option linter.unusedVariables false
inductive QN where
  | nil
  | leaf (g : Nat) (v : Value) (a : Rc) (L : List Rq)
  | quad (g : Nat) (n : Nat) (a : Rc) (q : Nat → QN)
def QN.v : QN → Value
  | .nil => .pointer none
  | .leaf g _ _ _ => .pointer (some ⟨g, 0, none⟩)
  | .quad g _ _ _ => .pointer (some ⟨g, 0, none⟩)
def ownL (v : Value) : List Nat := match v.ownBlock with | some b => [b] | none => []
theorem ownL_mem {v : Value} {b : Nat} : b ∈ ownL v ↔ v.ownBlock = some b := by
  unfold ownL
  cases h : v.ownBlock with
  | none => simp
  | some c => simp [eq_comm]
def QN.bl : QN → List Nat
  | .nil => []
  | .leaf g v _ _ => g :: ownL v
  | .quad g _ _ q => g :: ((q 0).bl ++ ((q 1).bl ++ ((q 2).bl ++ (q 3).bl)))
/-- A node's cells. -/
def ncells (a : Rc) (n : Nat) (v : Value) (q : Nat → Value) : Array Value := #[.int .i64 a.x, .int .i64 a.y, .int .i64 a.w, .int .i64 a.h, .int .i64 (n : Nat), v, q 0, q 1, q 2, q 3]
def noQ : Nat → Value := fun _ => .pointer none
def QN.At (W : World) : QN → Prop
  | .nil => True
  | .leaf g v a L => Whole W g 68 (ncells a L.length v noQ) ∧ RowE encQ 5 W 0 42 v L
  | .quad g n a q => Whole W g 68 (ncells a n (.slice none 0 0) fun i => (q i).v) ∧ ∀ i, i < 4 → (q i).At W
theorem bl_quad {g n : Nat} {a : Rc} {q : Nat → QN} {b : Nat} : b ∈ (QN.quad g n a q).bl ↔ b = g ∨ ∃ i, i < 4 ∧ b ∈ (q i).bl := by
  simp only [QN.bl, List.mem_cons, List.mem_append]
  constructor
  · rintro (h | h | h | h | h)
    · exact .inl h
    · exact .inr ⟨0, by decide, h⟩
    · exact .inr ⟨1, by decide, h⟩
    · exact .inr ⟨2, by decide, h⟩
    · exact .inr ⟨3, by decide, h⟩
  · rintro (h | ⟨i, hi, h⟩)
    · exact .inl h
    · rcases (show i = 0 ∨ i = 1 ∨ i = 2 ∨ i = 3 by omega) with rfl | rfl | rfl | rfl
      · exact .inr (.inl h)
      · exact .inr (.inr (.inl h))
      · exact .inr (.inr (.inr (.inl h)))
      · exact .inr (.inr (.inr (.inr h)))
/-- The blocks of a tree are each in one place. -/
def QN.Sep : QN → Prop
  | .nil => True
  | .leaf g v _ _ => v.ownBlock ≠ some g
  | .quad g _ _ q => (∀ i, i < 4 → (q i).Sep ∧ g ∉ (q i).bl) ∧ ∀ i j, i < 4 → j < 4 → i ≠ j → ∀ b ∈ (q i).bl, b ∉ (q j).bl
theorem RowE.keepQ {α : Type} {enc : α → List Value} {n : Nat} {W W' : World} {base : Nat} {T : TypeId} {v : Value} {l : List α} (h : RowE enc n W base T v l) (hb : ∀ b, v.ownBlock = some b → W'.heap[b]? = W.heap[b]?) : RowE enc n W' base T v l := by
  obtain ⟨h0, h | ⟨g, cap, cur, rfl, a, b, rest⟩⟩ := h
  · exact ⟨h0, .inl h⟩
  · exact ⟨h0, .inr ⟨g, cap, cur, rfl, a, (hb g rfl).trans b, rest⟩⟩
theorem QN.At.keep {W W' : World} : ∀ {q : QN}, q.At W → (∀ b ∈ q.bl, W'.heap[b]? = W.heap[b]?) → q.At W'
  | .nil, _, _ => trivial
  | .leaf g v a L, ⟨h, hr⟩, hb => ⟨(hb g List.mem_cons_self).trans h, hr.keepQ (fun b e => hb b (List.mem_cons_of_mem _ (ownL_mem.2 e)))⟩
  | .quad g n a q, ⟨h, hq⟩, hb => ⟨(hb g (bl_quad.2 (.inl rfl))).trans h, fun i hi => (hq i hi).keep (fun b z => hb b (bl_quad.2 (.inr ⟨i, hi, z⟩)))⟩
theorem QN.At.lt {W : World} : ∀ {q : QN}, q.At W → ∀ b ∈ q.bl, b < W.heap.size
  | .nil, _, b, hb => by cases hb
  | .leaf g v a L, ⟨h, hr⟩, b, hb => by
    rcases List.mem_cons.1 hb with rfl | hb
    · exact Whole.lt h
    · exact (hr.own b (ownL_mem.1 hb)).2
  | .quad g n a q, ⟨h, hq⟩, b, hb => by
    rcases bl_quad.1 hb with rfl | ⟨i, hi, hb⟩
    · exact Whole.lt h
    · exact (hq i hi).lt b hb
theorem QN.At.off {F : Nat → Prop} {W W' : World} {q : QN} (h : q.At W) (ho : Off F W W') (hF : ∀ b ∈ q.bl, ¬ F b) : q.At W' := h.keep (fun b hb => ho.block b (h.lt b hb) (hF b hb))
theorem QN.At.since {W W' : World} {q : QN} (h : q.At W) (hs : Since W W') : q.At W' := h.keep (fun b hb => hs.block b (h.lt b hb))
def QN.isLeaf : QN → Bool
  | .quad .. => false
  | _ => true
def QN.area : QN → Rc
  | .nil => ⟨0, 0, 0, 0⟩
  | .leaf _ _ a _ => a
  | .quad _ _ a _ => a
def QN.isNil : QN → Bool
  | .nil => true
  | _ => false
/-- Does the node's rectangle have the cell? -/
def QN.hasC (q : QN) (x y : Int) : Bool := !q.isNil && hasR q.area x y
/-- A rectangle as they come: not empty, of the greatest torus. -/
structure Good (a : Rc) : Prop where
  x0 : 0 ≤ a.x
  y0 : 0 ≤ a.y
  w1 : 1 ≤ a.w
  h1 : 1 ≤ a.h
  x1 : a.x + a.w ≤ 65536
  y1 : a.y + a.h ≤ 65536
theorem Good.fine {a : Rc} (h : Good a) : fineR a = true := by
  unfold fineR
  have := h.x0; have := h.y0; have := h.w1; have := h.h1; have := h.x1; have := h.y1
  exact decide_eq_true (by omega)
theorem Good.has {a : Rc} (h : Good a) (x y : Int) : hasR a x y = true ↔ (a.x ≤ x ∧ x < a.x + a.w) ∧ (a.y ≤ y ∧ y < a.y + a.h) := by
  unfold hasR
  rw [h.fine]
  simp
  omega
/-- The quarters. -/
def qtr (a : Rc) (i : Nat) : Rc := ⟨a.x + ((i % 2 : Nat) : Int) * (a.w - a.w / 2), a.y + ((i / 2 : Nat) : Int) * (a.h - a.h / 2), if i % 2 = 0 then a.w - a.w / 2 else a.w / 2, if i / 2 = 0 then a.h - a.h / 2 else a.h / 2⟩
def qix (a : Rc) (x y : Int) : Nat := (if x < a.x + (a.w - a.w / 2) then 0 else 1) + (if y < a.y + (a.h - a.h / 2) then 0 else 2)
theorem qtr_good {a : Rc} (h : Good a) {i : Nat} (hi : i < 4) (hs : neR (qtr a i) = true) : Good (qtr a i) := by
  have h1 := h.x0; have h2 := h.y0; have h3 := h.w1; have h4 := h.h1; have h5 := h.x1; have h6 := h.y1
  unfold neR at hs
  have hs := of_decide_eq_true hs
  rcases (show i = 0 ∨ i = 1 ∨ i = 2 ∨ i = 3 by omega) with rfl | rfl | rfl | rfl <;> (simp [qtr] at hs ⊢; constructor <;> simp <;> omega)
theorem qtr_has {a : Rc} (h : Good a) {x y : Int} (hc : hasR a x y = true) {i : Nat} (hi : i < 4) : (neR (qtr a i) = true ∧ hasR (qtr a i) x y = true) ↔ i = qix a x y := by
  have hc := (h.has x y).1 hc
  have h3 := h.w1; have h4 := h.h1
  constructor
  · rintro ⟨hs, hh⟩
    have hh := ((qtr_good h hi hs).has x y).1 hh
    unfold qix
    rcases (show i = 0 ∨ i = 1 ∨ i = 2 ∨ i = 3 by omega) with rfl | rfl | rfl | rfl <;> (simp [qtr] at hh ⊢; (repeat' split) <;> omega)
  · intro e
    have hs : neR (qtr a i) = true := by
      unfold neR
      rw [decide_eq_true_iff]
      unfold qix at e
      rcases (show i = 0 ∨ i = 1 ∨ i = 2 ∨ i = 3 by omega) with rfl | rfl | rfl | rfl <;> (simp [qtr]; (repeat' split at e) <;> omega)
    refine ⟨hs, ((qtr_good h hi hs).has x y).2 ?_⟩
    unfold qix at e
    rcases (show i = 0 ∨ i = 1 ∨ i = 2 ∨ i = 3 by omega) with rfl | rfl | rfl | rfl <;> (simp [qtr]; (repeat' split at e) <;> omega)
theorem qix_lt (a : Rc) (x y : Int) : qix a x y < 4 := by unfold qix; (repeat' split) <;> omega
def inQ (a : Rc) (r : Rq) : Bool := hasR a r.x r.y
theorem inQ_cell (a : Rc) (r s : Rq) (h1 : r.x = s.x) (h2 : r.y = s.y) : inQ a r = inQ a s := by unfold inQ; rw [h1, h2]
/-- The tree of just these records. -/
def QN.Ok : QN → Rc → List Rq → Prop
  | .nil, a, L => neR a = false ∧ L = []
  | .leaf _ _ b M, a, L => b = a ∧ M = L ∧ neR a = true ∧ (4 < L.length → a.w * a.h ≤ 1)
  | .quad _ n b q, a, L => b = a ∧ n = L.length ∧ neR a = true ∧ 4 < L.length ∧ 1 < a.w * a.h ∧ ∀ i, i < 4 → (q i).Ok (qtr a i) (L.filter (inQ (qtr a i)))
theorem QN.Ok.nil_iff {q : QN} {a : Rc} {L : List Rq} (h : q.Ok a L) : q.isNil = !neR a := by
  cases q with
  | nil => rw [h.1]; rfl
  | leaf g v b M => rw [h.2.2.1]; rfl
  | quad g n b q => rw [h.2.2.1]; rfl
theorem QN.Ok.area_eq {q : QN} {a : Rc} {L : List Rq} (h : q.Ok a L) (hs : neR a = true) : q.area = a := by
  cases q with
  | nil => rw [h.1] at hs; cases hs
  | leaf g v b M => exact h.1
  | quad g n b q => exact h.1
theorem QN.Ok.hasC {q : QN} {a : Rc} {L : List Rq} (h : q.Ok a L) (x y : Int) : q.hasC x y = (neR a && hasR a x y) := by
  unfold QN.hasC
  rw [h.nil_iff, Bool.not_not]
  cases hs : neR a with
  | false => rfl
  | true => rw [h.area_eq hs]
/-- Just one quarter has the cell. -/
theorem pick_one {q : Nat → QN} {a : Rc} {L : Nat → List Rq} (h : ∀ i, i < 4 → (q i).Ok (qtr a i) (L i)) (hg : Good a) {x y : Int} (hc : hasR a x y = true) (i : Nat) (hi : i < 4) : (q i).hasC x y = decide (i = qix a x y) := by
  rw [(h i hi).hasC, Bool.eq_iff_iff, Bool.and_eq_true, decide_eq_true_iff]
  exact qtr_has hg hc hi
theorem qtr0_ne {a : Rc} (h : Good a) : neR (qtr a 0) = true := by
  have h3 := h.w1; have h4 := h.h1
  unfold neR
  rw [decide_eq_true_iff]
  simp [qtr]
  omega
theorem qtr_less {a : Rc} (h : Good a) (h1 : 1 < a.w * a.h) {i : Nat} (hi : i < 4) : (qtr a i).w + (qtr a i).h < a.w + a.h := by
  have h3 := h.w1; have h4 := h.h1
  have hwh : 2 ≤ a.w ∨ 2 ≤ a.h := by
    by_cases c : 2 ≤ a.w
    · exact .inl c
    · refine .inr ?_
      rw [show a.w = 1 by omega, Int.one_mul] at h1
      omega
  rcases (show i = 0 ∨ i = 1 ∨ i = 2 ∨ i = 3 by omega) with rfl | rfl | rfl | rfl <;> (simp [qtr]; omega)
end Go.Proofs.Yteohkmhndomhgaa
