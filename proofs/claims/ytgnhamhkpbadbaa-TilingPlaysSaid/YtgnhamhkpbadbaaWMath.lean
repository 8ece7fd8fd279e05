/- Rectangles and windows in numbers: areas, what two have together, the plain ones of a window; nothing of the program. -/
import Derived.Test.YtgnhamhkpbadbaaTDist
namespace Go.Proofs.Ytgnhamhkpbadbaa
open Go.RowKit
/-- A rectangle. -/
structure Rc where
  x : Int
  y : Int
  w : Int
  h : Int
/-- Are its numbers from 0 to 2^30? -/
def fineR (r : Rc) : Bool := decide ((0 ≤ r.x ∧ r.x ≤ 1073741824) ∧ (0 ≤ r.y ∧ r.y ≤ 1073741824) ∧ (0 ≤ r.w ∧ r.w ≤ 1073741824) ∧ (0 ≤ r.h ∧ r.h ≤ 1073741824))
theorem fineR_iff (r : Rc) : fineR r = true ↔ (0 ≤ r.x ∧ r.x ≤ 1073741824) ∧ (0 ≤ r.y ∧ r.y ≤ 1073741824) ∧ (0 ≤ r.w ∧ r.w ≤ 1073741824) ∧ (0 ≤ r.h ∧ r.h ≤ 1073741824) := by unfold fineR; exact decide_eq_true_iff
def areaR (r : Rc) : Int := if fineR r = true then r.w * r.h else 0
def hasR (r : Rc) (a b : Int) : Bool := fineR r && decide (r.x ≤ a ∧ a < r.x + r.w ∧ r.y ≤ b ∧ b < r.y + r.h)
def zeroR : Rc := ⟨0, 0, 0, 0⟩
/-- What both have. -/
def meetR (a b : Rc) : Rc :=
  if fineR a = true ∧ fineR b = true ∧ 1 ≤ min (a.x + a.w) (b.x + b.w) - max a.x b.x ∧ 1 ≤ min (a.y + a.h) (b.y + b.h) - max a.y b.y then
    ⟨max a.x b.x, max a.y b.y, min (a.x + a.w) (b.x + b.w) - max a.x b.x, min (a.y + a.h) (b.y + b.h) - max a.y b.y⟩
  else zeroR
/-- May it be, of k? -/
def rightR (k : Int) (r : Rc) : Bool := decide (0 < side k ∧ 0 ≤ r.x ∧ r.x ≤ side k ∧ 0 ≤ r.y ∧ r.y ≤ side k ∧ 0 ≤ r.w ∧ r.w ≤ side k - r.x ∧ 0 ≤ r.h ∧ r.h ≤ side k - r.y)
theorem rightR_iff (k : Int) (r : Rc) : rightR k r = true ↔ 0 < side k ∧ 0 ≤ r.x ∧ r.x ≤ side k ∧ 0 ≤ r.y ∧ r.y ≤ side k ∧ 0 ≤ r.w ∧ r.w ≤ side k - r.x ∧ 0 ≤ r.h ∧ r.h ≤ side k - r.y := by unfold rightR; exact decide_eq_true_iff
/-- May it be a window, of k? -/
def winR (k : Int) (w : Rc) : Bool := decide (0 ≤ w.x ∧ w.x < side k ∧ 0 ≤ w.y ∧ w.y < side k ∧ 0 ≤ w.w ∧ w.w ≤ side k ∧ 0 ≤ w.h ∧ w.h ≤ side k)
theorem winR_iff (k : Int) (w : Rc) : winR k w = true ↔ 0 ≤ w.x ∧ w.x < side k ∧ 0 ≤ w.y ∧ w.y < side k ∧ 0 ≤ w.w ∧ w.w ≤ side k ∧ 0 ≤ w.h ∧ w.h ≤ side k := by unfold winR; exact decide_eq_true_iff
/-- Has it cells? -/
def neR (r : Rc) : Bool := decide (0 < r.w ∧ 0 < r.h)
theorem neR_iff (r : Rc) : neR r = true ↔ 0 < r.w ∧ 0 < r.h := by unfold neR; exact decide_eq_true_iff
/-- A window's four parts, the empty ones among them; its plain rectangles. -/
def partsR (k : Int) (w : Rc) : List Rc :=
  [⟨w.x, w.y, min w.w (side k - w.x), min w.h (side k - w.y)⟩, ⟨w.x, 0, min w.w (side k - w.x), w.h - min w.h (side k - w.y)⟩,
    ⟨0, w.y, w.w - min w.w (side k - w.x), min w.h (side k - w.y)⟩, ⟨0, 0, w.w - min w.w (side k - w.x), w.h - min w.h (side k - w.y)⟩]
def plainR (k : Int) (w : Rc) : List Rc := if winR k w = true then (partsR k w).filter neR else []
theorem plainR_yes {k : Int} {w : Rc} (h : winR k w = true) : plainR k w = (partsR k w).filter neR := if_pos h
theorem plainR_no {k : Int} {w : Rc} (h : winR k w = false) : plainR k w = [] := if_neg (by rw [h]; exact Bool.false_ne_true)
/-- A sum over a list. -/
def sumF (f : Rc → Int) : List Rc → Int
  | [] => 0
  | r :: l => f r + sumF f l
theorem sumF_app (f : Rc → Int) (l m : List Rc) : sumF f (l ++ m) = sumF f l + sumF f m := by
  induction l with
  | nil => exact (Int.zero_add _).symm
  | cons r l ih => show f r + sumF f (l ++ m) = f r + sumF f l + sumF f m; rw [ih]; omega
theorem sumF_filter (f : Rc → Int) (p : Rc → Bool) : ∀ l : List Rc, (∀ r ∈ l, p r = false → f r = 0) → sumF f (l.filter p) = sumF f l
  | [], _ => rfl
  | r :: l, h => by
    have ih := sumF_filter f p l (fun x hx => h x (List.mem_cons_of_mem _ hx))
    cases hp : p r with
    | true => rw [List.filter_cons_of_pos hp]; show f r + _ = f r + _; rw [ih]
    | false =>
      rw [List.filter_cons_of_neg (by rw [hp]; exact Bool.false_ne_true), ih]
      show _ = f r + _
      rw [h r (List.mem_cons_self) hp]
      omega
theorem sumF_take (f : Rc → Int) (l : List Rc) (i : Nat) (h : i < l.length) : sumF f (l.take (i + 1)) = sumF f (l.take i) + f l[i] := by
  rw [List.take_succ_eq_append_getElem h, sumF_app]
  show _ + (f _ + 0) = _
  omega
theorem sumF_map (f : Rc → Int) (g : Rc → Rc) : ∀ l : List Rc, sumF f (l.map g) = sumF (fun r => f (g r)) l
  | [] => rfl
  | r :: l => by show f (g r) + _ = f (g r) + _; rw [sumF_map f g l]
theorem areaR_nn (r : Rc) : 0 ≤ areaR r := by
  unfold areaR
  split
  · next h => have := (fineR_iff r).1 h; exact Int.mul_nonneg (by omega) (by omega)
  · exact Int.le_refl _
theorem areaR_ne {r : Rc} (hf : fineR r = true) (h : neR r = false) : areaR r = 0 := by
  have h1 := (fineR_iff r).1 hf
  have h2 : ¬ (0 < r.w ∧ 0 < r.h) := fun e => by rw [(neR_iff r).2 e] at h; cases h
  unfold areaR
  rw [if_pos hf]
  rcases (show r.w = 0 ∨ r.h = 0 by omega) with e | e
  · rw [e, Int.zero_mul]
  · rw [e, Int.mul_zero]
theorem right_fine {k : Int} {r : Rc} (h : rightR k r = true) : fineR r = true := by
  have h1 := (rightR_iff k r).1 h
  have h2 := side_bd k
  exact (fineR_iff r).2 (by omega)
section
variable {k : Int} {w : Rc}
theorem parts_right (h : winR k w = true) : ∀ r ∈ partsR k w, rightR k r = true := by
  have h1 := (winR_iff k w).1 h
  intro r hr
  simp only [partsR, List.mem_cons, List.not_mem_nil, or_false] at hr
  rw [rightR_iff]
  rcases hr with rfl | rfl | rfl | rfl <;> dsimp only <;> omega
theorem plain_right : ∀ r ∈ plainR k w, rightR k r = true ∧ neR r = true := by
  intro r hr
  cases h : winR k w with
  | false => rw [plainR_no h] at hr; cases hr
  | true =>
    rw [plainR_yes h, List.mem_filter] at hr
    exact ⟨parts_right h r hr.1, hr.2⟩
theorem plain_len : (plainR k w).length ≤ 4 := by
  unfold plainR
  split
  · exact Nat.le_trans (List.length_filter_le _ _) (Nat.le_refl 4)
  · exact Nat.zero_le _
/-- A window's plain rectangles have as many cells as it. -/
theorem plain_sum (h : winR k w = true) : sumF areaR (plainR k w) = w.w * w.h := by
  rw [plainR_yes h, sumF_filter areaR neR _ (fun r hr e => areaR_ne (right_fine (parts_right h r hr)) e)]
  have hf : ∀ r ∈ partsR k w, areaR r = r.w * r.h := fun r hr => if_pos (right_fine (parts_right h r hr))
  simp only [partsR, List.mem_cons, List.not_mem_nil, or_false, forall_eq_or_imp, forall_eq] at hf
  obtain ⟨f1, f2, f3, f4⟩ := hf
  simp only [partsR, sumF]
  rw [f1, f2, f3, f4]
  obtain ⟨a, ha⟩ : ∃ a, min w.w (side k - w.x) = a := ⟨_, rfl⟩
  obtain ⟨b, hb⟩ : ∃ b, min w.h (side k - w.y) = b := ⟨_, rfl⟩
  rw [ha, hb, Int.mul_sub, Int.sub_mul, Int.mul_sub, Int.sub_mul, Int.sub_mul]
  omega
/-- No cell is in two of them. -/
theorem plain_apart (h : winR k w = true) : (plainR k w).Pairwise fun a b => areaR (meetR b a) = 0 := by
  have h1 := (winR_iff k w).1 h
  rw [plainR_yes h]
  refine List.Pairwise.filter _ ?_
  have hz : areaR zeroR = 0 := by decide
  have key : ∀ a b : Rc, (min (b.x + b.w) (a.x + a.w) - max b.x a.x < 1 ∨ min (b.y + b.h) (a.y + a.h) - max b.y a.y < 1) → areaR (meetR b a) = 0 := by
    intro a b hab
    unfold meetR
    rw [if_neg (by rintro ⟨_, _, e1, e2⟩; omega)]
    exact hz
  simp only [partsR, List.pairwise_cons, List.mem_cons, List.not_mem_nil, or_false, forall_eq_or_imp, forall_eq, false_imp_iff, implies_true, List.Pairwise.nil, and_true]
  refine ⟨⟨?_, ?_, ?_⟩, ⟨?_, ?_⟩, ?_⟩ <;> apply key <;> dsimp only <;> omega
/-- A cell is in one of them just if it is so many steps from the window's corner. -/
theorem plain_cnt (h : winR k w = true) {a b : Int} (ha : 0 ≤ a ∧ a < side k) (hb : 0 ≤ b ∧ b < side k) :
    (plainR k w).countP (fun r => hasR r a b) = if (a - w.x) % side k < w.w ∧ (b - w.y) % side k < w.h then 1 else 0 := by
  have h1 := (winR_iff k w).1 h
  have hf : ∀ r ∈ partsR k w, fineR r = true := fun r hr => right_fine (parts_right h r hr)
  have e1 : (plainR k w).countP (fun r => hasR r a b) = (partsR k w).countP (fun r => hasR r a b) := by
    rw [plainR_yes h, List.countP_filter]
    refine List.countP_congr fun r hr => ?_
    rw [Bool.and_eq_true]
    constructor
    · exact fun e => e.1
    · intro e
      refine ⟨e, (neR_iff r).2 ?_⟩
      unfold hasR at e
      rw [Bool.and_eq_true, decide_eq_true_iff] at e
      omega
  have key : ∀ r ∈ partsR k w, hasR r a b = decide (r.x ≤ a ∧ a < r.x + r.w ∧ r.y ≤ b ∧ b < r.y + r.h) := fun r hr => by unfold hasR; rw [hf r hr]; rfl
  rw [e1, List.countP_congr (q := fun r => decide (r.x ≤ a ∧ a < r.x + r.w ∧ r.y ≤ b ∧ b < r.y + r.h)) (fun r hr => by rw [key r hr])]
  rw [emod_sub (s := side k) (by omega) ha, emod_sub (s := side k) (by omega) hb]
  simp only [partsR, List.countP_cons, List.countP_nil, decide_eq_true_eq]
  by_cases c1 : w.x ≤ a ∧ a < w.x + min w.w (side k - w.x)
  · have c2 : ¬ (0 ≤ a ∧ a < 0 + (w.w - min w.w (side k - w.x))) := by omega
    have c3 : (if w.x ≤ a then a - w.x else a - w.x + side k) < w.w := by rw [if_pos c1.1]; omega
    by_cases d1 : w.y ≤ b ∧ b < w.y + min w.h (side k - w.y)
    · have d3 : (if w.y ≤ b then b - w.y else b - w.y + side k) < w.h := by rw [if_pos d1.1]; omega
      rw [if_neg (by omega), if_neg (by omega), if_neg (by omega), if_pos (by omega), if_pos ⟨c3, d3⟩]
    · by_cases d2 : 0 ≤ b ∧ b < 0 + (w.h - min w.h (side k - w.y))
      · have d3 : (if w.y ≤ b then b - w.y else b - w.y + side k) < w.h := by split <;> omega
        rw [if_neg (by omega), if_neg (by omega), if_pos (by omega), if_neg (by omega), if_pos ⟨c3, d3⟩]
      · have d3 : ¬ (if w.y ≤ b then b - w.y else b - w.y + side k) < w.h := by split <;> omega
        rw [if_neg (by omega), if_neg (by omega), if_neg (by omega), if_neg (by omega), if_neg (fun e => d3 e.2)]
  · by_cases c2 : 0 ≤ a ∧ a < 0 + (w.w - min w.w (side k - w.x))
    · have c3 : (if w.x ≤ a then a - w.x else a - w.x + side k) < w.w := by split <;> omega
      by_cases d1 : w.y ≤ b ∧ b < w.y + min w.h (side k - w.y)
      · have d3 : (if w.y ≤ b then b - w.y else b - w.y + side k) < w.h := by rw [if_pos d1.1]; omega
        rw [if_neg (by omega), if_pos (by omega), if_neg (by omega), if_neg (by omega), if_pos ⟨c3, d3⟩]
      · by_cases d2 : 0 ≤ b ∧ b < 0 + (w.h - min w.h (side k - w.y))
        · have d3 : (if w.y ≤ b then b - w.y else b - w.y + side k) < w.h := by split <;> omega
          rw [if_pos (by omega), if_neg (by omega), if_neg (by omega), if_neg (by omega), if_pos ⟨c3, d3⟩]
        · have d3 : ¬ (if w.y ≤ b then b - w.y else b - w.y + side k) < w.h := by split <;> omega
          rw [if_neg (by omega), if_neg (by omega), if_neg (by omega), if_neg (by omega), if_neg (fun e => d3 e.2)]
    · have c3 : ¬ (if w.x ≤ a then a - w.x else a - w.x + side k) < w.w := by split <;> omega
      rw [if_neg (by omega), if_neg (by omega), if_neg (by omega), if_neg (by omega), if_neg (fun e => c3 e.1)]
end
end Go.Proofs.Ytgnhamhkpbadbaa
