/- Entries: which may be; lists of nodes. No program. -/
import Derived.Test.YtimmnmidhjbanaaDoorK04
namespace Go.Proofs.YtimmnmidhjbanaaDoor
open Go.RowKit
set_option linter.unusedVariables false
def nodeB (n : Int) : Bool := decide (0 ≤ n ∧ n < 8)
theorem nodeB_iff (n : Int) : nodeB n = true ↔ 0 ≤ n ∧ n < 8 := by unfold nodeB; exact decide_eq_true_iff
def epochB (n : Int) : Bool := decide (1 ≤ n ∧ n ≤ 1099511627776)
theorem epochB_iff (n : Int) : epochB n = true ↔ 1 ≤ n ∧ n ≤ 1099511627776 := by unfold epochB; exact decide_eq_true_iff
def memZ (l : List Int) (n : Int) : Bool := decide (n ∈ l)
theorem memZ_iff (l : List Int) (n : Int) : memZ l n = true ↔ n ∈ l := by unfold memZ; exact decide_eq_true_iff
theorem memZ_false (l : List Int) (n : Int) : memZ l n = false ↔ n ∉ l := by unfold memZ; exact decide_eq_false_iff_not
/-- May a chain be? -/
def ChainP (l : List Int) : Prop := (∀ x ∈ l, 0 ≤ x ∧ x < 8) ∧ l.Nodup
instance (l : List Int) : Decidable (ChainP l) := inferInstanceAs (Decidable (_ ∧ _))
def chainB (l : List Int) : Bool := decide (ChainP l)
theorem chainB_iff (l : List Int) : chainB l = true ↔ ChainP l := by unfold chainB; exact decide_eq_true_iff
theorem chainB_false (l : List Int) : chainB l = false ↔ ¬ ChainP l := by unfold chainB; exact decide_eq_false_iff_not
theorem chain_nil : ChainP [] := ⟨fun x h => (List.not_mem_nil h).elim, List.Pairwise.nil⟩
theorem chain_snoc (l : List Int) (x : Int) : ChainP (l ++ [x]) ↔ ChainP l ∧ (0 ≤ x ∧ x < 8) ∧ x ∉ l := by
  unfold ChainP
  rw [List.nodup_append]
  constructor
  · rintro ⟨h1, h2, h3, h4⟩
    exact ⟨⟨fun y hy => h1 y (by simp [hy]), h2⟩, h1 x (by simp), fun hx => h4 x hx x (by simp) rfl⟩
  · rintro ⟨⟨h1, h2⟩, h3, h4⟩
    refine ⟨fun y hy => ?_, h2, by simp, fun a ha b hb => ?_⟩
    · rcases List.mem_append.1 hy with hy | hy
      · exact h1 y hy
      · rw [List.mem_singleton.1 hy]; exact h3
    · rw [List.mem_singleton.1 hb]
      rintro rfl
      exact h4 ha
theorem chain_take {l : List Int} (h : ChainP l) (k : Nat) : ChainP (l.take k) := ⟨fun x hx => h.1 x (List.mem_of_mem_take hx), h.2.sublist (List.take_sublist k l)⟩
/-- One step further. -/
theorem chain_next {l : List Int} {k : Nat} {x : Int} (h : l[k]? = some x) : ChainP (l.take (k + 1)) ↔ ChainP (l.take k) ∧ (0 ≤ x ∧ x < 8) ∧ x ∉ l.take k := by
  rw [List.take_add_one, h]
  exact chain_snoc _ _
theorem nodup_short : ∀ (n : Nat) (l : List Int), (∀ x ∈ l, 0 ≤ x ∧ x < n) → l.Nodup → l.length ≤ n
  | 0, l, h, _ => by
    cases l with
    | nil => exact Nat.le_refl _
    | cons x l => have := h x (by simp); omega
  | n + 1, l, h, hd => by
    have h1 : (l.filter (· != (n : Int))).length ≤ n := nodup_short n _ (fun x hx => by
      obtain ⟨h1, h2⟩ := List.mem_filter.1 hx
      have := h x h1
      have h3 : x ≠ (n : Int) := by simpa using h2
      omega) (hd.sublist List.filter_sublist)
    have h2 : l.length ≤ (l.filter (· != (n : Int))).length + 1 := by
      clear h h1
      induction l with
      | nil => simp
      | cons y l ih =>
        rw [List.nodup_cons] at hd
        have ih := ih hd.2
        by_cases hy : y = (n : Int)
        · subst hy
          have : l.filter (· != (n : Int)) = l := List.filter_eq_self.2 fun z hz => by
            rw [bne_iff_ne]
            rintro rfl
            exact hd.1 hz
          simp [this]
        · have : (y != (n : Int)) = true := by rw [bne_iff_ne]; exact hy
          rw [List.filter_cons, if_pos this]
          simp only [List.length_cons]
          omega
    omega
theorem chain_len {l : List Int} (h : ChainP l) : l.length ≤ 8 := nodup_short 8 l (fun x hx => h.1 x hx) h.2
/-- The list without each place of that node. -/
def lessL (l : List Int) (n : Int) : List Int := l.filter (· != n)
theorem lessL_next {l : List Int} {k : Nat} {x : Int} (h : l[k]? = some x) (n : Int) : lessL (l.take (k + 1)) n = if x = n then lessL (l.take k) n else lessL (l.take k) n ++ [x] := by
  unfold lessL
  rw [List.take_add_one, h, List.filter_append]
  by_cases hx : x = n
  · rw [if_pos hx]; simp [hx]
  · rw [if_neg hx]; simp [hx]
theorem lessL_le (l : List Int) (n : Int) : (lessL l n).length ≤ l.length := List.length_filter_le _ _
/-- An entry but its chain: the call's kind, cell, key, value, client and Seq among it. -/
structure En where
  kind : Int
  ok : Int
  x : Int
  y : Int
  key : ByteArray
  val : ByteArray
  cl : Int
  seq : Int
  nd : Int
  ep : Int
  bx : Int
deriving DecidableEq
def En.zero : En := ⟨0, 0, 0, 0, ⟨#[]⟩, ⟨#[]⟩, 0, 0, 0, 0, 0⟩
def opZ (e : En) : Bool := e.ok == 0 && (e.x == 0 && (e.y == 0 && (decide (e.key = ⟨#[]⟩) && (decide (e.val = ⟨#[]⟩) && (e.cl == 0 && e.seq == 0)))))
def En.opR (e : En) : Bool := opB e.ok e.x e.y e.key e.val e.cl e.seq
/-- May an entry be? -/
def rightB (e : En) (l : List Int) : Bool :=
  if e.kind = 1 then e.opR && (e.nd == 0 && (e.ep == 0 && (e.bx == 0 && l.isEmpty)))
  else if e.kind = 2 ∨ e.kind = 3 then opZ e && (nodeB e.nd && (e.ep == 0 && (e.bx == 0 && l.isEmpty)))
  else if e.kind = 4 ∨ e.kind = 5 then opZ e && (epochB e.ep && (nodeB e.bx && (chainB l && (memZ l e.nd && !memZ l e.bx))))
  else false
end Go.Proofs.YtimmnmidhjbanaaDoor
