/- point: what must be so of a record, a call, an answer. Entries: which may be; lists of nodes. No program. -/
import Derived.Test.YtimmnmidhjbanaaDoorK02
import Derived.Deep.Cut
import Derived.Deep.CutRange
namespace Go.Proofs.YtimmnmidhjbanaaDoor
open Go.RowKit
set_option linter.unusedVariables false
/-- From a to b. -/
def bet (n a b : Int) : Bool := decide (a ≤ n ∧ n ≤ b)
theorem bet_iff (n a b : Int) : bet n a b = true ↔ a ≤ n ∧ n ≤ b := by unfold bet; exact decide_eq_true_iff
def keyB (s : ByteArray) : Bool := bet s.size 1 16
def valB (s : ByteArray) : Bool := decide ((s.size : Int) ≤ 32)
def opB (kind x y : Int) (key val : ByteArray) (cl seq : Int) : Bool :=
  bet kind 1 3 && (hasB 16 x y && (keyB key && (valB val && ((kind == 2 || val.toList.isEmpty) && (bet cl 0 7 && bet seq 1 1099511627776)))))
theorem all_any (g off n c : Nat) (l : List Bool) (w : World) (hn : l.length = n) (hl : n ≤ 1000000) (hc : ∀ i (h : i < l.length), w.cell? ⟨g, off + i, none⟩ = some (.bool l[i])) :
    Calls Tryd.prog 74 #[.slice (some ⟨g, off, none⟩) n c] w fun e w' => e = .returned (.bool (l.all id)) ∧ w = w' := by
  obtain ⟨R, hR⟩ : ∃ R, R = l.all id := ⟨_, rfl⟩
  rw [← hR]
  have HR := Lib.hid hR
  have HN := Lib.hid hn
  clear hR
  go_enter Tryd.func74, Tryd.ntmps74
  go_wp2
  go_loop [7] (fun i => ∃ k : Nat, k ≤ n ∧ i = .int .i64 (k : Int) ∧ (l.take k).all id = true) (fun i => n - (intOf i).toNat)
  case atStart => exact ⟨0, by omega, rfl, rfl⟩
  case round =>
    obtain ⟨k, hk, rfl, ha⟩ := hrel
    by_cases hlt : k < n
    · have hcell := hc k (by omega)
      have HA := Lib.hid ha
      cases hb : l[k]'(by omega) with
      | true =>
        rw [hb] at hcell
        have HB := Lib.hid (show l[k]? = some true by rw [List.getElem?_eq_getElem (by omega), hb])
        clear hc hb ha hn
        go_wp2
        go_round
        case rel =>
          refine ⟨k + 1, by omega, by go_num, ?_⟩
          rw [List.take_add_one, HB.out, List.all_append, HA.out]
          rfl
        case measure => simp [intOf]; omega
      | false =>
        rw [hb] at hcell
        have HB := Lib.hid (show l[k]? = some false by rw [List.getElem?_eq_getElem (by omega), hb])
        clear hc hb ha hn
        go_wp2
        obtain rfl : R = false := by
          rw [HR.out, List.all_eq_false]
          exact ⟨false, List.mem_of_getElem? HB.out, by simp⟩
        go_ret
        exact ⟨rfl, rfl⟩
    · have HA := Lib.hid ha
      clear hc hn ha
      obtain rfl : k = n := by omega
      obtain rfl : R = true := by
        have h2 := HA.out
        rw [List.take_of_length_le (Nat.le_of_eq HN.out)] at h2
        rw [HR.out, h2]
      clear HR HA
      go_wp2
      go_ret
      exact ⟨rfl, rfl⟩
theorem all_whole {w : World} {g : Nat} {l : List Bool} {cs : Array Value} {t : TypeId} (n c : Nat) (h : Whole w g t cs) (hn : l.length = n) (hl : n ≤ 1000000) (hc : cs = (l.map Value.bool).toArray) :
    Calls Tryd.prog 74 #[.slice (some ⟨g, 0, none⟩) n c] w fun e w' => e = .returned (.bool (l.all id)) ∧ w = w' := by
  refine all_any g 0 n c l w hn hl fun i hi => ?_
  rw [Nat.zero_add, h.cell, hc]
  simp [hi]
theorem all_seven {w : World} {g : Nat} {t : TypeId} {b1 b2 b3 b4 b5 b6 b7 : Bool} (h : Whole w g t #[.bool b1, .bool b2, .bool b3, .bool b4, .bool b5, .bool b6, .bool b7]) :
    Calls Tryd.prog 74 #[.slice (some ⟨g, 0, none⟩) 7 7] w fun e w' => e = .returned (.bool (b1 && (b2 && (b3 && (b4 && (b5 && (b6 && b7))))))) ∧ w = w' := by
  have := all_whole (l := [b1, b2, b3, b4, b5, b6, b7]) 7 7 h rfl (by decide) rfl
  simpa using this
theorem within_any7 (n a b : Int) (w : World) : Calls Tryd.prog 75 #[.int .i64 n, .int .i64 a, .int .i64 b] w fun e w' => e = .returned (.bool (bet n a b)) ∧ w = w' := by
  by_cases h : a ≤ n
  · by_cases h2 : n ≤ b
    · rw [(bet_iff n a b).2 ⟨h, h2⟩]
      go_enter Tryd.func75, Tryd.ntmps75
      go_wp2
      go_ret
      exact ⟨rfl, rfl⟩
    · rw [show bet n a b = false from Bool.eq_false_iff.2 fun e => h2 ((bet_iff n a b).1 e).2]
      go_enter Tryd.func75, Tryd.ntmps75
      go_wp2
      go_ret
      exact ⟨rfl, rfl⟩
  · rw [show bet n a b = false from Bool.eq_false_iff.2 fun e => h ((bet_iff n a b).1 e).1]
    go_enter Tryd.func75, Tryd.ntmps75
    go_wp2
    go_ret
    exact ⟨rfl, rfl⟩
theorem qwithin_at {n a b : Int} {r : Bool} (h : bet n a b = r) (w : World) : Calls Tryd.prog 75 #[.int .i64 n, .int .i64 a, .int .i64 b] w fun e w' => e = .returned (.bool r) ∧ w = w' := h ▸ within_any7 n a b w
theorem rightKey_at {s : ByteArray} {r : Bool} (h : keyB s = r) (w : World) : Calls Tryd.prog 77 #[.string s] w fun e w' => e = .returned (.bool r) ∧ w = w' := by
  unfold keyB at h
  have HK := Lib.hid h
  clear h
  go_enter Tryd.func77, Tryd.ntmps77
  go_wp2_with (go_at_call 75; (with_reducible refine (qwithin_at HK.out _).mono ?_); rintro e w' ⟨rfl, rfl⟩)
  go_ret
  exact ⟨rfl, rfl⟩
theorem rightValue_at {s : ByteArray} {r : Bool} (h : valB s = r) (w : World) : Calls Tryd.prog 78 #[.string s] w fun e w' => e = .returned (.bool r) ∧ w = w' := by
  unfold valB at h
  have HK := Lib.hid h
  clear h
  go_enter Tryd.func78, Tryd.ntmps78
  go_wp2
  go_ret
  exact ⟨ret_bool HK.out, rfl⟩
theorem rightCell_at {x y : Int} {r : Bool} (h : hasB 16 x y = r) (w : World) : Calls Tryd.prog 76 #[.agg #[.int .i64 x, .int .i64 y]] w fun e w' => e = .returned (.bool r) ∧ Below w.heap.size w w' := by
  have HK := Lib.hid h
  clear h
  obtain ⟨w0, hw0⟩ : ∃ w0, w0 = w.alloc (.cells #[.int .i64 x, .int .i64 y] 23) := ⟨_, rfl⟩
  have hs0 : Since w w0 := by rw [hw0]; exact (Since.refl w).alloc _
  have wh0 : Whole w0 (w.heap.size) 23 #[.int .i64 x, .int .i64 y] := by rw [hw0]; exact Whole.new w _ _
  have HW := Lib.hid hw0
  have c0_0 := box_cell wh0 0 (.int .i64 x) rfl
  have c0_1 := box_cell wh0 1 (.int .i64 y) rfl
  have hsr := Since.refl w0
  have hsd := hsr.drew
  clear hw0 wh0
  go_enter Tryd.func76, Tryd.ntmps76
  go_wp2_with fail
  rw [← HW.out]
  go_wp2_with (go_at_call 89; (with_reducible refine (Calls.since (by assumption) (has_at HK.out _)).mono ?_); rintro e w1 ⟨rfl, hb1⟩)
  go_ret
  exact ⟨rfl, hs0.trans (by assumption)⟩
theorem side16 : side 16 = 65536 := rfl
end Go.Proofs.YtimmnmidhjbanaaDoor
namespace Go.Proofs.YtimmnmidhjbanaaDoor
open Go.RowKit
set_option linter.unusedVariables false
def nodeB (n : Int) : Bool := decide (0 ≤ n ∧ n < 8)
theorem nodeB_iff (n : Int) : nodeB n = true ↔ 0 ≤ n ∧ n < 8 := by unfold nodeB; exact decide_eq_true_iff
def epochB (n : Int) : Bool := decide (1 ≤ n ∧ n ≤ 1099511627776)
theorem epochB_iff (n : Int) : epochB n = true ↔ 1 ≤ n ∧ n ≤ 1099511627776 := by unfold epochB; exact decide_eq_true_iff
def memZ (l : List Int) (n : Int) : Bool := decide (n ∈ l)
theorem memZ_iff (l : List Int) (n : Int) : memZ l n = true ↔ n ∈ l := by unfold memZ; exact decide_eq_true_iff
theorem memZ_false (l : List Int) (n : Int) : memZ l n = false ↔ n ∉ l := by unfold memZ; exact decide_eq_false_iff_not
/-- May a chain be? -/
def ChainP (l : List Int) : Prop := (∀ x ∈ l, 0 ≤ x ∧ x < 8) ∧ l.Nodup
instance (l : List Int) : Decidable (ChainP l) := inferInstanceAs (Decidable (_ ∧ _))
def chainB (l : List Int) : Bool := decide (ChainP l)
theorem chainB_iff (l : List Int) : chainB l = true ↔ ChainP l := by unfold chainB; exact decide_eq_true_iff
theorem chainB_false (l : List Int) : chainB l = false ↔ ¬ ChainP l := by unfold chainB; exact decide_eq_false_iff_not
theorem chain_nil : ChainP [] := ⟨fun x h => (List.not_mem_nil h).elim, List.Pairwise.nil⟩
theorem chain_snoc (l : List Int) (x : Int) : ChainP (l ++ [x]) ↔ ChainP l ∧ (0 ≤ x ∧ x < 8) ∧ x ∉ l := by
  unfold ChainP
  rw [List.nodup_append]
  constructor
  · rintro ⟨h1, h2, h3, h4⟩
    exact ⟨⟨fun y hy => h1 y (by simp [hy]), h2⟩, h1 x (by simp), fun hx => h4 x hx x (by simp) rfl⟩
  · rintro ⟨⟨h1, h2⟩, h3, h4⟩
    refine ⟨fun y hy => ?_, h2, by simp, fun a ha b hb => ?_⟩
    · rcases List.mem_append.1 hy with hy | hy
      · exact h1 y hy
      · rw [List.mem_singleton.1 hy]; exact h3
    · rw [List.mem_singleton.1 hb]
      rintro rfl
      exact h4 ha
theorem chain_take {l : List Int} (h : ChainP l) (k : Nat) : ChainP (l.take k) := ⟨fun x hx => h.1 x (List.mem_of_mem_take hx), h.2.sublist (List.take_sublist k l)⟩
/-- One step further. -/
theorem chain_next {l : List Int} {k : Nat} {x : Int} (h : l[k]? = some x) : ChainP (l.take (k + 1)) ↔ ChainP (l.take k) ∧ (0 ≤ x ∧ x < 8) ∧ x ∉ l.take k := by
  rw [List.take_add_one, h]
  exact chain_snoc _ _
theorem nodup_short : ∀ (n : Nat) (l : List Int), (∀ x ∈ l, 0 ≤ x ∧ x < n) → l.Nodup → l.length ≤ n
  | 0, l, h, _ => by
    cases l with
    | nil => exact Nat.le_refl _
    | cons x l => have := h x (by simp); omega
  | n + 1, l, h, hd => by
    have h1 : (l.filter (· != (n : Int))).length ≤ n := nodup_short n _ (fun x hx => by
      obtain ⟨h1, h2⟩ := List.mem_filter.1 hx
      have := h x h1
      have h3 : x ≠ (n : Int) := by simpa using h2
      omega) (hd.sublist List.filter_sublist)
    have h2 : l.length ≤ (l.filter (· != (n : Int))).length + 1 := by
      clear h h1
      induction l with
      | nil => simp
      | cons y l ih =>
        rw [List.nodup_cons] at hd
        have ih := ih hd.2
        by_cases hy : y = (n : Int)
        · subst hy
          have : l.filter (· != (n : Int)) = l := List.filter_eq_self.2 fun z hz => by
            rw [bne_iff_ne]
            rintro rfl
            exact hd.1 hz
          simp [this]
        · have : (y != (n : Int)) = true := by rw [bne_iff_ne]; exact hy
          rw [List.filter_cons, if_pos this]
          simp only [List.length_cons]
          omega
    omega
theorem chain_len {l : List Int} (h : ChainP l) : l.length ≤ 8 := nodup_short 8 l (fun x hx => h.1 x hx) h.2
/-- The list without each place of that node. -/
def lessL (l : List Int) (n : Int) : List Int := l.filter (· != n)
theorem lessL_next {l : List Int} {k : Nat} {x : Int} (h : l[k]? = some x) (n : Int) : lessL (l.take (k + 1)) n = if x = n then lessL (l.take k) n else lessL (l.take k) n ++ [x] := by
  unfold lessL
  rw [List.take_add_one, h, List.filter_append]
  by_cases hx : x = n
  · rw [if_pos hx]; simp [hx]
  · rw [if_neg hx]; simp [hx]
theorem lessL_le (l : List Int) (n : Int) : (lessL l n).length ≤ l.length := List.length_filter_le _ _
/-- An entry but its chain: the call's kind, cell, key, value, client and Seq among it. -/
structure En where
  kind : Int
  ok : Int
  x : Int
  y : Int
  key : ByteArray
  val : ByteArray
  cl : Int
  seq : Int
  nd : Int
  ep : Int
  bx : Int
deriving DecidableEq
def En.zero : En := ⟨0, 0, 0, 0, ⟨#[]⟩, ⟨#[]⟩, 0, 0, 0, 0, 0⟩
def opZ (e : En) : Bool := e.ok == 0 && (e.x == 0 && (e.y == 0 && (decide (e.key = ⟨#[]⟩) && (decide (e.val = ⟨#[]⟩) && (e.cl == 0 && e.seq == 0)))))
def En.opR (e : En) : Bool := opB e.ok e.x e.y e.key e.val e.cl e.seq
/-- May an entry be? -/
def rightB (e : En) (l : List Int) : Bool :=
  if e.kind = 1 then e.opR && (e.nd == 0 && (e.ep == 0 && (e.bx == 0 && l.isEmpty)))
  else if e.kind = 2 ∨ e.kind = 3 then opZ e && (nodeB e.nd && (e.ep == 0 && (e.bx == 0 && l.isEmpty)))
  else if e.kind = 4 ∨ e.kind = 5 then opZ e && (epochB e.ep && (nodeB e.bx && (chainB l && (memZ l e.nd && !memZ l e.bx))))
  else false
end Go.Proofs.YtimmnmidhjbanaaDoor
