/- Tables of what was last answered to each client: rows, what a table tells, and how both tables lie in memory. -/
import Derived.Test.YtbgfjkgpekkciaaK04
import Derived.Test.YtbgfjkgpekkciaaK07
import Derived.Laws.Rows
namespace Go.Proofs.Ytbgfjkgpekkciaa
open Go.RowKit
set_option linter.unusedVariables false
set_option linter.unusedSimpArgs false
/-- A row: the answer, and its Seq. -/
structure SR where
  er : Int
  fd : Bool
  val : ByteArray
  ver : Int
  seq : Int
/-- Of whom nothing was noted. -/
def SR.zero : SR := ⟨0, false, ⟨#[]⟩, 0, 0⟩
/-- The row's cells in the program's table; its answer's. -/
def encSP (r : SR) : List Value := [.int .i64 r.er, .bool r.fd, .string r.val, .int .i64 r.ver, .int .i64 r.seq]
def encSA (r : SR) : List Value := [.int .i64 r.er, .bool r.fd, .string r.val, .int .i64 r.ver]
abbrev STab := List SR
def tab0 : STab := List.replicate 8 .zero
/-- May the row be in a table? -/
def SR.ok (r : SR) : Prop := r = .zero ∨ ((1 ≤ r.seq ∧ r.seq ≤ 1099511627776) ∧ ansB r.er r.fd r.val r.ver = true)
def tabOk (L : STab) : Prop := L.length = 8 ∧ ∀ r ∈ L, r.ok
def rowT (L : STab) (c : Int) : SR := L.getD c.toNat .zero
/-- Is it a client? -/
def cliB (c : Int) : Bool := decide (0 ≤ c) && decide (c < 8)
/-- May the Seq be? -/
def seqB (s : Int) : Bool := decide (1 ≤ s) && decide (s ≤ 1099511627776)
theorem cliB_iff (c : Int) : cliB c = true ↔ 0 ≤ c ∧ c < 8 := by unfold cliB; rw [Bool.and_eq_true, decide_eq_true_iff, decide_eq_true_iff]
theorem seqB_iff (s : Int) : seqB s = true ↔ 1 ≤ s ∧ s ≤ 1099511627776 := by unfold seqB; rw [Bool.and_eq_true, decide_eq_true_iff, decide_eq_true_iff]
/-- Look's answer beside what was noted. -/
def cmpT (n s : Int) : Int := if n < s then 1 else if s = n then 2 else 3
def lookT (L : STab) (c s : Int) : Int := if cliB c && seqB s then cmpT (rowT L c).seq s else 0
/-- Note's answer; the table behind it. -/
def noteT (L : STab) (c s : Int) (ok : Bool) : Int := if (cliB c && seqB s) && ok then (if lookT L c s = 1 then 0 else 44) else 1
def notedT (L : STab) (c : Int) (a : SR) : STab := if noteT L c a.seq (ansB a.er a.fd a.val a.ver) = 0 then L.set c.toNat a else L
/-- Last's answer. -/
def lastT (L : STab) (c : Int) : SR := if cliB c then rowT L c else .zero
/-- The later row; the first one's where both are the same. -/
def later (a b : SR) : SR := if a.seq < b.seq then b else a
def joinT (L M : STab) : STab := List.zipWith later L M
theorem tab0_ok : tabOk tab0 := ⟨rfl, fun r hr => .inl (by simpa using List.eq_of_mem_replicate hr)⟩
theorem len_set {L : STab} (h : L.length = 8) (i : Nat) (r : SR) : (L.set i r).length = 8 := by rw [List.length_set, h]
theorem len_join {L M : STab} (h : L.length = 8) (h' : M.length = 8) : (joinT L M).length = 8 := by unfold joinT; rw [List.length_zipWith, h, h']; rfl
theorem rowT_get {L : STab} (h : L.length = 8) {c : Int} (h0 : 0 ≤ c) (h1 : c < 8) : L[c.toNat]? = some (rowT L c) := by
  unfold rowT
  rw [List.getD_eq_getElem?_getD, List.getElem?_eq_getElem (by omega)]
  rfl
theorem encSP_len (r : SR) : (encSP r).length = 5 := rfl
theorem encSA_len (r : SR) : (encSA r).length = 4 := rfl
theorem encSP_one (r : SR) : ∀ u ∈ encSP r, u.oneCell' = true := by intro u hu; simp only [encSP, List.mem_cons, List.not_mem_nil, or_false] at hu; rcases hu with rfl | rfl | rfl | rfl | rfl <;> rfl
theorem flatSP_len : ∀ L : STab, (L.flatMap encSP).length = L.length * 5
  | [] => rfl
  | r :: L => by rw [List.flatMap_cons, List.length_append, encSP_len, flatSP_len L, List.length_cons]; omega
/-- The table's cells: the program's; its rows alone; the document's. -/
def rcells (L : STab) : Array Value := (L.flatMap encSP).toArray
def pcells (L : STab) : Array Value := (.bool true :: L.flatMap encSP).toArray
def dcells (L : STab) : Array Value := (L.map (fun r => Value.int .i64 r.seq) ++ L.flatMap encSA).toArray
theorem pcells_size {L : STab} (h : L.length = 8) : (pcells L).size = 41 := by unfold pcells; rw [List.size_toArray, List.length_cons, flatSP_len, h]
/-- The program's table at g; the document's at q. -/
def PTab (w : World) (g : Nat) (L : STab) : Prop := L.length = 8 ∧ Whole w g 71 (pcells L)
def DTab (w : World) (q : Nat) (L : STab) : Prop := L.length = 8 ∧ Whole w q 75 (dcells L)
theorem pcells_get {L : STab} {i j : Nat} {r : SR} (hi : L[i]? = some r) (v : Value) (hv : (encSP r)[j]? = some v) : (pcells L)[1 + (i * 5 + j)]? = some v := by
  obtain ⟨hl, rfl⟩ := List.getElem?_eq_some_iff.1 hi
  unfold pcells
  rw [List.getElem?_toArray, Nat.add_comm 1, List.getElem?_cons_succ]
  exact enc_get encSP_len L i hl j v hv
theorem dcells_seq {L : STab} {i : Nat} {r : SR} (hi : L[i]? = some r) : (dcells L)[i]? = some (.int .i64 r.seq) := by
  obtain ⟨hl, rfl⟩ := List.getElem?_eq_some_iff.1 hi
  unfold dcells
  rw [List.getElem?_toArray, List.getElem?_append_left (by simpa using hl), List.getElem?_map, hi]
  rfl
theorem dcells_ans {L : STab} (h : L.length = 8) {i j : Nat} {r : SR} (hi : L[i]? = some r) (v : Value) (hv : (encSA r)[j]? = some v) : (dcells L)[8 + (i * 4 + j)]? = some v := by
  obtain ⟨hl, rfl⟩ := List.getElem?_eq_some_iff.1 hi
  unfold dcells
  rw [List.getElem?_toArray, List.getElem?_append_right (by rw [List.length_map]; omega), List.length_map, h, Nat.add_sub_cancel_left]
  exact enc_get encSA_len L i hl j v hv
theorem toArray_set {α : Type} (l : List α) (i : Nat) (v : α) : l.toArray.setIfInBounds i v = (l.set i v).toArray := by rw [List.setIfInBounds_toArray]
/-- Stores of a row's five cells. -/
theorem flatSP_set : ∀ (L : STab) (i : Nat) (a : SR), i < L.length →
    (L.set i a).flatMap encSP = ((((((L.flatMap encSP).set (i * 5 + 0) (.int .i64 a.er)).set (i * 5 + 1) (.bool a.fd)).set (i * 5 + 2) (.string a.val)).set (i * 5 + 3) (.int .i64 a.ver)).set (i * 5 + 4) (.int .i64 a.seq))
  | [], _, _, h => absurd h (Nat.not_lt_zero _)
  | r :: L, 0, a, _ => rfl
  | r :: L, i + 1, a, h => by
    have ih := flatSP_set L i a (by simpa using h)
    rw [List.set_cons_succ, List.flatMap_cons, ih, List.flatMap_cons]
    have e : ∀ j, (i + 1) * 5 + j = (encSP r).length + (i * 5 + j) := fun j => by rw [encSP_len]; omega
    have sr : ∀ (x y : List Value) (k : Nat) (v : Value), (x ++ y).set (x.length + k) v = x ++ y.set k v := fun x y k v => by
      rw [List.set_append_right _ _ (Nat.le_add_right _ _), Nat.add_sub_cancel_left]
    rw [e, e, e, e, e, sr, sr, sr, sr, sr]
theorem flatSA_set : ∀ (L : STab) (i : Nat) (a : SR), i < L.length →
    (L.set i a).flatMap encSA = (((((L.flatMap encSA).set (i * 4 + 0) (.int .i64 a.er)).set (i * 4 + 1) (.bool a.fd)).set (i * 4 + 2) (.string a.val)).set (i * 4 + 3) (.int .i64 a.ver))
  | [], _, _, h => absurd h (Nat.not_lt_zero _)
  | r :: L, 0, a, _ => rfl
  | r :: L, i + 1, a, h => by
    have ih := flatSA_set L i a (by simpa using h)
    rw [List.set_cons_succ, List.flatMap_cons, ih, List.flatMap_cons]
    have e : ∀ j, (i + 1) * 4 + j = (encSA r).length + (i * 4 + j) := fun j => by rw [encSA_len]; omega
    have sr : ∀ (x y : List Value) (k : Nat) (v : Value), (x ++ y).set (x.length + k) v = x ++ y.set k v := fun x y k v => by
      rw [List.set_append_right _ _ (Nat.le_add_right _ _), Nat.add_sub_cancel_left]
    rw [e, e, e, e, sr, sr, sr, sr]
theorem pcells_set {L : STab} {i : Nat} (h : i < L.length) (a : SR) :
    (((((pcells L).setIfInBounds (1 + i * 5) (.int .i64 a.er)).setIfInBounds (1 + i * 5 + 1) (.bool a.fd)).setIfInBounds (1 + i * 5 + 2) (.string a.val)).setIfInBounds (1 + i * 5 + 3) (.int .i64 a.ver)).setIfInBounds (1 + i * 5 + 4) (.int .i64 a.seq) = pcells (L.set i a) := by
  unfold pcells
  rw [flatSP_set L i a h]
  have e : ∀ k, 1 + i * 5 + k = (i * 5 + k) + 1 := fun k => by omega
  simp only [toArray_set, e, Nat.add_comm 1, List.set_cons_succ, Nat.add_zero]
theorem dcells_set {L : STab} (h8 : L.length = 8) {i : Nat} (h : i < L.length) (a : SR) :
    (((((dcells L).setIfInBounds i (.int .i64 a.seq)).setIfInBounds (8 + i * 4) (.int .i64 a.er)).setIfInBounds (8 + i * 4 + 1) (.bool a.fd)).setIfInBounds (8 + i * 4 + 2) (.string a.val)).setIfInBounds (8 + i * 4 + 3) (.int .i64 a.ver) = dcells (L.set i a) := by
  unfold dcells
  rw [flatSA_set L i a h]
  have hm : (L.map fun r => Value.int .i64 r.seq).length = 8 := by rw [List.length_map, h8]
  have sr : ∀ (y : List Value) (k : Nat) (v : Value), (((L.set i a).map fun r => Value.int .i64 r.seq) ++ y).set (8 + k) v = ((L.set i a).map fun r => Value.int .i64 r.seq) ++ y.set k v := fun y k v => by
    have hm' : ((L.set i a).map fun r => Value.int .i64 r.seq).length = 8 := by rw [List.length_map, List.length_set, h8]
    rw [List.set_append_right _ _ (by omega), hm', Nat.add_sub_cancel_left]
  simp only [toArray_set, Nat.add_assoc 8, Nat.add_zero]
  rw [List.set_append_left _ _ (by omega), ← List.map_set (f := fun r : SR => Value.int .i64 r.seq) (l := L) (i := i) (a := a), sr, sr, sr, sr]
section
variable {w w' : World} {g q : Nat} {L : STab} {F : Nat → Prop}
theorem PTab.lt (h : PTab w g L) : g < w.heap.size := h.2.lt
theorem DTab.lt (h : DTab w q L) : q < w.heap.size := h.2.lt
theorem PTab.since (h : PTab w g L) (hs : Since w w') : PTab w' g L := ⟨h.1, hs.whole h.2⟩
theorem DTab.since (h : DTab w q L) (hs : Since w w') : DTab w' q L := ⟨h.1, hs.whole h.2⟩
theorem PTab.off (h : PTab w g L) (ho : Off F w w') (hg : ¬ F g) : PTab w' g L := ⟨h.1, ho.whole h.2 hg⟩
theorem DTab.off (h : DTab w q L) (ho : Off F w w') (hg : ¬ F q) : DTab w' q L := ⟨h.1, ho.whole h.2 hg⟩
/-- The two tables' blocks are unlike by their types. -/
theorem PTab.ne (h : PTab w g L) {M : STab} (h' : DTab w q M) : g ≠ q := by
  rintro rfl
  have := h.2.symm.trans h'.2
  simp at this
theorem PTab.c0 (h : PTab w g L) {i : Nat} {r : SR} (hi : L[i]? = some r) : ∀ W, Since w W → W.cell? ⟨g, 1 + i * 5, none⟩ = some (.int .i64 r.er) :=
  fun W hW => ((hW.whole h.2).cell _).trans (by have := pcells_get (j := 0) hi (.int .i64 r.er) rfl; rwa [← Nat.add_assoc] at this)
theorem PTab.c1 (h : PTab w g L) {i : Nat} {r : SR} (hi : L[i]? = some r) : ∀ W, Since w W → W.cell? ⟨g, 1 + i * 5 + 1, none⟩ = some (.bool r.fd) :=
  fun W hW => ((hW.whole h.2).cell _).trans (by have := pcells_get (j := 1) hi (.bool r.fd) rfl; rwa [← Nat.add_assoc] at this)
theorem PTab.c2 (h : PTab w g L) {i : Nat} {r : SR} (hi : L[i]? = some r) : ∀ W, Since w W → W.cell? ⟨g, 1 + i * 5 + 2, none⟩ = some (.string r.val) :=
  fun W hW => ((hW.whole h.2).cell _).trans (by have := pcells_get (j := 2) hi (.string r.val) rfl; rwa [← Nat.add_assoc] at this)
theorem PTab.c3 (h : PTab w g L) {i : Nat} {r : SR} (hi : L[i]? = some r) : ∀ W, Since w W → W.cell? ⟨g, 1 + i * 5 + 3, none⟩ = some (.int .i64 r.ver) :=
  fun W hW => ((hW.whole h.2).cell _).trans (by have := pcells_get (j := 3) hi (.int .i64 r.ver) rfl; rwa [← Nat.add_assoc] at this)
theorem PTab.c4 (h : PTab w g L) {i : Nat} {r : SR} (hi : L[i]? = some r) : ∀ W, Since w W → W.cell? ⟨g, 1 + i * 5 + 4, none⟩ = some (.int .i64 r.seq) :=
  fun W hW => ((hW.whole h.2).cell _).trans (by have := pcells_get (j := 4) hi (.int .i64 r.seq) rfl; rwa [← Nat.add_assoc] at this)
theorem PTab.frozen (h : PTab w g L) (i : Nat) : ∀ W, Since w W → W.frozen? ⟨g, i, none⟩ = false := fun W hW => (hW.whole h.2).frozen i
theorem DTab.seq (h : DTab w q L) {i : Nat} {r : SR} (hi : L[i]? = some r) : ∀ W, Since w W → W.cell? ⟨q, i, none⟩ = some (.int .i64 r.seq) :=
  fun W hW => ((hW.whole h.2).cell _).trans (dcells_seq hi)
theorem DTab.c0 (h : DTab w q L) {i : Nat} {r : SR} (hi : L[i]? = some r) : ∀ W, Since w W → W.cell? ⟨q, 8 + i * 4, none⟩ = some (.int .i64 r.er) :=
  fun W hW => ((hW.whole h.2).cell _).trans (by have := dcells_ans (j := 0) h.1 hi (.int .i64 r.er) rfl; rwa [← Nat.add_assoc] at this)
theorem DTab.c1 (h : DTab w q L) {i : Nat} {r : SR} (hi : L[i]? = some r) : ∀ W, Since w W → W.cell? ⟨q, 8 + i * 4 + 1, none⟩ = some (.bool r.fd) :=
  fun W hW => ((hW.whole h.2).cell _).trans (by have := dcells_ans (j := 1) h.1 hi (.bool r.fd) rfl; rwa [← Nat.add_assoc] at this)
theorem DTab.c2 (h : DTab w q L) {i : Nat} {r : SR} (hi : L[i]? = some r) : ∀ W, Since w W → W.cell? ⟨q, 8 + i * 4 + 2, none⟩ = some (.string r.val) :=
  fun W hW => ((hW.whole h.2).cell _).trans (by have := dcells_ans (j := 2) h.1 hi (.string r.val) rfl; rwa [← Nat.add_assoc] at this)
theorem DTab.c3 (h : DTab w q L) {i : Nat} {r : SR} (hi : L[i]? = some r) : ∀ W, Since w W → W.cell? ⟨q, 8 + i * 4 + 3, none⟩ = some (.int .i64 r.ver) :=
  fun W hW => ((hW.whole h.2).cell _).trans (by have := dcells_ans (j := 3) h.1 hi (.int .i64 r.ver) rfl; rwa [← Nat.add_assoc] at this)
theorem DTab.frozen (h : DTab w q L) (i : Nat) : ∀ W, Since w W → W.frozen? ⟨q, i, none⟩ = false := fun W hW => (hW.whole h.2).frozen i
theorem PTab.made (h : PTab w g L) : ∀ W, Since w W → W.cell? ⟨g, 0, none⟩ = some (.bool true) := fun W hW => ((hW.whole h.2).cell 0).trans rfl
end
end Go.Proofs.Ytbgfjkgpekkciaa
