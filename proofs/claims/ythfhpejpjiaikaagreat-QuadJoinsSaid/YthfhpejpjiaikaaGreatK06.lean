/- Orders of texts and of lists of comparisons, pure. Lists of records by Compare, pure: put, del, find, and what is left of a part of the cells. What a law of quad's is handed, opened to its cells: a record by value, a list of records. -/
import Derived.Test.YthfhpejpjiaikaaGreatK05
import Derived.Deep.Slices
import Derived.ChangeSame
import Derived.Deep.Fields
import Derived.Lib.Bytealg
import Derived.Lib.Hide
import GoSem.Op.String
namespace Go.Proofs.YthfhpejpjiaikaaGreat
/-- Texts, held against each other. -/
theorem cb_three : ∀ a b : List UInt8, Lib.compareBytes a b = -1 ∨ Lib.compareBytes a b = 0 ∨ Lib.compareBytes a b = 1 := by
  intro a
  induction a with
  | nil => intro b; cases b <;> simp [Lib.compareBytes]
  | cons x a ih =>
    intro b
    cases b with
    | nil => simp [Lib.compareBytes]
    | cons y b =>
      rw [Lib.compareBytes]
      by_cases h1 : x < y
      · rw [if_pos h1]; simp
      · rw [if_neg h1]
        by_cases h2 : y < x
        · rw [if_pos h2]; simp
        · rw [if_neg h2]; exact ih b
theorem cb_anti : ∀ a b : List UInt8, Lib.compareBytes b a = -Lib.compareBytes a b := by
  intro a
  induction a with
  | nil => intro b; cases b <;> simp [Lib.compareBytes]
  | cons x a ih =>
    intro b
    cases b with
    | nil => simp [Lib.compareBytes]
    | cons y b =>
      rw [Lib.compareBytes, Lib.compareBytes]
      by_cases h1 : x < y
      · have h2 : ¬ y < x := fun h => UInt8.lt_irrefl _ (UInt8.lt_trans h h1)
        simp [h1, h2]
      · by_cases h2 : y < x
        · simp [h1, h2]
        · simp [h1, h2, ih b]
theorem u8_eq {x y : UInt8} (h1 : ¬ x < y) (h2 : ¬ y < x) : x = y := by
  have a := UInt8.not_lt.1 h1
  have b := UInt8.not_lt.1 h2
  exact UInt8.le_antisymm b a
theorem cb_zero : ∀ a b : List UInt8, Lib.compareBytes a b = 0 ↔ a = b := by
  intro a
  induction a with
  | nil => intro b; cases b <;> simp [Lib.compareBytes]
  | cons x a ih =>
    intro b
    cases b with
    | nil => simp [Lib.compareBytes]
    | cons y b =>
      rw [Lib.compareBytes, List.cons.injEq]
      by_cases h1 : x < y
      · rw [if_pos h1]
        exact ⟨fun h => by omega, fun h => absurd h1 (h.1 ▸ UInt8.lt_irrefl _)⟩
      · rw [if_neg h1]
        by_cases h2 : y < x
        · rw [if_pos h2]
          exact ⟨fun h => by omega, fun h => absurd h2 (h.1 ▸ UInt8.lt_irrefl _)⟩
        · rw [if_neg h2, ih b]
          exact ⟨fun h => ⟨u8_eq h1 h2, h⟩, fun h => h.2⟩
theorem cb_less : ∀ a b : List UInt8, Op.bytesLess a b = decide (Lib.compareBytes a b = -1) := by
  intro a
  induction a with
  | nil => intro b; cases b <;> simp [Lib.compareBytes, Op.bytesLess]
  | cons x a ih =>
    intro b
    cases b with
    | nil => simp [Lib.compareBytes, Op.bytesLess]
    | cons y b =>
      rw [Lib.compareBytes, Op.bytesLess]
      by_cases h1 : x < y
      · simp [h1]
      · rw [if_neg h1]
        by_cases h2 : y < x
        · rw [if_pos h2]
          have : (x == y) = false := by
            rw [beq_eq_false_iff_ne]
            intro h
            exact UInt8.lt_irrefl _ (h ▸ h2)
          simp [h1, this]
        · rw [if_neg h2, ih b, u8_eq h1 h2]
          simp [UInt8.lt_irrefl]
theorem cb_trans : ∀ a b c : List UInt8, Lib.compareBytes a b ≤ 0 → Lib.compareBytes b c ≤ 0 → Lib.compareBytes a c ≤ 0 := by
  intro a
  induction a with
  | nil => intro b c _ _; cases c <;> simp [Lib.compareBytes]
  | cons x a ih =>
    intro b c
    cases b with
    | nil => intro h; simp [Lib.compareBytes] at h
    | cons y b =>
      cases c with
      | nil => intro _ h; simp [Lib.compareBytes] at h
      | cons z c =>
        simp only [Lib.compareBytes]
        intro h1 h2
        by_cases q1 : x < y
        · by_cases q2 : y < z
          · rw [if_pos (UInt8.lt_trans q1 q2)]; decide
          · rw [if_neg q2] at h2
            by_cases q3 : z < y
            · rw [if_pos q3] at h2; omega
            · rw [← u8_eq q2 q3, if_pos q1]; decide
        · rw [if_neg q1] at h1
          by_cases q2 : y < x
          · rw [if_pos q2] at h1; omega
          · rw [if_neg q2] at h1
            have e := u8_eq q1 q2
            subst e
            by_cases q3 : x < z
            · rw [if_pos q3]; decide
            · rw [if_neg q3] at h2 ⊢
              by_cases q4 : z < x
              · rw [if_pos q4] at h2; omega
              · rw [if_neg q4] at h2 ⊢
                exact ih b c h1 h2
/-- Numbers, held against each other. -/
def cmpN (x y : Int) : Int := if x < y then -1 else if y < x then 1 else 0
theorem cmpN_cases (x y : Int) : (x < y ∧ cmpN x y = -1) ∨ (x = y ∧ cmpN x y = 0) ∨ (y < x ∧ cmpN x y = 1) := by
  unfold cmpN
  split
  · exact .inl ⟨by assumption, rfl⟩
  · split
    · exact .inr (.inr ⟨by assumption, rfl⟩)
    · exact .inr (.inl ⟨by omega, rfl⟩)
/-- The first that is not 0. -/
def orL (l : List Int) : Int := (l.find? (· != 0)).getD 0
def cmpR (ax ay : Int) (ak : List UInt8) (bx b_y : Int) (bk : List UInt8) : Int := orL [cmpN ay b_y, cmpN ax bx, Lib.compareBytes ak bk]
theorem cmpR_eq (ax ay : Int) (ak : List UInt8) (bx b_y : Int) (bk : List UInt8) :
    cmpR ax ay ak bx b_y bk = if ay < b_y then -1 else if b_y < ay then 1 else if ax < bx then -1 else if bx < ax then 1 else Lib.compareBytes ak bk := by
  unfold cmpR orL
  rcases cmpN_cases ay b_y with ⟨h, e⟩ | ⟨h, e⟩ | ⟨h, e⟩
  · rw [e, if_pos h]; rfl
  · rw [e, if_neg (by omega), if_neg (by omega)]
    rcases cmpN_cases ax bx with ⟨g, f⟩ | ⟨g, f⟩ | ⟨g, f⟩
    · rw [f, if_pos g]; rfl
    · rw [f, if_neg (by omega), if_neg (by omega)]
      rcases cb_three ak bk with c | c | c <;> rw [c] <;> rfl
    · rw [f, if_neg (by omega), if_pos g]; rfl
  · rw [e, if_neg (by omega), if_pos h]; rfl
theorem cmpR_anti (ax ay : Int) (ak : List UInt8) (bx b_y : Int) (bk : List UInt8) : cmpR bx b_y bk ax ay ak = -cmpR ax ay ak bx b_y bk := by
  rw [cmpR_eq, cmpR_eq, cb_anti ak bk]
  repeat' split
  all_goals omega
theorem cmpR_zero (ax ay : Int) (ak : List UInt8) (bx b_y : Int) (bk : List UInt8) : cmpR ax ay ak bx b_y bk = 0 ↔ ax = bx ∧ ay = b_y ∧ ak = bk := by
  rw [cmpR_eq, ← cb_zero ak bk]
  repeat' split
  all_goals omega
theorem cmpR_trans (ax ay : Int) (ak : List UInt8) (bx b_y : Int) (bk : List UInt8) (cx cy : Int) (ck : List UInt8) (h1 : cmpR ax ay ak bx b_y bk ≤ 0) (h2 : cmpR bx b_y bk cx cy ck ≤ 0) : cmpR ax ay ak cx cy ck ≤ 0 := by
  rw [cmpR_eq] at h1 h2 ⊢
  have ht := cb_trans ak bk ck
  split at h1 <;> split at h2 <;> (repeat' split at h1) <;> (repeat' split at h2) <;> (repeat' split) <;> first | omega | exact ht (by omega) (by omega)
end Go.Proofs.YthfhpejpjiaikaaGreat
namespace Go.Proofs.YthfhpejpjiaikaaGreat
/-- A record. -/
structure Rq where
  x : Int
  y : Int
  key : ByteArray
  val : ByteArray
  ver : Int
def encQ (r : Rq) : List Value := [.int .i64 r.x, .int .i64 r.y, .string r.key, .string r.val, .int .i64 r.ver]
theorem encQ_len (r : Rq) : (encQ r).length = 5 := rfl
def Rq.v (r : Rq) : Value := .agg #[.int .i64 r.x, .int .i64 r.y, .string r.key, .string r.val, .int .i64 r.ver]
/-- By Compare, a record against a cell and a key. -/
def cmpK (r : Rq) (x y : Int) (k : ByteArray) : Int := cmpR r.x r.y r.key.data.toList x y k.data.toList
def cmpQ (r s : Rq) : Int := cmpK r s.x s.y s.key
theorem ba_ext {a b : ByteArray} (h : a.data.toList = b.data.toList) : a = b := by
  obtain ⟨⟨a⟩⟩ := a
  obtain ⟨⟨b⟩⟩ := b
  simp at h
  rw [h]
theorem cmpK_zero (r : Rq) (x y : Int) (k : ByteArray) : cmpK r x y k = 0 ↔ r.x = x ∧ r.y = y ∧ r.key = k := by
  unfold cmpK
  rw [cmpR_zero]
  exact ⟨fun ⟨a, b, c⟩ => ⟨a, b, ba_ext c⟩, fun ⟨a, b, c⟩ => ⟨a, b, by rw [c]⟩⟩
theorem cmpQ_anti (r s : Rq) : cmpQ s r = -cmpQ r s := cmpR_anti _ _ _ _ _ _
theorem cmpQ_self (r : Rq) : cmpQ r r = 0 := (cmpK_zero r r.x r.y r.key).2 ⟨rfl, rfl, rfl⟩
theorem cmpK_trans {r s : Rq} {x y : Int} {k : ByteArray} (h : cmpQ r s ≤ 0) (g : cmpK s x y k ≤ 0) : cmpK r x y k ≤ 0 := cmpR_trans _ _ _ _ _ _ _ _ _ h g
theorem cmpK_eq {s : Rq} {x y : Int} {k : ByteArray} (g : cmpK s x y k = 0) (r : Rq) : cmpK r x y k = cmpQ r s := by
  obtain ⟨rfl, rfl, rfl⟩ := (cmpK_zero s x y k).1 g
  rfl
theorem cmpK_lt {r s : Rq} {x y : Int} {k : ByteArray} (h : cmpQ r s < 0) (g : cmpK s x y k ≤ 0) : cmpK r x y k < 0 := by
  have h1 := cmpK_trans (Int.le_of_lt h) g
  rcases Int.lt_or_eq_of_le h1 with c | c
  · exact c
  · exfalso
    obtain ⟨e1, e2, e3⟩ := (cmpK_zero r x y k).1 c
    subst e1 e2 e3
    have h2 : cmpQ s r ≤ 0 := g
    rw [cmpQ_anti] at h2
    omega
theorem cmpQ_lt_trans {r s t : Rq} (h : cmpQ r s < 0) (g : cmpQ s t < 0) : cmpQ r t < 0 := cmpK_lt h (Int.le_of_lt g)
def SortQ (L : List Rq) : Prop := L.Pairwise fun a b => cmpQ a b < 0
theorem sort_ext : ∀ {L M : List Rq}, SortQ L → SortQ M → (∀ s, s ∈ L ↔ s ∈ M) → L = M
  | [], [], _, _, _ => rfl
  | [], b :: M, _, _, h => absurd ((h b).2 List.mem_cons_self) List.not_mem_nil
  | a :: L, [], _, _, h => absurd ((h a).1 List.mem_cons_self) List.not_mem_nil
  | a :: L, b :: M, hL, hM, h => by
    have hL2 := List.pairwise_cons.1 hL
    have hM2 := List.pairwise_cons.1 hM
    have irr : ∀ s : Rq, ¬ cmpQ s s < 0 := fun s => by rw [cmpQ_self]; omega
    have hab : a = b := by
      rcases List.mem_cons.1 ((h a).1 List.mem_cons_self) with e | e
      · exact e
      · rcases List.mem_cons.1 ((h b).2 List.mem_cons_self) with e2 | e2
        · exact e2.symm
        · exact absurd (cmpQ_lt_trans (hL2.1 b e2) (hM2.1 a e)) (irr a)
    subst hab
    rw [sort_ext hL2.2 hM2.2 (fun s => ?_)]
    constructor
    · intro hs
      rcases List.mem_cons.1 ((h s).1 (List.mem_cons_of_mem _ hs)) with e | e
      · subst e; exact absurd (hL2.1 s hs) (irr s)
      · exact e
    · intro hs
      rcases List.mem_cons.1 ((h s).2 (List.mem_cons_of_mem _ hs)) with e | e
      · subst e; exact absurd (hM2.1 s hs) (irr s)
      · exact e
/-- Where a record of a cell and key stands, or would. -/
def posQ (L : List Rq) (x y : Int) (k : ByteArray) : Nat := L.countP fun s => decide (cmpK s x y k < 0)
def hasQ (L : List Rq) (x y : Int) (k : ByteArray) : Bool := L.any fun s => cmpK s x y k == 0
theorem posQ_le (L : List Rq) (x y : Int) (k : ByteArray) : posQ L x y k ≤ L.length := List.countP_le_length
theorem posQ_take : ∀ {L : List Rq} {x y : Int} {k : ByteArray}, SortQ L → ∀ i (h : i < L.length), (cmpK L[i] x y k < 0 ↔ i < posQ L x y k)
  | a :: L, x, y, k, hs, i, h => by
    have hs2 := List.pairwise_cons.1 hs
    unfold posQ
    rw [List.countP_cons]
    cases i with
    | zero =>
      simp only [List.getElem_cons_zero]
      by_cases c : cmpK a x y k < 0
      · simp [c]
      · have : L.countP (fun s => decide (cmpK s x y k < 0)) = 0 := by
          rw [List.countP_eq_zero]
          intro s hs' hc
          exact c (cmpK_lt (hs2.1 s hs') (Int.le_of_lt (of_decide_eq_true hc)))
        simp [c, this]
    | succ i =>
      have ih := posQ_take (x := x) (y := y) (k := k) hs2.2 i (by simpa using h)
      unfold posQ at ih
      simp only [List.getElem_cons_succ]
      rw [ih]
      by_cases c : cmpK a x y k < 0
      · simp [c]
      · have z : L.countP (fun s => decide (cmpK s x y k < 0)) = 0 := by
          rw [List.countP_eq_zero]
          intro s hs' hc
          exact c (cmpK_lt (hs2.1 s hs') (Int.le_of_lt (of_decide_eq_true hc)))
        simp [c, z]
theorem posQ_zero {L : List Rq} {x y : Int} {k : ByteArray} (hs : SortQ L) {i : Nat} (h : i < L.length) (z : cmpK L[i] x y k = 0) : i = posQ L x y k := by
  have h1 := mt (posQ_take (x := x) (y := y) (k := k) hs i h).2 (by omega)
  rcases Nat.lt_or_eq_of_le (Nat.not_lt.1 h1) with c | c
  · exfalso
    have hp : posQ L x y k < L.length := Nat.lt_trans c h
    have h2 := mt (posQ_take (x := x) (y := y) (k := k) hs _ hp).1 (Nat.lt_irrefl _)
    have h3 := List.pairwise_iff_getElem.1 hs _ _ hp h c
    rw [← cmpK_eq z] at h3
    exact h2 h3
  · exact c.symm
theorem hasQ_iff {L : List Rq} {x y : Int} {k : ByteArray} (hs : SortQ L) : hasQ L x y k = true ↔ ∃ h : posQ L x y k < L.length, cmpK L[posQ L x y k] x y k = 0 := by
  unfold hasQ
  rw [List.any_eq_true]
  constructor
  · rintro ⟨s, hm, hz⟩
    obtain ⟨i, hi, rfl⟩ := List.getElem_of_mem hm
    have e := posQ_zero hs hi (beq_iff_eq.1 hz)
    subst e
    exact ⟨hi, beq_iff_eq.1 hz⟩
  · rintro ⟨h, z⟩
    exact ⟨_, List.getElem_mem h, beq_iff_eq.2 z⟩
theorem hasQ_mem {L : List Rq} {x y : Int} {k : ByteArray} : hasQ L x y k = true ↔ ∃ s ∈ L, cmpK s x y k = 0 := by
  unfold hasQ
  rw [List.any_eq_true]
  exact ⟨fun ⟨s, h, z⟩ => ⟨s, h, beq_iff_eq.1 z⟩, fun ⟨s, h, z⟩ => ⟨s, h, beq_iff_eq.2 z⟩⟩
/-- Put, Del. -/
def putQ (L : List Rq) (r : Rq) : List Rq := if hasQ L r.x r.y r.key = true then L.set (posQ L r.x r.y r.key) r else L.take (posQ L r.x r.y r.key) ++ r :: L.drop (posQ L r.x r.y r.key)
def delQ (L : List Rq) (x y : Int) (k : ByteArray) : List Rq := if hasQ L x y k = true then L.take (posQ L x y k) ++ L.drop (posQ L x y k + 1) else L
theorem getQ_lt {L : List Rq} {x y : Int} {k : ByteArray} (hs : SortQ L) {s : Rq} (h : s ∈ L.take (posQ L x y k)) : cmpK s x y k < 0 := by
  obtain ⟨i, hi, rfl⟩ := List.getElem_of_mem h
  have hl := hi
  rw [List.length_take] at hl
  rw [List.getElem_take]
  exact (posQ_take hs i (by omega)).2 (by omega)
theorem getQ_ge {L : List Rq} {x y : Int} {k : ByteArray} (hs : SortQ L) {s : Rq} (h : s ∈ L.drop (posQ L x y k)) : 0 ≤ cmpK s x y k := by
  obtain ⟨i, hi, rfl⟩ := List.getElem_of_mem h
  rw [List.length_drop] at hi
  rw [List.getElem_drop]
  have := mt (posQ_take (x := x) (y := y) (k := k) hs (posQ L x y k + i) (by omega)).1 (by omega)
  omega
theorem getQ_gt {L : List Rq} {x y : Int} {k : ByteArray} (hs : SortQ L) {s : Rq} (h : s ∈ L.drop (posQ L x y k + 1)) : 0 < cmpK s x y k := by
  have h1 : s ∈ L.drop (posQ L x y k) := List.mem_of_mem_drop (i := 1) (by rw [List.drop_drop]; exact h)
  have h2 := getQ_ge hs h1
  rcases Int.lt_or_eq_of_le h2 with c | c
  · exact c
  · exfalso
    obtain ⟨i, hi, rfl⟩ := List.getElem_of_mem h
    rw [List.length_drop] at hi
    rw [List.getElem_drop] at c
    have := posQ_zero hs (by omega) c.symm
    omega
theorem cmpQ_swap {r s : Rq} (h : 0 < cmpQ s r) : cmpQ r s < 0 := by rw [cmpQ_anti]; omega
theorem mid_sort {A C : List Rq} {r : Rq} (hA : SortQ A) (hC : SortQ C) (h1 : ∀ s ∈ A, cmpQ s r < 0) (h2 : ∀ s ∈ C, cmpQ r s < 0) : SortQ (A ++ r :: C) := by
  refine List.pairwise_append.2 ⟨hA, List.pairwise_cons.2 ⟨h2, hC⟩, fun a ha b hb => ?_⟩
  rcases List.mem_cons.1 hb with rfl | hb
  · exact h1 a ha
  · exact cmpQ_lt_trans (h1 a ha) (h2 b hb)
theorem set_split : ∀ (L : List Rq) (i : Nat) (r : Rq), i < L.length → L.set i r = L.take i ++ r :: L.drop (i + 1)
  | a :: L, 0, r, _ => rfl
  | a :: L, i + 1, r, h => by simp [set_split L i r (by simpa using h)]
theorem putQ_sort {L : List Rq} (hs : SortQ L) (r : Rq) : SortQ (putQ L r) := by
  unfold putQ
  split
  · next h =>
    obtain ⟨hp, hz⟩ := (hasQ_iff hs).1 h
    rw [set_split _ _ _ hp]
    exact mid_sort (hs.sublist (List.take_sublist _ _)) (hs.sublist (List.drop_sublist _ _)) (fun s h => getQ_lt hs h) (fun s h => cmpQ_swap (getQ_gt hs h))
  · next h =>
    refine mid_sort (hs.sublist (List.take_sublist _ _)) (hs.sublist (List.drop_sublist _ _)) (fun s h => getQ_lt hs h) (fun s hm => cmpQ_swap ?_)
    rcases Int.lt_or_eq_of_le (getQ_ge hs hm) with c | c
    · exact c
    · exact absurd (hasQ_mem.2 ⟨s, List.mem_of_mem_drop hm, c.symm⟩) h
theorem split_mem {L : List Rq} {i : Nat} (h : i < L.length) (s : Rq) : s ∈ L ↔ s ∈ L.take i ∨ s = L[i] ∨ s ∈ L.drop (i + 1) := by
  have e : L = L.take i ++ L[i] :: L.drop (i + 1) := by rw [← List.drop_eq_getElem_cons h, List.take_append_drop]
  constructor
  · intro hs
    rw [e] at hs
    rcases List.mem_append.1 hs with z | z
    · exact .inl z
    · exact .inr (List.mem_cons.1 z)
  · rintro (z | z | z)
    · exact List.mem_of_mem_take z
    · rw [z]; exact List.getElem_mem h
    · exact List.mem_of_mem_drop z
theorem putQ_mem {L : List Rq} (hs : SortQ L) (r s : Rq) : s ∈ putQ L r ↔ s = r ∨ (s ∈ L ∧ cmpQ s r ≠ 0) := by
  unfold putQ
  split
  · next h =>
    obtain ⟨hp, hz⟩ := (hasQ_iff hs).1 h
    rw [set_split _ _ _ hp, List.mem_append, List.mem_cons, split_mem hp s]
    constructor
    · rintro (z | z | z)
      · exact .inr ⟨.inl z, by have : cmpQ s r < 0 := getQ_lt hs z; omega⟩
      · exact .inl z
      · exact .inr ⟨.inr (.inr z), by have : 0 < cmpQ s r := getQ_gt hs z; omega⟩
    · rintro (z | ⟨z | z | z, hn⟩)
      · exact .inr (.inl z)
      · exact .inl z
      · exact absurd (by rw [z]; exact hz) hn
      · exact .inr (.inr z)
  · next h =>
    rw [List.mem_append, List.mem_cons]
    have e : s ∈ L ↔ s ∈ L.take (posQ L r.x r.y r.key) ∨ s ∈ L.drop (posQ L r.x r.y r.key) := by rw [← List.mem_append, List.take_append_drop]
    have hn : s ∈ L → cmpQ s r ≠ 0 := fun hm hz => h (hasQ_mem.2 ⟨s, hm, hz⟩)
    constructor
    · rintro (z | z | z)
      · exact .inr ⟨e.2 (.inl z), hn (e.2 (.inl z))⟩
      · exact .inl z
      · exact .inr ⟨e.2 (.inr z), hn (e.2 (.inr z))⟩
    · rintro (z | ⟨z, _⟩)
      · exact .inr (.inl z)
      · exact (e.1 z).imp id .inr
theorem delQ_sort {L : List Rq} (hs : SortQ L) (x y : Int) (k : ByteArray) : SortQ (delQ L x y k) := by
  unfold delQ
  split
  · next h =>
    obtain ⟨hp, hz⟩ := (hasQ_iff hs).1 h
    refine List.pairwise_append.2 ⟨hs.sublist (List.take_sublist _ _), hs.sublist (List.drop_sublist _ _), fun a ha b hb => ?_⟩
    have h1 := getQ_lt hs ha
    have h2 := getQ_gt hs hb
    rw [cmpK_eq hz] at h1 h2
    exact cmpQ_lt_trans h1 (cmpQ_swap h2)
  · exact hs
theorem delQ_mem {L : List Rq} (hs : SortQ L) (x y : Int) (k : ByteArray) (s : Rq) : s ∈ delQ L x y k ↔ s ∈ L ∧ cmpK s x y k ≠ 0 := by
  unfold delQ
  split
  · next h =>
    obtain ⟨hp, hz⟩ := (hasQ_iff hs).1 h
    rw [List.mem_append, split_mem hp s]
    constructor
    · rintro (z | z)
      · exact ⟨.inl z, by have := getQ_lt hs z; omega⟩
      · exact ⟨.inr (.inr z), by have := getQ_gt hs z; omega⟩
    · rintro ⟨z | z | z, hn⟩
      · exact .inl z
      · exact absurd (by rw [z]; exact hz) hn
      · exact .inr z
  · next h => exact ⟨fun z => ⟨z, fun hz => h (hasQ_mem.2 ⟨s, z, hz⟩)⟩, fun z => z.1⟩
theorem putQ_len (L : List Rq) (r : Rq) : (putQ L r).length = if hasQ L r.x r.y r.key = true then L.length else L.length + 1 := by
  unfold putQ
  split
  · simp
  · have := posQ_le L r.x r.y r.key
    simp
    omega
theorem delQ_len {L : List Rq} (hs : SortQ L) (x y : Int) (k : ByteArray) : (delQ L x y k).length = if hasQ L x y k = true then L.length - 1 else L.length := by
  unfold delQ
  split
  · next h =>
    obtain ⟨hp, _⟩ := (hasQ_iff hs).1 h
    simp
    omega
  · rfl
theorem put_part {p : Rq → Bool} {L : List Rq} (hs : SortQ L) {r : Rq} (hr : p r = true) : (putQ L r).filter p = putQ (L.filter p) r := by
  refine sort_ext ((putQ_sort hs r).filter _) (putQ_sort (hs.filter _) r) (fun s => ?_)
  rw [List.mem_filter, putQ_mem hs, putQ_mem (hs.filter _), List.mem_filter]
  constructor
  · rintro ⟨z | z, q⟩
    · exact .inl z
    · exact .inr ⟨⟨z.1, q⟩, z.2⟩
  · rintro (z | z)
    · exact ⟨.inl z, by rw [z]; exact hr⟩
    · exact ⟨.inr ⟨z.1.1, z.2⟩, z.1.2⟩
theorem put_out {p : Rq → Bool} (hp : ∀ r s : Rq, r.x = s.x → r.y = s.y → p r = p s) {L : List Rq} (hs : SortQ L) {r : Rq} (hr : p r = false) : (putQ L r).filter p = L.filter p := by
  refine sort_ext ((putQ_sort hs r).filter _) (hs.filter _) (fun s => ?_)
  rw [List.mem_filter, putQ_mem hs, List.mem_filter]
  constructor
  · rintro ⟨z | z, q⟩
    · rw [z, hr] at q; cases q
    · exact ⟨z.1, q⟩
  · rintro ⟨z, q⟩
    refine ⟨.inr ⟨z, fun e => ?_⟩, q⟩
    obtain ⟨e1, e2, _⟩ := (cmpK_zero s r.x r.y r.key).1 e
    rw [hp s r e1 e2, hr] at q; cases q
theorem del_part {p : Rq → Bool} {L : List Rq} (hs : SortQ L) (x y : Int) (k : ByteArray) : (delQ L x y k).filter p = delQ (L.filter p) x y k := by
  refine sort_ext ((delQ_sort hs x y k).filter _) (delQ_sort (hs.filter _) x y k) (fun s => ?_)
  rw [List.mem_filter, delQ_mem hs, delQ_mem (hs.filter _), List.mem_filter]
  exact ⟨fun ⟨⟨a, b⟩, c⟩ => ⟨⟨a, c⟩, b⟩, fun ⟨⟨a, c⟩, b⟩ => ⟨⟨a, b⟩, c⟩⟩
theorem has_part {p : Rq → Bool} (hp : ∀ r s : Rq, r.x = s.x → r.y = s.y → p r = p s) {L : List Rq} {x y : Int} {k : ByteArray} (r : Rq) (hr : p r = true) (e1 : r.x = x) (e2 : r.y = y) : hasQ (L.filter p) x y k = hasQ L x y k := by
  rw [Bool.eq_iff_iff, hasQ_mem, hasQ_mem]
  constructor
  · rintro ⟨s, h, z⟩; exact ⟨s, (List.mem_filter.1 h).1, z⟩
  · rintro ⟨s, h, z⟩
    obtain ⟨f1, f2, _⟩ := (cmpK_zero s x y k).1 z
    exact ⟨s, List.mem_filter.2 ⟨h, (hp s r (f1.trans e1.symm) (f2.trans e2.symm)).trans hr⟩, z⟩
end Go.Proofs.YthfhpejpjiaikaaGreat
namespace Go.Proofs.YthfhpejpjiaikaaGreat
open Go.ChangeShapes Go.WideShapes Go.RowKit
set_option linter.unusedSimpArgs false
set_option maxRecDepth 100000 in
theorem open_rec8 {H : Type} {enc : TypeId × Value → H} {w : World} {base b0 : Nat} {spare : Nat → Bool} {held : Bool} {r : Reach} {v : Value} {d : DataW H} {p : List MemPlace}
    (hv : Value.okWide Tryz.prog w r b0 52 v) (h : DataW.Trod enc Tryz.prog w base spare held 52 v d p) : ∃ (z0 : Int) (z1 : Int) (z2 : ByteArray) (z3 : ByteArray) (z4 : Int), v = .agg #[.int .i64 z0, .int .i64 z1, .string z2, .string z3, .int .i64 z4] := by
  obtain ⟨cs, rfl, hsz⟩ := okWide_struct Tryz.underlying52 hv
  have ce : Tryz.prog.cellsOf 52 = 5 := by kernel_rfl
  have ci : Tryz.prog.cellsOf 3 = 1 := by kernel_rfl
  have cs1 : Tryz.prog.cellsOf 9 = 1 := by kernel_rfl
  have cb1 : Tryz.prog.cellsOf 4 = 1 := by kernel_rfl
  have cp : Tryz.prog.cellsOf 50 = 2 := by kernel_rfl
  rw [ce] at hsz
  obtain ⟨fuel, hf⟩ := h
  obtain ⟨l⟩ := cs
  match l, hsz with
  | [c0, c1, c2, c3, c4], _ =>
    obtain ⟨xs, k, hk, hxy, _, hxl, hg⟩ := DataW.trod_struct Tryz.underlying52 hf
    match xs, hxl with
    | [y0, y1, y2, y3], _ =>
      have g0 := hg 0 _ rfl
      have g1 := hg 1 _ rfl
      have g2 := hg 2 _ rfl
      have g3 := hg 3 _ rfl
      simp [ci, cp, cs1, cb1, Value.cells] at g0 g1 g2 g3
      obtain ⟨z2, e2, _⟩ := DataW.trod_string Tryz.underlying9 g1
      obtain ⟨z3, e3, _⟩ := DataW.trod_string Tryz.underlying9 g2
      obtain ⟨z4, e4, _⟩ := DataW.trod_int Tryz.underlying3 g3
      obtain ⟨ys, k', _, _, _, hyl, hh⟩ := DataW.trod_struct Tryz.underlying50 g0
      match ys, hyl with
      | [p0, p1], _ =>
        have f0 := hh 0 _ rfl
        have f1 := hh 1 _ rfl
        simp [ci] at f0 f1
        obtain ⟨z0, e0, _⟩ := DataW.trod_int Tryz.underlying3 f0
        obtain ⟨z1, e1, _⟩ := DataW.trod_int Tryz.underlying3 f1
        simp only [List.cons.injEq, and_true] at e2 e3 e4 e0 e1
        subst e2 e3 e4 e0 e1
        exact ⟨z0, z1, z2, z3, z4, rfl⟩
set_option maxRecDepth 100000 in
theorem open_recs8 {H : Type} {enc : TypeId × Value → H} {w : World} {base : Nat} {spare : Nat → Bool} {held : Bool} {fuel : Nat} {a : Option Addr} {len cap : Nat} {x : DataW H × List MemPlace}
    (h : DataW.trod enc Tryz.prog w base spare held fuel 24 [.slice a len cap] = some x) : ∃ A : List Rq, LentE encQ 5 w.heap.size w (.slice a len cap) A := by
  rcases Go.Deep.open_slice Tryz.underlying24 h with ⟨hcs, _⟩ | ⟨y, l, c, m, n, D, Pl, hcs, _, hl, _, hmm, _, hi⟩
  · simp only [List.cons.injEq, Value.slice.injEq, and_true] at hcs
    obtain ⟨rfl, rfl, rfl⟩ := hcs
    exact ⟨[], none, 0, rfl, .inl rfl⟩
  · simp only [List.cons.injEq, Value.slice.injEq, and_true] at hcs
    obtain ⟨rfl, rfl, rfl⟩ := hcs
    have each : ∀ i, i < len → ∃ q : Rq, ∀ j u, (encQ q)[j]? = some u → w.cell? (y.add (i * 5 + j)) = some u := by
      intro i hil
      obtain ⟨cs', h1, h2⟩ := hi i (by split at hmm <;> omega)
      have ce : Tryz.prog.cellsOf 52 = 5 := by kernel_rfl
      have ci : Tryz.prog.cellsOf 3 = 1 := by kernel_rfl
      have cs1 : Tryz.prog.cellsOf 9 = 1 := by kernel_rfl
      have cp : Tryz.prog.cellsOf 50 = 2 := by kernel_rfl
      rw [ce] at h1
      obtain ⟨_, hlen, hcell⟩ := World.cells?_some h1
      obtain ⟨xs, k, hk, hxy, _, hxl, hg⟩ := DataW.trod_struct Tryz.underlying52 h2
      match xs, hxl, cs', hlen with
      | [y0, y1, y2, y3], _, [c0, c1, c2, c3, c4], _ =>
        have g0 := hg 0 _ rfl
        have g1 := hg 1 _ rfl
        have g2 := hg 2 _ rfl
        have g3 := hg 3 _ rfl
        simp [ci, cp, cs1] at g0 g1 g2 g3
        obtain ⟨z2, e2, _⟩ := DataW.trod_string Tryz.underlying9 g1
        obtain ⟨z3, e3, _⟩ := DataW.trod_string Tryz.underlying9 g2
        obtain ⟨z4, e4, _⟩ := DataW.trod_int Tryz.underlying3 g3
        obtain ⟨ys, k', _, _, _, hyl, hh⟩ := DataW.trod_struct Tryz.underlying50 g0
        match ys, hyl with
        | [p0, p1], _ =>
          have f0 := hh 0 _ rfl
          have f1 := hh 1 _ rfl
          simp [ci] at f0 f1
          obtain ⟨z0, e0, _⟩ := DataW.trod_int Tryz.underlying3 f0
          obtain ⟨z1, e1, _⟩ := DataW.trod_int Tryz.underlying3 f1
          simp only [List.cons.injEq, and_true] at e0 e1 e2 e3 e4
          subst e0 e1 e2 e3 e4
          refine ⟨⟨z0, z1, z2, z3, z4⟩, fun j u hu => ?_⟩
          have hj : j < 5 := (List.getElem?_eq_some_iff.1 hu).1
          have hc := hcell j hj
          rw [Go.Deep.add_add] at hc
          rw [hc]
          exact hu
    obtain ⟨q, hq⟩ : ∃ q : Nat → Rq, ∀ i, i < len → ∀ j u, (encQ (q i))[j]? = some u → w.cell? (y.add (i * 5 + j)) = some u :=
      ⟨fun i => if h : i < len then (each i h).choose else ⟨0, 0, ⟨#[]⟩, ⟨#[]⟩, 0⟩, fun i h j u hu => by simp only [dif_pos h] at hu; exact (each i h).choose_spec j u hu⟩
    refine ⟨(List.range len).map q, some y, cap, by simp, ?_⟩
    by_cases h0 : len = 0
    · exact .inl (by simp [h0])
    · obtain ⟨b, off, spot⟩ := y
      have hc0 := hq 0 (by omega) 0 _ rfl
      have hspot : spot = none := by simpa [Addr.add] using World.cell?_spot hc0
      subst hspot
      refine .inr ⟨b, off, rfl, World.block_lt_of_cell? w _ (by simpa [Addr.add] using hc0), fun i hi' j u hu => ?_⟩
      simp only [List.length_map, List.length_range] at hi'
      simp only [List.getElem_map, List.getElem_range] at hu
      have h1 := hq i hi' j u hu
      rw [Addr.add_lit] at h1
      rw [Nat.add_assoc]
      exact h1
end Go.Proofs.YthfhpejpjiaikaaGreat
