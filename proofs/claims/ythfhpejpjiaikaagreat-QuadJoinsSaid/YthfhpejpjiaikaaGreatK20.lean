/- Ranges over a function: an iterator's contract by footprints, and the law for the loop over it. Nothing of one program. -/
import Derived.Test.YthfhpejpjiaikaaGreatK09
import Derived.RangeFuncNested
import Derived.RangeFuncBound
import Derived.RangeFuncCalls
import Derived.RangeFuncLeaves
import Derived.Shelf.Abstract
import Derived.OwnWalkIn
import Derived.TacticsInMore
import Derived.LoopNIn
import Derived.LoopIn
namespace Go.Proofs.YthfhpejpjiaikaaGreat
open Go.RowKit Go.Shelf
theorem wide_e (n : Nat) : Fence.wide.depth.isSome = true → 1 ≤ n := fun h => by cases h
/-- What is known of an object with footprint F abides whatever leaves F's blocks alone. -/
def Kept {β : Type} (J : β → (Nat → Prop) → World → Prop) : Prop := ∀ s F W W', J s F W → W.heap.size ≤ W'.heap.size → (∀ b, F b → W'.heap[b]? = W.heap[b]?) → J s F W'
def Low {β : Type} (J : β → (Nat → Prop) → World → Prop) : Prop := ∀ s F W, J s F W → ∀ b, F b → b < W.heap.size
/-- Behind a step: the object is there, its footprint is of the old one or of new blocks; nothing else has changed. -/
def EndP {β : Type} (J : β → (Nat → Prop) → World → Prop) (s : β) (F : Nat → Prop) (W W' : World) : Prop := ∃ F', J s F' W' ∧ Off F W W' ∧ ∀ b, F' b → F b ∨ W.heap.size ≤ b
/-- .. and it has nothing to do with block D. -/
def EndD {β : Type} (J : β → (Nat → Prop) → World → Prop) (s : β) (F : Nat → Prop) (W W' : World) (D : Nat) : Prop := ∃ F', J s F' W' ∧ Off F W W' ∧ (∀ b, F' b → F b ∨ W.heap.size ≤ b) ∧ ¬ F' D
theorem EndP.refl {β : Type} {J : β → (Nat → Prop) → World → Prop} {s : β} {F : Nat → Prop} {W : World} (h : J s F W) : EndP J s F W W := ⟨F, h, Off.refl _ _, fun _ h => .inl h⟩
theorem EndP.trans {γ : Type} {F F1 : Nat → Prop} {W W1 W2 : World} (ho : Off F W W1) (hf : ∀ b, F1 b → F b ∨ W.heap.size ≤ b) {K : γ → (Nat → Prop) → World → Prop} {t : γ} (h : EndP K t F1 W1 W2) : EndP K t F W W2 := by
  obtain ⟨F2, h1, h2, h3⟩ := h
  refine ⟨F2, h1, ho.trans h2 (fun b hb z => (hf b z).resolve_right (by omega)), fun b hb => ?_⟩
  rcases h3 b hb with h | h
  · exact hf b h
  · exact .inr (Nat.le_trans ho.size h)
theorem EndP.since {β : Type} {J : β → (Nat → Prop) → World → Prop} {s : β} {F : Nat → Prop} {W W1 W2 : World} (hs : Since W W1) (h : EndP J s F W1 W2) : EndP J s F W W2 := EndP.trans (hs.off F) (fun _ h => .inl h) h
theorem EndP.mono {β : Type} {J : β → (Nat → Prop) → World → Prop} {γ : Type} {K : γ → (Nat → Prop) → World → Prop} {s : β} {t : γ} {F : Nat → Prop} {W W' : World} (h : EndP J s F W W') (hk : ∀ F', J s F' W' → K t F' W') : EndP K t F W W' := by
  obtain ⟨F', h1, h2, h3⟩ := h
  exact ⟨F', hk F' h1, h2, h3⟩
theorem Kept.since {β : Type} {J : β → (Nat → Prop) → World → Prop} (h : Kept J) (hl : Low J) {s : β} {F : Nat → Prop} {W W' : World} (hj : J s F W) (hs : Since W W') : J s F W' := h s F W W' hj hs.size (fun b hb => hs.block b (hl s F W hj b hb))
theorem Kept.off {β : Type} {J : β → (Nat → Prop) → World → Prop} (h : Kept J) (hl : Low J) {s : β} {F G : Nat → Prop} {W W' : World} (hj : J s F W) (hs : Off G W W') (hd : ∀ b, F b → ¬ G b) : J s F W' := h s F W W' hj hs.size (fun b hb => hs.block b (hl s F W hj b hb) (hd b hb))
/-- A round: it goes on (true), or has said 'no more' (false). -/
def RndP {α : Type} (J Jx : List α → (Nat → Prop) → World → Prop) (pre : List α) (x : α) (F : Nat → Prop) (W : World) (e : Ending) (W' : World) : Prop :=
  (e = .returned (.bool true) ∧ EndP J (pre ++ [x]) F W W') ∨ (e = .returned (.bool false) ∧ EndP Jx (pre ++ [x]) F W W')
/-- A call of yield l, at whatever depth. -/
def Yld (l : Nat) (args : Array Value) (W : World) (R : Ending → World → Prop) : Prop := ∀ m, YieldAt Fence.wide m Tryz.prog l args W R
/-- **An iterator**: function g with lb captured hands out xs, one by one; it leans on the blocks G as they lie in w. -/
def SeqO {α : Type} (g : Nat) (lb : Array Value) (encs : α → Array Value) (xs : List α) (G : Nat → Prop) (w : World) : Prop :=
  ∀ (l : Nat) (J Jx : List α → (Nat → Prop) → World → Prop) (F0 : Nat → Prop) (W : World),
    w.heap.size ≤ W.heap.size → (∀ b, G b → W.heap[b]? = w.heap[b]?) → (∀ b, F0 b → ¬ G b) → Kept J → Low J → Kept Jx → Low Jx →
    (∀ pre x F W1, pre ++ [x] <+: xs → J pre F W1 → Off F0 W W1 → Yld l (encs x) W1 (RndP J Jx pre x F W1)) → J [] F0 W →
    Calls Tryz.prog g (#[.func (.yield l) #[] #[]] ++ lb) W fun e W' => (∃ v, e = .returned v) ∧ (EndP J xs F0 W W' ∨ ∃ pre, pre <+: xs ∧ EndP Jx pre F0 W W')
/-- How the body of a round may be left. -/
def bodyO {α : Type} (I : List α → (Nat → Prop) → World → Prop) (Ix : Code → List α → (Nat → Prop) → World → Prop) (xs : List α) (F : Nat → Prop) (W W2 : World) : Exit → Act → World → Prop
  | .normal, _, W' => ∃ F', I xs F' W' ∧ Off F W2 W' ∧ ∀ b, F' b → F b ∨ W.heap.size ≤ b
  | .ret, _, W' => ∃ F', Ix .ret xs F' W' ∧ Off F W2 W' ∧ ∀ b, F' b → F b ∨ W.heap.size ≤ b
  | .exit id, _, W' => ∃ F', Ix (.exit id) xs F' W' ∧ Off F W2 W' ∧ ∀ b, F' b → F b ∨ W.heap.size ≤ b
  | .goto t, _, W' => ∃ F', Ix (.goto t) xs F' W' ∧ Off F W2 W' ∧ ∀ b, F' b → F b ∨ W.heap.size ≤ b
  | .panic _, _, _ => False
  | .outgrown, _, _ => False
theorem off_putObj (W : World) (l : Nat) (o : Obj) : Off (fun b => b = l) W (W.putObj l o) := ⟨rfl, rfl, rfl, by simp, fun b _ hb => World.putObj_heap_other hb⟩
/-- **The law for a loop over such an iterator** (no loop around it). -/
theorem range_wp {α : Type} {g : Operand} {ps : Array Tmp} {assign body : Code} {Q : Exit → Act → World → Prop} {a : Act} {w : World}
    {gf : Nat} {lb : Array Value} (hg : a.eval g = .func (.func gf) #[] lb) (eg : ∀ args w, (callFunc gf args).run Tryz.prog w = .ok (.enter gf args) w)
    {encs : α → Array Value} {xs : List α} {G : Nat → Prop} (hseq : SeqO gf lb encs xs G w) (hG : ∀ b, G b → b < w.heap.size) (hps : ∀ x, (encs x).size = ps.size)
    (I : List α → (Nat → Prop) → World → Prop) (Ix : Code → List α → (Nat → Prop) → World → Prop) (keepI : Kept I) (lowI : Low I) (keepX : ∀ c, Kept (Ix c)) (lowX : ∀ c, Low (Ix c))
    (F0 : Nat → Prop) (hF0 : ∀ b, F0 b → ¬ G b) (h0 : I [] F0 w)
    (hround : ∀ (l : Nat) (pre : List α) (x : α) (F : Nat → Prop) (W : World), pre ++ [x] <+: xs → I pre F W → Off F0 w W → w.heap.size ≤ l → l < W.heap.size → ¬ F l →
      assign.wpIn (Fence.wide.inRound l) 0 Tryz.prog (Exit.then (fun a1 W1 => Since W W1 ∧ ∀ W2, W2.heap.size = W1.heap.size → Off (fun b => b = l) W1 W2 →
        body.wpIn (Fence.wide.inRound l) 0 Tryz.prog (bodyO I Ix (pre ++ [x]) F W W2) a1 W2) (fun _ _ _ => False))
        { tmps := (ps.zip (encs x)).foldl (fun t (p, v) => t.setIfInBounds p v) a.tmps, defers := [] } W)
    (hdone : ∀ (D : Nat) (W : World), w.heap.size ≤ D → EndD I xs F0 w W D → W.heap[D]? = some (.deferred (some [])) → Q .normal { a with defers := { target := .collected D, args := #[] } :: a.defers } W)
    (hstop : ∀ (D : Nat) (c : Code) (pre : List α) (W : World), w.heap.size ≤ D → pre <+: xs → EndD (Ix c) pre F0 w W D → W.heap[D]? = some (.deferred (some [])) → c.wpIn Fence.wide 0 Tryz.prog Q { a with defers := { target := .collected D, args := #[] } :: a.defers } W) :
    (Code.rangeFunc g ps assign body).wpIn Fence.wide 0 Tryz.prog Q a w := by
  refine wpIn_rangeFunc ?_
  intro fn _
  obtain ⟨rec, hrec⟩ : ∃ rec : LoopState → Option Code → Loop, rec = fun st pe => { state := st, pending := pe, fn, tmps := a.tmps, params := ps, assign, body, defers := w.heap.size } := ⟨_, rfl⟩
  obtain ⟨W1, hW1⟩ : ∃ W1, W1 = (w.alloc (.deferred (some []))).alloc (.loop (rec .ready none)) := ⟨_, rfl⟩
  obtain ⟨l, hl⟩ : ∃ l, l = w.heap.size + 1 := ⟨_, rfl⟩
  have hs1 : Since w W1 := by rw [hW1]; exact ((Since.refl w).alloc _).alloc _
  have hz1 : W1.heap.size = w.heap.size + 2 := by rw [hW1]; simp
  have hL1 : W1.heap[l]? = some (.loop (rec .ready none)) := by
    rw [hW1, hl]; have := World.alloc_heap_new (w.alloc (.deferred (some []))) (.loop (rec .ready none)); rwa [World.size_alloc] at this
  have hD1 : W1.heap[w.heap.size]? = some (.deferred (some [])) := by
    rw [hW1]; exact (Below.heap_alloc _ _ _ (by simp)).trans (World.alloc_heap_new w _)
  have hFl : ∀ b, F0 b → b < w.heap.size := lowI _ _ _ h0
  -- the caller's object with the two blocks of book-keeping beside it
  let X : (List α → (Nat → Prop) → World → Prop) → LoopState → Option Code → List α → (Nat → Prop) → World → Prop := fun K st pe pre F' W =>
    ∃ F, K pre F W ∧ (∀ b, F' b ↔ F b ∨ b = l ∨ b = w.heap.size) ∧ ¬ F l ∧ ¬ F w.heap.size ∧ W.heap[l]? = some (.loop (rec st pe)) ∧ W.heap[w.heap.size]? = some (.deferred (some []))
  have lt_of : ∀ {W : World} {b : Nat} {o : Obj}, W.heap[b]? = some o → b < W.heap.size := fun h => (Array.getElem?_eq_some_iff.1 h).1
  have kX : ∀ K st pe, Kept K → Kept (X K st pe) := by
    rintro K st pe hK pre F' W W' ⟨F, h1, h2, h3, h4, h5, h6⟩ hsz hb
    exact ⟨F, hK _ _ _ _ h1 hsz (fun b z => hb b ((h2 b).2 (.inl z))), h2, h3, h4, (hb l ((h2 l).2 (.inr (.inl rfl)))).trans h5, (hb _ ((h2 _).2 (.inr (.inr rfl)))).trans h6⟩
  have lX : ∀ K st pe, Low K → Low (X K st pe) := by
    rintro K st pe hK pre F' W ⟨F, h1, h2, h3, h4, h5, h6⟩ b hb
    rcases (h2 b).1 hb with z | z | z
    · exact hK _ _ _ h1 b z
    · rw [z]; exact lt_of h5
    · rw [z]; exact lt_of h6
  refine ⟨l, [{ target := .collected w.heap.size, args := #[] }], W1, { target := .fn (.func gf) lb, args := #[.func (.yield l) #[] #[]] }, W1, gf,
    #[.func (.yield l) #[] #[]] ++ lb, W1, ?_, ?_, ?_, ?_, fun h => wide_e _ h, ?_⟩
  · rw [hW1, hrec, hl]; exact run_enterLoop_outer _ _ _ _ _
  · simp only [resolve, hg]
    simp [go_sem]
  · intro f' _; trivial
  · simp [invoke, go_sem, eg]
  refine callsIn_wide.2 ((hseq l (X I .ready none) (fun pre F' W => ∃ c, X (Ix c) .done (some c) pre F' W) (fun b => F0 b ∨ b = l ∨ b = w.heap.size) W1 hs1.size (fun b hb => hs1.block b (hG b hb))
    ?_ (kX _ _ _ keepI) (lX _ _ _ lowI) ?_ ?_ ?_ ?_).mono ?_)
  · rintro b (hb | rfl | rfl) z
    · exact hF0 b hb z
    · have := hG _ z; omega
    · have := hG _ z; omega
  · rintro pre F' W W' ⟨c, h⟩ hsz hb
    exact ⟨c, kX _ _ _ (keepX c) _ _ _ _ h hsz hb⟩
  · rintro pre F' W ⟨c, h⟩ b hb
    exact lX _ _ _ (lowX c) _ _ _ h b hb
  · -- one round
    rintro pre x F' W hpre ⟨F, hi, hF', nl, nd, hll, hdd⟩ hOW m
    have hy := run_yield (P := Tryz.prog) (args := encs x) hll (by rw [hrec]; exact hps x)
    rw [hrec] at hy
    refine ⟨fn, _, assign, body, hy, ?_⟩
    refine (show RoundIn Fence.wide 0 Tryz.prog l fn _ assign body W _ → RoundIn Fence.wide m Tryz.prog l fn _ assign body W _ from fun h => ⟨h.1, fun c cs _ => h.2 c cs (room_wide _)⟩) ?_
    refine roundIn_of_wpIn trivial (wpIn_mono (hround l pre x F W hpre hi ((hs1.off F0).trans hOW (fun b hb z => z.resolve_right (by omega))) (by omega) (lt_of hll) nl) ?_)
    clear hy
    rintro e a1 Wa hp
    cases e with
    | normal =>
      obtain ⟨hsa, hbody⟩ := hp
      have hla := (hsa.block l (lt_of hll)).trans hll
      have hda := (hsa.block _ (lt_of hdd)).trans hdd
      refine ⟨_, run_beginRound hla (by rw [hrec]), ?_⟩
      obtain ⟨Wb, hWb⟩ : ∃ Wb, Wb = Wa.putObj l (.loop { rec .ready none with state := .busy }) := ⟨_, rfl⟩
      have hlb : Wb.heap[l]? = some (.loop { rec .ready none with state := .busy }) := by rw [hWb]; exact World.putObj_heap_same (lt_of hla)
      have hob : Off (fun b => b = l) Wa Wb := by rw [hWb]; exact off_putObj _ _ _
      have hzb : Wb.heap.size = Wa.heap.size := by rw [hWb]; simp
      have hdb : Wb.heap[w.heap.size]? = some (.deferred (some [])) := (hob.block _ (lt_of hda) (by show ¬ w.heap.size = l; omega)).trans hda
      rw [← hWb]
      refine wpIn_mono (hbody Wb hzb hob) ?_
      have fin : ∀ (K : List α → (Nat → Prop) → World → Prop) (jump : Option Code) (W3 : World), Kept K → Low K → (∃ F3, K (pre ++ [x]) F3 W3 ∧ Off F Wb W3 ∧ ∀ b, F3 b → F b ∨ W.heap.size ≤ b) →
          ∃ W4, (Instr.endRound l jump).run Tryz.prog W3 = .ok (.bool jump.isNone) W4 ∧ EndP (X K (if jump.isNone then .ready else .done) jump) (pre ++ [x]) F' W W4 := by
        rintro K jump W3 hK hKl ⟨F3, k1, k2, k3⟩
        have hl3 : W3.heap[l]? = some (.loop { rec .ready none with state := .busy }) := (k2.block l (lt_of hlb) nl).trans hlb
        have hd3 : W3.heap[w.heap.size]? = some (.deferred (some [])) := (k2.block _ (lt_of hdb) nd).trans hdb
        have n3 : ¬ F3 l := fun z => by rcases k3 l z with h | h; exact nl h; have := lt_of hll; omega
        have n4 : ¬ F3 w.heap.size := fun z => by rcases k3 _ z with h | h; exact nd h; have := lt_of hdd; omega
        have hr := run_endRound (P := Tryz.prog) jump hl3
        refine ⟨_, hr, fun b => F3 b ∨ b = l ∨ b = w.heap.size, ⟨F3, hK _ _ _ _ k1 (by simp) (fun b hb => World.putObj_heap_other (fun z => n3 (z ▸ hb))), fun _ => Iff.rfl, n3, n4, ?_, ?_⟩, ?_, ?_⟩
        · rw [World.putObj_heap_same (lt_of hl3), hrec]
        · exact (World.putObj_heap_other (by omega)).trans hd3
        · have o1 : Off F' W Wa := hsa.off _
          have o2 : Off F' Wa Wb := hob.mono (fun b _ z => (hF' b).2 (.inr (.inl z)))
          have o3 : Off F' Wb W3 := k2.mono (fun b _ z => (hF' b).2 (.inl z))
          have o4 : Off F' W3 (W3.putObj l (.loop { rec .ready none with state := if jump.isNone then .ready else .done, pending := jump })) := (off_putObj _ _ _).mono (fun b _ z => (hF' b).2 (.inr (.inl z)))
          exact (((o1.trans o2 (fun _ _ z => z)).trans o3 (fun _ _ z => z)).trans o4 (fun _ _ z => z))
        · rintro b (hb | rfl | rfl)
          · rcases k3 b hb with h | h
            · exact .inl ((hF' b).2 (.inl h))
            · exact .inr h
          · exact .inl ((hF' b).2 (.inr (.inl rfl)))
          · exact .inl ((hF' _).2 (.inr (.inr rfl)))
      rintro e a3 W3 hp
      cases e with
      | normal =>
        obtain ⟨W4, h1, h2⟩ := fin I none W3 keepI lowI hp
        exact ⟨_, _, h1, .inl ⟨rfl, h2⟩⟩
      | ret =>
        obtain ⟨W4, h1, h2⟩ := fin (Ix .ret) (some .ret) W3 (keepX _) (lowX _) hp
        exact ⟨_, _, h1, .inr ⟨rfl, h2.mono (fun _ z => ⟨_, z⟩)⟩⟩
      | exit id =>
        obtain ⟨W4, h1, h2⟩ := fin (Ix (.exit id)) (some (.exit id)) W3 (keepX _) (lowX _) hp
        exact ⟨_, _, h1, .inr ⟨rfl, h2.mono (fun _ z => ⟨_, z⟩)⟩⟩
      | goto t =>
        obtain ⟨W4, h1, h2⟩ := fin (Ix (.goto t)) (some (.goto t)) W3 (keepX _) (lowX _) hp
        exact ⟨_, _, h1, .inr ⟨rfl, h2.mono (fun _ z => ⟨_, z⟩)⟩⟩
      | panic ch => exact hp.elim
      | outgrown => exact hp.elim
    | exit id => exact hp.elim
    | goto t => exact hp.elim
    | ret => exact hp.elim
    | panic ch => exact hp.elim
    | outgrown => exact hp.elim
  · exact ⟨F0, keepI _ _ _ _ h0 hs1.size (fun b hb => hs1.block b (hFl b hb)), fun _ => Iff.rfl, fun z => by have := hFl _ z; omega, fun z => by have := hFl _ z; omega, hL1, hD1⟩
  · -- behind the iterator
    have fin : ∀ (K : List α → (Nat → Prop) → World → Prop) (st : LoopState) (pe : Option Code) (pre : List α) (W2 : World), Kept K → st ≠ .busy → EndP (X K st pe) pre (fun b => F0 b ∨ b = l ∨ b = w.heap.size) W1 W2 →
        ∃ W4, (Instr.endLoop l).run Tryz.prog W2 = .ok pe W4 ∧ EndD K pre F0 w W4 w.heap.size ∧ W4.heap[w.heap.size]? = some (.deferred (some [])) := by
      rintro K st pe pre W2 hK hst ⟨F', ⟨F, h1, h2, h3, h4, h5, h6⟩, ho, hf⟩
      have hr := run_endLoop (P := Tryz.prog) h5 (by rw [hrec]; exact hst)
      refine ⟨_, by rw [hrec] at hr; exact hr, ⟨F, hK _ _ _ _ h1 (by simp) (fun b hb => World.putObj_heap_other (fun z => h3 (by rw [← z]; exact hb))), ?_, ?_, h4⟩, (World.putObj_heap_other (by omega)).trans h6⟩
      · have o2 := ho.trans (off_putObj W2 l (.loop { state := .exhausted, pending := pe, fn, tmps := a.tmps, params := ps, assign, body, defers := w.heap.size })) (fun b _ z => .inr (.inl z))
        exact (hs1.off F0).trans o2 (fun b hb z => z.resolve_right (by omega))
      · intro b hb
        have := hf b ((h2 b).2 (.inl hb))
        rcases this with (z | z | z) | z
        · exact .inl z
        · exact .inr (by omega)
        · exact .inr (by omega)
        · exact .inr (by omega)
    rintro e W2 ⟨⟨v, rfl⟩, (h | ⟨pre, hpre, F', ⟨c, h⟩, ho, hf⟩)⟩
    · obtain ⟨W4, h1, h2, h3⟩ := fin I .ready none xs W2 keepI (by simp) h
      exact ⟨none, W4, h1, hdone _ _ (Nat.le_refl _) h2 h3⟩
    · obtain ⟨W4, h1, h2, h3⟩ := fin (Ix c) .done (some c) pre W2 (keepX c) (by simp) ⟨F', h, ho, hf⟩
      exact ⟨some c, W4, h1, hstop _ _ _ _ (Nat.le_refl _) hpre h2 h3⟩
end Go.Proofs.YthfhpejpjiaikaaGreat
