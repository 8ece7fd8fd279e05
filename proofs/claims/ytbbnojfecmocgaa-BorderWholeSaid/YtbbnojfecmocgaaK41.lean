/- A region that draws its order, in a round of a loop over an iterator. Nothing of one program. -/
import Derived.Test.YtbbnojfecmocgaaK38
import Derived.OrdersIn
namespace Go.Proofs.Ytbbnojfecmocgaa
open Go.RowKit Go.Shelf
theorem wide_d0 (n : Nat) : Fence.wide.depth.isSome = true → 1 ≤ n := fun h => by cases h
theorem upon_round {P : Program} {o : Oper} {a : Act} {K K' : Act → World → Prop} {Q : Exit → Act → World → Prop} {l n : Nat} (hK : ∀ a w, K a w → K' a w) : ∀ r, o.upon P a K Q r → o.uponIn (Fence.wide.inRound l) n P a K' Q r := by
  intro r h
  cases r with
  | ok x w' =>
    cases x <;> simp only [Oper.upon, Oper.uponIn] at h ⊢
    case value => exact hK _ _ h
    case skip => exact hK _ _ h
    case defer => exact hK _ _ h
    case enter => exact ⟨wide_d0 _, CallsIn.inRound l (callsIn_wide.2 (h.mono (fun e w'' he => by cases e <;> first | exact hK _ _ he | exact he)))⟩
    case row => exact ⟨wide_d0 _, fun c cs _ => let ⟨v, w', r, s⟩ := h c cs; ⟨v, w', hK _ _ r, stepsIn_wide.2 s⟩⟩
  | halt x w' => cases x <;> simp only [Oper.upon, Oper.uponIn] at h ⊢ <;> first | exact h | exact h.elim
theorem wpAnyIn_round {P : Program} {md : Region.Mode} {ops : Array Oper} {Q : Exit → Act → World → Prop} {S : World → Prop} {l n : Nat} (hd : ∀ o ∈ ops, ∀ c, o.op ≠ .defer c) (hQ : ¬ LetsOut Q) :
    ∀ (fuel : Nat) (listed : Array Bool) (a : Act) (w : World), wpAnyH P md ops Q S fuel listed a w → wpAnyIn (Fence.wide.inRound l) n P md ops Q fuel listed a w
  | 0, _, _, _, h => h
  | fuel + 1, listed, a, w, ⟨h1, h2⟩ => by
    refine ⟨h1, fun i hi => ?_⟩
    have h3 := h2 i hi
    unfold wpOp at h3
    unfold wpOpIn
    cases ho : ops[i]? with
    | none => rw [ho] at h3; exact wpAnyIn_round hd hQ fuel _ a w h3.2
    | some o =>
      rw [ho] at h3
      have hom : o ∈ ops := Array.mem_of_getElem? ho
      simp only at h3 ⊢
      split
      · next hw =>
        rw [if_pos hw] at h3
        rcases h3 with h3 | h3
        · refine ⟨fun _ _ => trivial, ?_⟩
          rw [Oper.semAt_eq _ _ _ (hd o hom)]
          exact upon_round (fun a' w' hh => wpAnyIn_round hd hQ fuel _ a' w' hh.2) _ h3
        · exact absurd h3.2 hQ
      · next hw =>
        rw [if_neg hw] at h3
        exact ⟨fun _ _ => trivial, wpAnyIn_round hd hQ fuel _ _ _ h3.2⟩
def noDefer (ops : Array Oper) : Bool := ops.all fun o => match o.op with | .defer _ => false | _ => true
theorem noDefer_spec {ops : Array Oper} (h : noDefer ops = true) : ∀ o ∈ ops, ∀ c, o.op ≠ .defer c := by
  intro o ho c e
  unfold noDefer at h
  rw [Array.all_eq_true'] at h
  have := h o ho
  rw [e] at this
  cases this
/-- Off its end, and no other way. -/
@[reducible] def OnlyEnd (Q : Exit → Act → World → Prop) : Exit → Act → World → Prop := fun e a w => e = .normal ∧ Q .normal a w
/-- The beginning, as wp_region_held_drew, in a round. -/
theorem round_held_drew {P : Program} {id l n : Nat} {ops : Array Oper} {Q : Exit → Act → World → Prop} {a : Act} {w : World} (S : World → Prop) (hm : P.follows .mixedOrders = true) (hd : noDefer ops = true) (hS : S w.drew)
    (h : S w.drew → wpAnyH P .any ops (OnlyEnd Q) S ops.size (Array.replicate ops.size false) a w.drew) : (Code.region id ops true).wpIn (Fence.wide.inRound l) n P Q a w :=
  wpIn_mono (wpIn_region_any hm (wpAnyIn_round (noDefer_spec hd) (fun h => let ⟨_, _, h1⟩ := h; absurd h1.1 (fun z => by cases z)) _ _ _ _ (h hS))) (fun e a w h => by obtain ⟨rfl, h⟩ := h; exact h)
end Go.Proofs.Ytbbnojfecmocgaa
