/- tiling: all that the laws ask of it. -/
import Derived.Test.YtgnhamhkpbadbaaGChg2
import Derived.Test.YtgnhamhkpbadbaaGChg3
import Derived.Test.YtgnhamhkpbadbaaGChg4
import Derived.Test.YtgnhamhkpbadbaaGFind
import Derived.Test.YtgnhamhkpbadbaaGDeepR
import Derived.Test.YtgnhamhkpbadbaaGCollect
import Derived.Test.YtgnhamhkpbadbaaGNew
namespace Go.Proofs.Ytgnhamhkpbadbaa
open Go.RowKit
set_option linter.unusedVariables false
/-- A tiling, its blocks, its tree. -/
def TilObj (F : Nat → Prop) (W : World) (v : Value) (k : Int) (t : Tr) : Prop := ∃ g p, v = .pointer (some ⟨g, 0, none⟩) ∧ TilO g p k W ∧ p.tr = t ∧ ∀ b, F b ↔ b ∈ g :: p.bl
theorem ChgO.changes {F : Nat → Prop} {W : World} {g : Nat} {p : PT} {k : Int} {r : Int × List Tl} (hF : ∀ b, F b ↔ b ∈ g :: p.bl) {e : Ending} {W' : World} (h : ChgO g p k r W e W') : Changes TilObj F W (.pointer (some ⟨g, 0, none⟩)) k r e W' := by
  obtain ⟨rfl, q', h1, h2, h3, h4⟩ := h
  refine ⟨rfl, fun b => b ∈ g :: q'.bl, q'.tr, ⟨g, q', rfl, h1, rfl, fun _ => Iff.rfl⟩, h2, h3.mono (fun b _ z => (hF b).2 z), fun b hb => ?_⟩
  rcases List.mem_cons.1 hb with rfl | hb
  · exact .inl ((hF b).2 List.mem_cons_self)
  · exact (h4 b hb).imp (fun z => (hF b).2 (List.mem_cons_of_mem _ z)) id
theorem new_one (k who : Int) (hk : rgt k = true) : newT k [⟨0, 0, who⟩] = (0, [⟨0, 0, who⟩]) := by
  have hk2 := (rgt_iff k).1 hk
  have hok : okP k 0 0 = true := (okP_iff k 0 0).2 ⟨hk2.1, hk2.2, by omega, by omega, by omega, by decide⟩
  have h1 : addT k [] ⟨0, 0, who⟩ = (0, [⟨0, 0, who⟩]) := by
    unfold addT
    rw [if_pos hok]
    rfl
  unfold newT
  rw [if_pos hk, addAll_cons, h1]
  rfl
theorem tilP : TilP TilObj where
  keep := by
    rintro F W W' v k t ⟨g, p, rfl, h, rfl, hF⟩ hb
    exact ⟨g, p, rfl, h.keep (fun b hx => hb b ((hF b).2 hx)), rfl, hF⟩
  lt := by
    rintro F W v k t ⟨g, p, rfl, h, rfl, hF⟩ b hb
    exact h.lt b ((hF b).1 hb)
  form := by
    rintro F W v k t ⟨g, p, rfl, h, rfl, hF⟩
    exact ⟨g, rfl⟩
  ok := by
    rintro F W v k t ⟨g, p, rfl, h, rfl, hF⟩
    exact ⟨h.right, h.high, h.most⟩
  new := by
    intro k who W a hk hL
    refine (tnew_any (k := k) W hL (Nat.le_refl _) (by simp)).mono ?_
    rw [new_one k who hk]
    rintro e W' (⟨_, g, p, rfl, h1, h2, h3, h4⟩ | ⟨h, _⟩)
    · exact ⟨_, fun b => b ∈ g :: p.bl, p.tr, rfl, ⟨g, p, rfl, h1, rfl, fun _ => Iff.rfl⟩, h2, h3, h4, by simp⟩
    · exact absurd rfl h
  drop := by
    rintro F W v k t d b ⟨g, p, rfl, h, rfl, hF⟩
    exact (drop_any h d b).mono (fun e W' => ChgO.changes hF)
  split := by
    rintro F W v k t d b who ⟨g, p, rfl, h, rfl, hF⟩
    exact (split_any h d b who).mono (fun e W' => ChgO.changes hF)
  merge := by
    rintro F W v k t d b ⟨g, p, rfl, h, rfl, hF⟩
    exact (merge_any h d b).mono (fun e W' => ChgO.changes hF)
  give := by
    rintro F W v k t d b who ⟨g, p, rfl, h, rfl, hF⟩
    exact (give_any h d b who).mono (fun e W' => ChgO.changes hF)
  find := by
    rintro F W v k t x y ⟨g, p, rfl, h, rfl, hF⟩
    exact find_any h x y
  list := by
    rintro F W v k t ⟨g, p, rfl, h, rfl, hF⟩
    exact list_any h
  under := by
    rintro F W v k t d b ⟨g, p, rfl, h, rfl, hF⟩
    exact under_any h d b
  gaps := by
    rintro F W v k t ⟨g, p, rfl, h, rfl, hF⟩
    exact gapsList_any h
  whole := by
    rintro F W v k t ⟨g, p, rfl, h, rfl, hF⟩
    exact whole_any h
  deep := by
    rintro F W v k t ⟨g, p, rfl, h, rfl, hF⟩
    exact deepest_any h
end Go.Proofs.Ytgnhamhkpbadbaa
