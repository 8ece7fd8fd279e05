/- The laws' own made: a tiling that acts made of the whole torus, by premises. -/
import Derived.Test.YtgnhamhkpbadbaaGKnows
import Derived.StillTailTactics
namespace Go.Proofs.Ytgnhamhkpbadbaa
open Go.RowKit
/-- An act. -/
structure Ac where
  kind : Int
  d : Int
  b : Int
  who : Int
def encA (a : Ac) : List Value := [.int .i64 a.kind, .int .i64 a.d, .int .i64 a.b, .int .i64 a.who]
theorem encA_len (a : Ac) : (encA a).length = 4 := rfl
theorem corner5 {k d b p q r s : Int} (w : World) (h : okP k d b = true) (he : corF (side k) (ups d b (cnt d b)) = (p, q, r, s)) : Calls Try.prog 86 #[.agg #[.int .i64 k], .agg #[.int .i64 d, .int .i64 b]] w fun e w' => e = .returned (.tuple #[.agg #[.int .i64 p, .int .i64 q], .int .i64 r, .int .i64 s]) ∧ Below w.heap.size w w' := by
  have h1 := corner_raw k d b w h
  rw [he] at h1
  exact h1
/-- A tiling of its own. -/
def MadeP (Obj : (Nat → Prop) → World → Value → Int → Tr → Prop) (w : World) (k : Int) (e : Ending) (W' : World) : Prop :=
  ∃ g F t, e = .returned (.pointer (some ⟨g, 0, none⟩)) ∧ Obj F W' (.pointer (some ⟨g, 0, none⟩)) k t ∧ (∀ b, F b → w.heap.size ≤ b) ∧ Below w.heap.size w W'
end Go.Proofs.Ytgnhamhkpbadbaa
