/-
  No cell of these rows narrows 'for every input' (looked for: loops, veiled, ifaces, maps, wideKeys, modest, calm, conditions, laid).
  DERIVED. THE GIVEN ROWS OF THIS SEAT. 4 by the template 'for every input the law returns true; each argument reads behind the call as it read before'; 0 by the template 'total and deterministic' (their statements: YtgnligeiojdmhaaTotals.lean).
  GIVEN WITH THE SEED: the statements are not yours to turn. If you find one false, say at which input.
  Laid BY PROGRAM, IN A SANDBOX (cutbox-rows.mjs): the forced cells as the released guide's own fill.sh prints them over the translation 74057c7925038796… (all of the seat's roots in one cut). By AI agents, Wed Nov 11 2026. No macro, syntax, notation, axiom, sorry.
-/
import Derived.Test.YtgnligeiojdmhaaChecked
import GoSem.Claim
import GoSem.ClaimJoined
import GoSem.ClaimMapViews
import Derived.JoinedTies
import Derived.KernelRfl
namespace Go.Proofs.Ytgnligeiojdmhaa
/- THE CELL 'sum', in the pinned program and in every row, IS THE sha256 OF THE DUMP (.gsa) THAT YtgnligeiojdmhaaProg.lean LOADS. Nothing in Lean hashes anything: it is a label: what it is worth is what the hold of that sum in a sandbox is worth. -/
noncomputable def Try.pinned : Pinned := { name := "ytgnligeiojdmhaa", sum := "74057c79250387961937a856b55d8189457d01878d22a33090986f0c288a221a", checked := Try.checked }
namespace Rows
def none {H : Type} : Left H := { results := [], args := [] }

/-- 'glebelaw02.TorusCells': WHATEVER THE INPUT: true; the input reads as it did. -/
def torusCellsSpec : ChangeSpec := { name := "torusCells", fn := fun _ => fun
  | [d1, d2, d3, d4, d5] => { results := [.lit (.bool true)], args := [d1, d2, d3, d4, d5] }
  | _ => none }
def torusCellsRow : OpenClaim := { program := "ytgnligeiojdmhaa", sum := "74057c79250387961937a856b55d8189457d01878d22a33090986f0c288a221a", func := "glebe/glebelaw02.TorusCells", spec := "torusCells", apart := false }
def TorusCellsSaid : Prop := torusCellsRow.holds Try.pinned (OpenSpec.ofChange torusCellsSpec)

/-- ITS FALSE NEIGHBOUR: 'it returns false'. Refute it at one input. -/
def torusCellsWrong : ChangeSpec := { name := "torusCells", fn := fun _ => fun
  | [d1, d2, d3, d4, d5] => { results := [.lit (.bool false)], args := [d1, d2, d3, d4, d5] }
  | _ => none }
def TorusCellsWrongFalsely : Prop := torusCellsRow.holds Try.pinned (OpenSpec.ofChange torusCellsWrong)

/-- 'glebelaw02.TorusMetric': WHATEVER THE INPUT: true; the input reads as it did. -/
def torusMetricSpec : ChangeSpec := { name := "torusMetric", fn := fun _ => fun
  | [d1, d2, d3, d4, d5, d6] => { results := [.lit (.bool true)], args := [d1, d2, d3, d4, d5, d6] }
  | _ => none }
def torusMetricRow : OpenClaim := { program := "ytgnligeiojdmhaa", sum := "74057c79250387961937a856b55d8189457d01878d22a33090986f0c288a221a", func := "glebe/glebelaw02.TorusMetric", spec := "torusMetric", apart := false }
def TorusMetricSaid : Prop := torusMetricRow.holds Try.pinned (OpenSpec.ofChange torusMetricSpec)

/-- ITS FALSE NEIGHBOUR: 'it returns false'. Refute it at one input. -/
def torusMetricWrong : ChangeSpec := { name := "torusMetric", fn := fun _ => fun
  | [d1, d2, d3, d4, d5, d6] => { results := [.lit (.bool false)], args := [d1, d2, d3, d4, d5, d6] }
  | _ => none }
def TorusMetricWrongFalsely : Prop := torusMetricRow.holds Try.pinned (OpenSpec.ofChange torusMetricWrong)

/-- 'glebelaw02.TorusSteps': WHATEVER THE INPUT: true; the input reads as it did. -/
def torusStepsSpec : ChangeSpec := { name := "torusSteps", fn := fun _ => fun
  | [d1, d2, d3] => { results := [.lit (.bool true)], args := [d1, d2, d3] }
  | _ => none }
def torusStepsRow : OpenClaim := { program := "ytgnligeiojdmhaa", sum := "74057c79250387961937a856b55d8189457d01878d22a33090986f0c288a221a", func := "glebe/glebelaw02.TorusSteps", spec := "torusSteps", apart := false }
def TorusStepsSaid : Prop := torusStepsRow.holds Try.pinned (OpenSpec.ofChange torusStepsSpec)

/-- ITS FALSE NEIGHBOUR: 'it returns false'. Refute it at one input. -/
def torusStepsWrong : ChangeSpec := { name := "torusSteps", fn := fun _ => fun
  | [d1, d2, d3] => { results := [.lit (.bool false)], args := [d1, d2, d3] }
  | _ => none }
def TorusStepsWrongFalsely : Prop := torusStepsRow.holds Try.pinned (OpenSpec.ofChange torusStepsWrong)

/-- 'glebelaw02.TorusRings': WHATEVER THE INPUT: true; the input reads as it did. -/
def torusRingsSpec : ChangeSpec := { name := "torusRings", fn := fun _ => fun
  | [d1, d2, d3] => { results := [.lit (.bool true)], args := [d1, d2, d3] }
  | _ => none }
def torusRingsRow : OpenClaim := { program := "ytgnligeiojdmhaa", sum := "74057c79250387961937a856b55d8189457d01878d22a33090986f0c288a221a", func := "glebe/glebelaw02.TorusRings", spec := "torusRings", apart := false }
def TorusRingsSaid : Prop := torusRingsRow.holds Try.pinned (OpenSpec.ofChange torusRingsSpec)

/-- ITS FALSE NEIGHBOUR: 'it returns false'. Refute it at one input. -/
def torusRingsWrong : ChangeSpec := { name := "torusRings", fn := fun _ => fun
  | [d1, d2, d3] => { results := [.lit (.bool false)], args := [d1, d2, d3] }
  | _ => none }
def TorusRingsWrongFalsely : Prop := torusRingsRow.holds Try.pinned (OpenSpec.ofChange torusRingsWrong)

/- THE SECOND FORM. 'bulk': how many values and letters a reading holds, each counted each time it is reached (what is shared counts as often as it is met; a slice's spare places count too). A statement '..UptoSaid' is the law's where the arguments, and the package variables that the reading takes, are together of bulk at most 1048576: NARROWER than '..Said'. Prove '..Said' where nothing that the law and all that it calls make is longer than what came in: it says more and counts as full. Else prove '..UptoSaid'. A law counts once. -/
mutual
def uptoBulk {H : Type} : DataW H → Nat
  | .lit (.string bytes) => bytes.length + 1
  | .lit _ => 1
  | .nil => 1
  | .ptr d => uptoBulk d + 1
  | .slice elems spare => uptoBulkAll elems + uptoBulkAll spare + 1
  | .agg parts => uptoBulkAll parts + 1
  | .iface _ d => uptoBulk d + 1
  | .map entries => uptoBulkEntries entries + 1
  | .held _ => 1
def uptoBulkAll {H : Type} : List (DataW H) → Nat
  | [] => 0
  | d :: r => uptoBulk d + uptoBulkAll r
def uptoBulkEntries {H : Type} : List (Lit × DataW H) → Nat
  | [] => 0
  | x :: r => uptoBulkEntry x + uptoBulkEntries r
def uptoBulkEntry {H : Type} : Lit × DataW H → Nat
  | (.string bytes, d) => bytes.length + uptoBulk d + 1
  | (_, d) => uptoBulk d + 1
 end
def uptoSmall : (H : Type) → List (DataW H) → Bool := fun _ ds => decide (uptoBulkAll ds ≤ 1048576)
def OpenSpec.upto (s : _root_.Go.ChangeSpec) : _root_.Go.OpenSpec := { _root_.Go.OpenSpec.ofChange s with cond := some uptoSmall }

/-- 'glebelaw02.TorusCells', WHERE WHAT IT READS IS OF BULK AT MOST 1048576: true; the input reads as it did. -/
def torusCellsUptoRow : OpenClaim := { program := "ytgnligeiojdmhaa", sum := "74057c79250387961937a856b55d8189457d01878d22a33090986f0c288a221a", func := "glebe/glebelaw02.TorusCells", spec := "torusCells", apart := false, narrowed := true }
def TorusCellsUptoSaid : Prop := torusCellsUptoRow.holds Try.pinned (OpenSpec.upto torusCellsSpec)

/-- 'glebelaw02.TorusMetric', WHERE WHAT IT READS IS OF BULK AT MOST 1048576: true; the input reads as it did. -/
def torusMetricUptoRow : OpenClaim := { program := "ytgnligeiojdmhaa", sum := "74057c79250387961937a856b55d8189457d01878d22a33090986f0c288a221a", func := "glebe/glebelaw02.TorusMetric", spec := "torusMetric", apart := false, narrowed := true }
def TorusMetricUptoSaid : Prop := torusMetricUptoRow.holds Try.pinned (OpenSpec.upto torusMetricSpec)

/-- 'glebelaw02.TorusSteps', WHERE WHAT IT READS IS OF BULK AT MOST 1048576: true; the input reads as it did. -/
def torusStepsUptoRow : OpenClaim := { program := "ytgnligeiojdmhaa", sum := "74057c79250387961937a856b55d8189457d01878d22a33090986f0c288a221a", func := "glebe/glebelaw02.TorusSteps", spec := "torusSteps", apart := false, narrowed := true }
def TorusStepsUptoSaid : Prop := torusStepsUptoRow.holds Try.pinned (OpenSpec.upto torusStepsSpec)

/-- 'glebelaw02.TorusRings', WHERE WHAT IT READS IS OF BULK AT MOST 1048576: true; the input reads as it did. -/
def torusRingsUptoRow : OpenClaim := { program := "ytgnligeiojdmhaa", sum := "74057c79250387961937a856b55d8189457d01878d22a33090986f0c288a221a", func := "glebe/glebelaw02.TorusRings", spec := "torusRings", apart := false, narrowed := true }
def TorusRingsUptoSaid : Prop := torusRingsUptoRow.holds Try.pinned (OpenSpec.upto torusRingsSpec)

end Rows
end Go.Proofs.Ytgnligeiojdmhaa
