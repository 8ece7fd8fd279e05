/-
  No cell of these rows narrows 'for every input' (looked for: loops, veiled, ifaces, maps, wideKeys, modest, calm, conditions, laid).
  DERIVED. THE GIVEN ROWS OF THIS SEAT. 6 by the template 'for every input the law returns true; each argument reads behind the call as it read before'; 0 by the template 'total and deterministic' (their statements: YtilkifjdonafnaaTotals.lean).
  GIVEN WITH THE SEED: the statements are not yours to turn. If you find one false, say at which input.
  Laid BY PROGRAM, IN A SANDBOX (cutbox-rows.mjs): the forced cells as the released guide's own fill.sh prints them over the translation ceb76f32e0fdd55a… (all of the seat's roots in one cut). By AI agents, Wed Nov 11 2026. No macro, syntax, notation, axiom, sorry.
-/
import Derived.Test.YtilkifjdonafnaaChecked
import GoSem.Claim
import GoSem.ClaimJoined
import GoSem.ClaimMapViews
import Derived.JoinedTies
import Derived.KernelRfl
namespace Go.Proofs.Ytilkifjdonafnaa
/- THE CELL 'sum', in the pinned program and in every row, IS THE sha256 OF THE DUMP (.gsa) THAT YtilkifjdonafnaaProg.lean LOADS. Nothing in Lean hashes anything: it is a label: what it is worth is what the hold of that sum in a sandbox is worth. -/
noncomputable def Try.pinned : Pinned := { name := "ytilkifjdonafnaa", sum := "ceb76f32e0fdd55a2fb3fd0cc4c21687ec9d10257c2ba481f5dfb193259558a7", checked := Try.checked }
namespace Rows
def none {H : Type} : Left H := { results := [], args := [] }

/-- 'glebelaw03.PathTwos': WHATEVER THE INPUT: true; the input reads as it did. -/
def pathTwosSpec : ChangeSpec := { name := "pathTwos", fn := fun _ => fun
  | [d1, d2] => { results := [.lit (.bool true)], args := [d1, d2] }
  | _ => none }
def pathTwosRow : OpenClaim := { program := "ytilkifjdonafnaa", sum := "ceb76f32e0fdd55a2fb3fd0cc4c21687ec9d10257c2ba481f5dfb193259558a7", func := "glebe/glebelaw03.PathTwos", spec := "pathTwos", unfollowed := true, recurses := true, apart := false }
def PathTwosSaid : Prop := pathTwosRow.holds Try.pinned (OpenSpec.ofChange pathTwosSpec)

/-- ITS FALSE NEIGHBOUR: 'it returns false'. Refute it at one input. -/
def pathTwosWrong : ChangeSpec := { name := "pathTwos", fn := fun _ => fun
  | [d1, d2] => { results := [.lit (.bool false)], args := [d1, d2] }
  | _ => none }
def PathTwosWrongFalsely : Prop := pathTwosRow.holds Try.pinned (OpenSpec.ofChange pathTwosWrong)

/-- 'glebelaw03.PathCells': WHATEVER THE INPUT: true; the input reads as it did. -/
def pathCellsSpec : ChangeSpec := { name := "pathCells", fn := fun _ => fun
  | [d1, d2, d3, d4] => { results := [.lit (.bool true)], args := [d1, d2, d3, d4] }
  | _ => none }
def pathCellsRow : OpenClaim := { program := "ytilkifjdonafnaa", sum := "ceb76f32e0fdd55a2fb3fd0cc4c21687ec9d10257c2ba481f5dfb193259558a7", func := "glebe/glebelaw03.PathCells", spec := "pathCells", unfollowed := true, recurses := true, apart := false }
def PathCellsSaid : Prop := pathCellsRow.holds Try.pinned (OpenSpec.ofChange pathCellsSpec)

/-- ITS FALSE NEIGHBOUR: 'it returns false'. Refute it at one input. -/
def pathCellsWrong : ChangeSpec := { name := "pathCells", fn := fun _ => fun
  | [d1, d2, d3, d4] => { results := [.lit (.bool false)], args := [d1, d2, d3, d4] }
  | _ => none }
def PathCellsWrongFalsely : Prop := pathCellsRow.holds Try.pinned (OpenSpec.ofChange pathCellsWrong)

/-- 'glebelaw03.PathFamilies': WHATEVER THE INPUT: true; the input reads as it did. -/
def pathFamiliesSpec : ChangeSpec := { name := "pathFamilies", fn := fun _ => fun
  | [d1, d2] => { results := [.lit (.bool true)], args := [d1, d2] }
  | _ => none }
def pathFamiliesRow : OpenClaim := { program := "ytilkifjdonafnaa", sum := "ceb76f32e0fdd55a2fb3fd0cc4c21687ec9d10257c2ba481f5dfb193259558a7", func := "glebe/glebelaw03.PathFamilies", spec := "pathFamilies", unfollowed := true, recurses := true, apart := false }
def PathFamiliesSaid : Prop := pathFamiliesRow.holds Try.pinned (OpenSpec.ofChange pathFamiliesSpec)

/-- ITS FALSE NEIGHBOUR: 'it returns false'. Refute it at one input. -/
def pathFamiliesWrong : ChangeSpec := { name := "pathFamilies", fn := fun _ => fun
  | [d1, d2] => { results := [.lit (.bool false)], args := [d1, d2] }
  | _ => none }
def PathFamiliesWrongFalsely : Prop := pathFamiliesRow.holds Try.pinned (OpenSpec.ofChange pathFamiliesWrong)

/-- 'glebelaw03.PathZones': WHATEVER THE INPUT: true; the input reads as it did. -/
def pathZonesSpec : ChangeSpec := { name := "pathZones", fn := fun _ => fun
  | [d1, d2, d3, d4] => { results := [.lit (.bool true)], args := [d1, d2, d3, d4] }
  | _ => none }
def pathZonesRow : OpenClaim := { program := "ytilkifjdonafnaa", sum := "ceb76f32e0fdd55a2fb3fd0cc4c21687ec9d10257c2ba481f5dfb193259558a7", func := "glebe/glebelaw03.PathZones", spec := "pathZones", unfollowed := true, recurses := true, apart := false }
def PathZonesSaid : Prop := pathZonesRow.holds Try.pinned (OpenSpec.ofChange pathZonesSpec)

/-- ITS FALSE NEIGHBOUR: 'it returns false'. Refute it at one input. -/
def pathZonesWrong : ChangeSpec := { name := "pathZones", fn := fun _ => fun
  | [d1, d2, d3, d4] => { results := [.lit (.bool false)], args := [d1, d2, d3, d4] }
  | _ => none }
def PathZonesWrongFalsely : Prop := pathZonesRow.holds Try.pinned (OpenSpec.ofChange pathZonesWrong)

/-- 'glebelaw03.PathOrder': WHATEVER THE INPUT: true; the input reads as it did. -/
def pathOrderSpec : ChangeSpec := { name := "pathOrder", fn := fun _ => fun
  | [d1, d2, d3] => { results := [.lit (.bool true)], args := [d1, d2, d3] }
  | _ => none }
def pathOrderRow : OpenClaim := { program := "ytilkifjdonafnaa", sum := "ceb76f32e0fdd55a2fb3fd0cc4c21687ec9d10257c2ba481f5dfb193259558a7", func := "glebe/glebelaw03.PathOrder", spec := "pathOrder", unfollowed := true, recurses := true, apart := false }
def PathOrderSaid : Prop := pathOrderRow.holds Try.pinned (OpenSpec.ofChange pathOrderSpec)

/-- ITS FALSE NEIGHBOUR: 'it returns false'. Refute it at one input. -/
def pathOrderWrong : ChangeSpec := { name := "pathOrder", fn := fun _ => fun
  | [d1, d2, d3] => { results := [.lit (.bool false)], args := [d1, d2, d3] }
  | _ => none }
def PathOrderWrongFalsely : Prop := pathOrderRow.holds Try.pinned (OpenSpec.ofChange pathOrderWrong)

/-- 'glebelaw03.PathBack': WHATEVER THE INPUT: true; the input reads as it did. -/
def pathBackSpec : ChangeSpec := { name := "pathBack", fn := fun _ => fun
  | [d1, d2] => { results := [.lit (.bool true)], args := [d1, d2] }
  | _ => none }
def pathBackRow : OpenClaim := { program := "ytilkifjdonafnaa", sum := "ceb76f32e0fdd55a2fb3fd0cc4c21687ec9d10257c2ba481f5dfb193259558a7", func := "glebe/glebelaw03.PathBack", spec := "pathBack", unfollowed := true, recurses := true, apart := false }
def PathBackSaid : Prop := pathBackRow.holds Try.pinned (OpenSpec.ofChange pathBackSpec)

/-- ITS FALSE NEIGHBOUR: 'it returns false'. Refute it at one input. -/
def pathBackWrong : ChangeSpec := { name := "pathBack", fn := fun _ => fun
  | [d1, d2] => { results := [.lit (.bool false)], args := [d1, d2] }
  | _ => none }
def PathBackWrongFalsely : Prop := pathBackRow.holds Try.pinned (OpenSpec.ofChange pathBackWrong)

/- THE SECOND FORM. 'bulk': how many values and letters a reading holds, each counted each time it is reached (what is shared counts as often as it is met; a slice's spare places count too). A statement '..UptoSaid' is the law's where the arguments, and the package variables that the reading takes, are together of bulk at most 1048576: NARROWER than '..Said'. Prove '..Said' where nothing that the law and all that it calls make is longer than what came in: it says more and counts as full. Else prove '..UptoSaid'. A law counts once. -/
mutual
def uptoBulk {H : Type} : DataW H → Nat
  | .lit (.string bytes) => bytes.length + 1
  | .lit _ => 1
  | .nil => 1
  | .ptr d => uptoBulk d + 1
  | .slice elems spare => uptoBulkAll elems + uptoBulkAll spare + 1
  | .agg parts => uptoBulkAll parts + 1
  | .iface _ d => uptoBulk d + 1
  | .map entries => uptoBulkEntries entries + 1
  | .held _ => 1
def uptoBulkAll {H : Type} : List (DataW H) → Nat
  | [] => 0
  | d :: r => uptoBulk d + uptoBulkAll r
def uptoBulkEntries {H : Type} : List (Lit × DataW H) → Nat
  | [] => 0
  | x :: r => uptoBulkEntry x + uptoBulkEntries r
def uptoBulkEntry {H : Type} : Lit × DataW H → Nat
  | (.string bytes, d) => bytes.length + uptoBulk d + 1
  | (_, d) => uptoBulk d + 1
 end
def uptoSmall : (H : Type) → List (DataW H) → Bool := fun _ ds => decide (uptoBulkAll ds ≤ 1048576)
def OpenSpec.upto (s : _root_.Go.ChangeSpec) : _root_.Go.OpenSpec := { _root_.Go.OpenSpec.ofChange s with cond := some uptoSmall }

/-- 'glebelaw03.PathTwos', WHERE WHAT IT READS IS OF BULK AT MOST 1048576: true; the input reads as it did. -/
def pathTwosUptoRow : OpenClaim := { program := "ytilkifjdonafnaa", sum := "ceb76f32e0fdd55a2fb3fd0cc4c21687ec9d10257c2ba481f5dfb193259558a7", func := "glebe/glebelaw03.PathTwos", spec := "pathTwos", unfollowed := true, recurses := true, apart := false, narrowed := true }
def PathTwosUptoSaid : Prop := pathTwosUptoRow.holds Try.pinned (OpenSpec.upto pathTwosSpec)

/-- 'glebelaw03.PathCells', WHERE WHAT IT READS IS OF BULK AT MOST 1048576: true; the input reads as it did. -/
def pathCellsUptoRow : OpenClaim := { program := "ytilkifjdonafnaa", sum := "ceb76f32e0fdd55a2fb3fd0cc4c21687ec9d10257c2ba481f5dfb193259558a7", func := "glebe/glebelaw03.PathCells", spec := "pathCells", unfollowed := true, recurses := true, apart := false, narrowed := true }
def PathCellsUptoSaid : Prop := pathCellsUptoRow.holds Try.pinned (OpenSpec.upto pathCellsSpec)

/-- 'glebelaw03.PathFamilies', WHERE WHAT IT READS IS OF BULK AT MOST 1048576: true; the input reads as it did. -/
def pathFamiliesUptoRow : OpenClaim := { program := "ytilkifjdonafnaa", sum := "ceb76f32e0fdd55a2fb3fd0cc4c21687ec9d10257c2ba481f5dfb193259558a7", func := "glebe/glebelaw03.PathFamilies", spec := "pathFamilies", unfollowed := true, recurses := true, apart := false, narrowed := true }
def PathFamiliesUptoSaid : Prop := pathFamiliesUptoRow.holds Try.pinned (OpenSpec.upto pathFamiliesSpec)

/-- 'glebelaw03.PathZones', WHERE WHAT IT READS IS OF BULK AT MOST 1048576: true; the input reads as it did. -/
def pathZonesUptoRow : OpenClaim := { program := "ytilkifjdonafnaa", sum := "ceb76f32e0fdd55a2fb3fd0cc4c21687ec9d10257c2ba481f5dfb193259558a7", func := "glebe/glebelaw03.PathZones", spec := "pathZones", unfollowed := true, recurses := true, apart := false, narrowed := true }
def PathZonesUptoSaid : Prop := pathZonesUptoRow.holds Try.pinned (OpenSpec.upto pathZonesSpec)

/-- 'glebelaw03.PathOrder', WHERE WHAT IT READS IS OF BULK AT MOST 1048576: true; the input reads as it did. -/
def pathOrderUptoRow : OpenClaim := { program := "ytilkifjdonafnaa", sum := "ceb76f32e0fdd55a2fb3fd0cc4c21687ec9d10257c2ba481f5dfb193259558a7", func := "glebe/glebelaw03.PathOrder", spec := "pathOrder", unfollowed := true, recurses := true, apart := false, narrowed := true }
def PathOrderUptoSaid : Prop := pathOrderUptoRow.holds Try.pinned (OpenSpec.upto pathOrderSpec)

/-- 'glebelaw03.PathBack', WHERE WHAT IT READS IS OF BULK AT MOST 1048576: true; the input reads as it did. -/
def pathBackUptoRow : OpenClaim := { program := "ytilkifjdonafnaa", sum := "ceb76f32e0fdd55a2fb3fd0cc4c21687ec9d10257c2ba481f5dfb193259558a7", func := "glebe/glebelaw03.PathBack", spec := "pathBack", unfollowed := true, recurses := true, apart := false, narrowed := true }
def PathBackUptoSaid : Prop := pathBackUptoRow.holds Try.pinned (OpenSpec.upto pathBackSpec)

end Rows
end Go.Proofs.Ytilkifjdonafnaa
