/-
  NARROWER THAN 'FOR EVERY INPUT', by the rows' own cells (each row's printed sentence says how): EntryLooks: laid · EntryTakes: laid · EntryBack: laid · EntryHeirs: laid.
  DERIVED. THE GIVEN ROWS OF THIS SEAT. 4 by the template 'for every input the law returns true; each argument reads behind the call as it read before'; 0 by the template 'total and deterministic' (their statements: YtimmnmidhjbanaaDoorTotals.lean).
  GIVEN WITH THE SEED: the statements are not yours to turn. If you find one false, say at which input.
  Laid BY PROGRAM, IN A SANDBOX (cutbox-rows.mjs): the forced cells as the released guide's own fill.sh prints them over the translation 10790fffa3e6c988… (all of the seat's roots in one cut). By AI agents, Wed Nov 11 2026. No macro, syntax, notation, axiom, sorry.
-/
import Derived.Test.YtimmnmidhjbanaaDoorChecked
import GoSem.Claim
import GoSem.ClaimJoined
import GoSem.ClaimMapViews
import Derived.JoinedTies
import Derived.KernelRfl
namespace Go.Proofs.YtimmnmidhjbanaaDoor
/- THE CELL 'sum', in the pinned program and in every row, IS THE sha256 OF THE DUMP (.gsa) THAT YtimmnmidhjbanaaDoorProg.lean LOADS. Nothing in Lean hashes anything: it is a label: what it is worth is what the hold of that sum in a sandbox is worth. -/
noncomputable def Tryd.pinned : Pinned := { name := "ytimmnmidhjbanaadoor", sum := "10790fffa3e6c988937a002af6a186e0882c738b254eceb1139b71832274be9b", checked := Tryd.checked }
namespace Rows
def none {H : Type} : Left H := { results := [], args := [] }

/- WHAT THE LISTED PACKAGE-LEVEL VARIABLES READ AS WHEN THE CALL BEGINS. Each datum BY PROGRAM (the guide's laid-datum.mjs) off the statement by which the dump's own 'gosem.cut.vars' lays the variable. In a bare row this is a premise. The card (YtimmnmidhjbanaaDoorCards.lean) ties it to the program's text. -/
def laid_bytes_ErrTooLarge {H : Type} : DataW H := .iface "*errors.errorString" (.ptr (.agg [.lit (.string [98, 121, 116, 101, 115, 46, 66, 117, 102, 102, 101, 114, 58, 32, 116, 111, 111, 32, 108, 97, 114, 103, 101])]))

/-- 'glebelaw11.EntryLooks': WHATEVER THE INPUT: true; the input reads as it did. -/
def entryLooksSpec : ChangeSpec := { name := "entryLooks", fn := fun _ => fun
  | [d1, d2, d3, d4] => { results := [.lit (.bool true)], args := [d1, d2, d3, d4] }
  | _ => none }
def entryLooksRow : OpenClaim := { program := "ytimmnmidhjbanaadoor", sum := "10790fffa3e6c988937a002af6a186e0882c738b254eceb1139b71832274be9b", func := "glebe/glebelaw11.EntryLooks", spec := "entryLooks", named := ["bytes.ErrTooLarge"], apart := false, laid := [("bytes.ErrTooLarge", laid_bytes_ErrTooLarge)] }
def EntryLooksSaid : Prop := entryLooksRow.holds Tryd.pinned (OpenSpec.ofChange entryLooksSpec)

/-- ITS FALSE NEIGHBOUR: 'it returns false'. Refute it at one input. -/
def entryLooksWrong : ChangeSpec := { name := "entryLooks", fn := fun _ => fun
  | [d1, d2, d3, d4] => { results := [.lit (.bool false)], args := [d1, d2, d3, d4] }
  | _ => none }
def EntryLooksWrongFalsely : Prop := entryLooksRow.holds Tryd.pinned (OpenSpec.ofChange entryLooksWrong)

/-- 'glebelaw11.EntryTakes': WHATEVER THE INPUT: true; the input reads as it did. -/
def entryTakesSpec : ChangeSpec := { name := "entryTakes", fn := fun _ => fun
  | [d] => { results := [.lit (.bool true)], args := [d] }
  | _ => none }
def entryTakesRow : OpenClaim := { program := "ytimmnmidhjbanaadoor", sum := "10790fffa3e6c988937a002af6a186e0882c738b254eceb1139b71832274be9b", func := "glebe/glebelaw11.EntryTakes", spec := "entryTakes", named := ["bytes.ErrTooLarge"], apart := false, laid := [("bytes.ErrTooLarge", laid_bytes_ErrTooLarge)] }
def EntryTakesSaid : Prop := entryTakesRow.holds Tryd.pinned (OpenSpec.ofChange entryTakesSpec)

/-- ITS FALSE NEIGHBOUR: 'it returns false'. Refute it at one input. -/
def entryTakesWrong : ChangeSpec := { name := "entryTakes", fn := fun _ => fun
  | [d] => { results := [.lit (.bool false)], args := [d] }
  | _ => none }
def EntryTakesWrongFalsely : Prop := entryTakesRow.holds Tryd.pinned (OpenSpec.ofChange entryTakesWrong)

/-- 'glebelaw11.EntryBack': WHATEVER THE INPUT: true; the input reads as it did. -/
def entryBackSpec : ChangeSpec := { name := "entryBack", fn := fun _ => fun
  | [d1, d2] => { results := [.lit (.bool true)], args := [d1, d2] }
  | _ => none }
def entryBackRow : OpenClaim := { program := "ytimmnmidhjbanaadoor", sum := "10790fffa3e6c988937a002af6a186e0882c738b254eceb1139b71832274be9b", func := "glebe/glebelaw11.EntryBack", spec := "entryBack", named := ["bytes.ErrTooLarge"], apart := false, laid := [("bytes.ErrTooLarge", laid_bytes_ErrTooLarge)] }
def EntryBackSaid : Prop := entryBackRow.holds Tryd.pinned (OpenSpec.ofChange entryBackSpec)

/-- ITS FALSE NEIGHBOUR: 'it returns false'. Refute it at one input. -/
def entryBackWrong : ChangeSpec := { name := "entryBack", fn := fun _ => fun
  | [d1, d2] => { results := [.lit (.bool false)], args := [d1, d2] }
  | _ => none }
def EntryBackWrongFalsely : Prop := entryBackRow.holds Tryd.pinned (OpenSpec.ofChange entryBackWrong)

/-- 'glebelaw11.EntryHeirs': WHATEVER THE INPUT: true; the input reads as it did. -/
def entryHeirsSpec : ChangeSpec := { name := "entryHeirs", fn := fun _ => fun
  | [d] => { results := [.lit (.bool true)], args := [d] }
  | _ => none }
def entryHeirsRow : OpenClaim := { program := "ytimmnmidhjbanaadoor", sum := "10790fffa3e6c988937a002af6a186e0882c738b254eceb1139b71832274be9b", func := "glebe/glebelaw11.EntryHeirs", spec := "entryHeirs", named := ["bytes.ErrTooLarge"], apart := false, laid := [("bytes.ErrTooLarge", laid_bytes_ErrTooLarge)] }
def EntryHeirsSaid : Prop := entryHeirsRow.holds Tryd.pinned (OpenSpec.ofChange entryHeirsSpec)

/-- ITS FALSE NEIGHBOUR: 'it returns false'. Refute it at one input. -/
def entryHeirsWrong : ChangeSpec := { name := "entryHeirs", fn := fun _ => fun
  | [d] => { results := [.lit (.bool false)], args := [d] }
  | _ => none }
def EntryHeirsWrongFalsely : Prop := entryHeirsRow.holds Tryd.pinned (OpenSpec.ofChange entryHeirsWrong)

/- THE SECOND FORM. 'bulk': how many values and letters a reading holds, each counted each time it is reached (what is shared counts as often as it is met; a slice's spare places count too). A statement '..UptoSaid' is the law's where the arguments, and the package variables that the reading takes, are together of bulk at most 1048576: NARROWER than '..Said'. Prove '..Said' where nothing that the law and all that it calls make is longer than what came in: it says more and counts as full. Else prove '..UptoSaid'. A law counts once. -/
mutual
def uptoBulk {H : Type} : DataW H → Nat
  | .lit (.string bytes) => bytes.length + 1
  | .lit _ => 1
  | .nil => 1
  | .ptr d => uptoBulk d + 1
  | .slice elems spare => uptoBulkAll elems + uptoBulkAll spare + 1
  | .agg parts => uptoBulkAll parts + 1
  | .iface _ d => uptoBulk d + 1
  | .map entries => uptoBulkEntries entries + 1
  | .held _ => 1
def uptoBulkAll {H : Type} : List (DataW H) → Nat
  | [] => 0
  | d :: r => uptoBulk d + uptoBulkAll r
def uptoBulkEntries {H : Type} : List (Lit × DataW H) → Nat
  | [] => 0
  | x :: r => uptoBulkEntry x + uptoBulkEntries r
def uptoBulkEntry {H : Type} : Lit × DataW H → Nat
  | (.string bytes, d) => bytes.length + uptoBulk d + 1
  | (_, d) => uptoBulk d + 1
 end
def uptoSmall : (H : Type) → List (DataW H) → Bool := fun _ ds => decide (uptoBulkAll ds ≤ 1048576)
def OpenSpec.upto (s : _root_.Go.ChangeSpec) : _root_.Go.OpenSpec := { _root_.Go.OpenSpec.ofChange s with cond := some uptoSmall }

/-- 'glebelaw11.EntryLooks', WHERE WHAT IT READS IS OF BULK AT MOST 1048576: true; the input reads as it did. -/
def entryLooksUptoRow : OpenClaim := { program := "ytimmnmidhjbanaadoor", sum := "10790fffa3e6c988937a002af6a186e0882c738b254eceb1139b71832274be9b", func := "glebe/glebelaw11.EntryLooks", spec := "entryLooks", named := ["bytes.ErrTooLarge"], apart := false, laid := [("bytes.ErrTooLarge", laid_bytes_ErrTooLarge)], narrowed := true }
def EntryLooksUptoSaid : Prop := entryLooksUptoRow.holds Tryd.pinned (OpenSpec.upto entryLooksSpec)

/-- 'glebelaw11.EntryTakes', WHERE WHAT IT READS IS OF BULK AT MOST 1048576: true; the input reads as it did. -/
def entryTakesUptoRow : OpenClaim := { program := "ytimmnmidhjbanaadoor", sum := "10790fffa3e6c988937a002af6a186e0882c738b254eceb1139b71832274be9b", func := "glebe/glebelaw11.EntryTakes", spec := "entryTakes", named := ["bytes.ErrTooLarge"], apart := false, laid := [("bytes.ErrTooLarge", laid_bytes_ErrTooLarge)], narrowed := true }
def EntryTakesUptoSaid : Prop := entryTakesUptoRow.holds Tryd.pinned (OpenSpec.upto entryTakesSpec)

/-- 'glebelaw11.EntryBack', WHERE WHAT IT READS IS OF BULK AT MOST 1048576: true; the input reads as it did. -/
def entryBackUptoRow : OpenClaim := { program := "ytimmnmidhjbanaadoor", sum := "10790fffa3e6c988937a002af6a186e0882c738b254eceb1139b71832274be9b", func := "glebe/glebelaw11.EntryBack", spec := "entryBack", named := ["bytes.ErrTooLarge"], apart := false, laid := [("bytes.ErrTooLarge", laid_bytes_ErrTooLarge)], narrowed := true }
def EntryBackUptoSaid : Prop := entryBackUptoRow.holds Tryd.pinned (OpenSpec.upto entryBackSpec)

/-- 'glebelaw11.EntryHeirs', WHERE WHAT IT READS IS OF BULK AT MOST 1048576: true; the input reads as it did. -/
def entryHeirsUptoRow : OpenClaim := { program := "ytimmnmidhjbanaadoor", sum := "10790fffa3e6c988937a002af6a186e0882c738b254eceb1139b71832274be9b", func := "glebe/glebelaw11.EntryHeirs", spec := "entryHeirs", named := ["bytes.ErrTooLarge"], apart := false, laid := [("bytes.ErrTooLarge", laid_bytes_ErrTooLarge)], narrowed := true }
def EntryHeirsUptoSaid : Prop := entryHeirsUptoRow.holds Tryd.pinned (OpenSpec.upto entryHeirsSpec)

end Rows
end Go.Proofs.YtimmnmidhjbanaaDoor
