/-
  DERIVED. GIVEN WITH THE SEED: THE CARDS: each row of YthgcmcdacejelaaDoorRows.lean that lists a variable, with what it lists TIED to the program's text (the seventh form; the later family's looks); each row that meets fmt, with fmt's text TOLD by the authors' own Lean function (tested against real Go, not proved from fmt's source: count such statements apart). THE CARD IS WHAT COUNTS. Prove the row's statement (the work); the ties are given (YthgcmcdacejelaaDoorTie.lean); close each card by the builder's one call (the guide's Derived/Test/ToyasCard.lean, 'card_holds'). Laid BY PROGRAM, IN A SANDBOX (cutbox-door.mjs). By AI agents, Wed Nov 11 2026. No macro, syntax, notation, axiom, sorry.
-/
import Derived.Test.YthgcmcdacejelaaDoorRows
import GoSem.ClaimSeven
namespace Go.Proofs.YthgcmcdacejelaaDoor
namespace Rows

/-- THE TIED CARD OF 'glebelaw07.PointPuts'. -/
def pointPutsCard : Claim7 := { stood := { row := pointPutsRow, standIns := [], harness := (true, "f4378c3545c69597b692cdc3fed22a0be3804d5719237aea30c9efcb2abba963"), looks := false }, kinds := [], alts := [], laidByText := true, laidKinds := [.sentinel], laidTests := true, laidLooks := .later }
def PointPutsCardSaid : Prop := Claim7.holds Tryd.pinned (.plain (OpenSpec.ofChange pointPutsSpec)) pointPutsCard

/-- THE TIED CARD OF 'glebelaw07.PointTakes'. -/
def pointTakesCard : Claim7 := { stood := { row := pointTakesRow, standIns := [], harness := (true, "f4378c3545c69597b692cdc3fed22a0be3804d5719237aea30c9efcb2abba963"), looks := false }, kinds := [], alts := [], laidByText := true, laidKinds := [.sentinel], laidTests := true, laidLooks := .later }
def PointTakesCardSaid : Prop := Claim7.holds Tryd.pinned (.plain (OpenSpec.ofChange pointTakesSpec)) pointTakesCard

/-- THE TIED CARD OF 'glebelaw07.PointBack'. -/
def pointBackCard : Claim7 := { stood := { row := pointBackRow, standIns := [], harness := (true, "f4378c3545c69597b692cdc3fed22a0be3804d5719237aea30c9efcb2abba963"), looks := false }, kinds := [], alts := [], laidByText := true, laidKinds := [.sentinel], laidTests := true, laidLooks := .later }
def PointBackCardSaid : Prop := Claim7.holds Tryd.pinned (.plain (OpenSpec.ofChange pointBackSpec)) pointBackCard

/-- THE TIED CARD OF 'glebelaw07.PointOrder'. -/
def pointOrderCard : Claim7 := { stood := { row := pointOrderRow, standIns := [], harness := (true, "f4378c3545c69597b692cdc3fed22a0be3804d5719237aea30c9efcb2abba963"), looks := false }, kinds := [], alts := [], laidByText := true, laidKinds := [.sentinel], laidTests := true, laidLooks := .later }
def PointOrderCardSaid : Prop := Claim7.holds Tryd.pinned (.plain (OpenSpec.ofChange pointOrderSpec)) pointOrderCard

/-- THE SECOND FORM's CARD OF 'glebelaw07.PointPuts'. -/
def pointPutsUptoCard : Claim7 := { stood := { row := pointPutsUptoRow, standIns := [], harness := (true, "f4378c3545c69597b692cdc3fed22a0be3804d5719237aea30c9efcb2abba963"), looks := false }, kinds := [], alts := [], laidByText := true, laidKinds := [.sentinel], laidTests := true, laidLooks := .later }
def PointPutsUptoCardSaid : Prop := Claim7.holds Tryd.pinned (.plain (OpenSpec.upto pointPutsSpec)) pointPutsUptoCard

/-- THE SECOND FORM's CARD OF 'glebelaw07.PointTakes'. -/
def pointTakesUptoCard : Claim7 := { stood := { row := pointTakesUptoRow, standIns := [], harness := (true, "f4378c3545c69597b692cdc3fed22a0be3804d5719237aea30c9efcb2abba963"), looks := false }, kinds := [], alts := [], laidByText := true, laidKinds := [.sentinel], laidTests := true, laidLooks := .later }
def PointTakesUptoCardSaid : Prop := Claim7.holds Tryd.pinned (.plain (OpenSpec.upto pointTakesSpec)) pointTakesUptoCard

/-- THE SECOND FORM's CARD OF 'glebelaw07.PointBack'. -/
def pointBackUptoCard : Claim7 := { stood := { row := pointBackUptoRow, standIns := [], harness := (true, "f4378c3545c69597b692cdc3fed22a0be3804d5719237aea30c9efcb2abba963"), looks := false }, kinds := [], alts := [], laidByText := true, laidKinds := [.sentinel], laidTests := true, laidLooks := .later }
def PointBackUptoCardSaid : Prop := Claim7.holds Tryd.pinned (.plain (OpenSpec.upto pointBackSpec)) pointBackUptoCard

/-- THE SECOND FORM's CARD OF 'glebelaw07.PointOrder'. -/
def pointOrderUptoCard : Claim7 := { stood := { row := pointOrderUptoRow, standIns := [], harness := (true, "f4378c3545c69597b692cdc3fed22a0be3804d5719237aea30c9efcb2abba963"), looks := false }, kinds := [], alts := [], laidByText := true, laidKinds := [.sentinel], laidTests := true, laidLooks := .later }
def PointOrderUptoCardSaid : Prop := Claim7.holds Tryd.pinned (.plain (OpenSpec.upto pointOrderSpec)) pointOrderUptoCard
end Rows
end Go.Proofs.YthgcmcdacejelaaDoor
