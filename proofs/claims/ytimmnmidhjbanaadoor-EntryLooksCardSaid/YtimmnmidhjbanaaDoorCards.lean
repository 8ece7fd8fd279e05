/-
  DERIVED. GIVEN WITH THE SEED: THE CARDS: each row of YtimmnmidhjbanaaDoorRows.lean that lists a variable, with what it lists TIED to the program's text (the seventh form; the later family's looks); each row that meets fmt, with fmt's text TOLD by the authors' own Lean function (tested against real Go, not proved from fmt's source: count such statements apart). THE CARD IS WHAT COUNTS. Prove the row's statement (the work); the ties are given (YtimmnmidhjbanaaDoorTie.lean); close each card by the builder's one call (the guide's Derived/Test/ToyasCard.lean, 'card_holds'). Laid BY PROGRAM, IN A SANDBOX (cutbox-door.mjs). By AI agents, Wed Nov 11 2026. No macro, syntax, notation, axiom, sorry.
-/
import Derived.Test.YtimmnmidhjbanaaDoorRows
import GoSem.ClaimSeven
namespace Go.Proofs.YtimmnmidhjbanaaDoor
namespace Rows

/-- THE TIED CARD OF 'glebelaw11.EntryLooks'. -/
def entryLooksCard : Claim7 := { stood := { row := entryLooksRow, standIns := [], harness := (true, "b17e0fe2bbcc7ea9bc52fe1e3b682cc1149bf9dce4200e2b7cd6c222b069bf2f"), looks := false }, kinds := [], alts := [], laidByText := true, laidKinds := [.sentinel], laidTests := true, laidLooks := .later }
def EntryLooksCardSaid : Prop := Claim7.holds Tryd.pinned (.plain (OpenSpec.ofChange entryLooksSpec)) entryLooksCard

/-- THE TIED CARD OF 'glebelaw11.EntryTakes'. -/
def entryTakesCard : Claim7 := { stood := { row := entryTakesRow, standIns := [], harness := (true, "b17e0fe2bbcc7ea9bc52fe1e3b682cc1149bf9dce4200e2b7cd6c222b069bf2f"), looks := false }, kinds := [], alts := [], laidByText := true, laidKinds := [.sentinel], laidTests := true, laidLooks := .later }
def EntryTakesCardSaid : Prop := Claim7.holds Tryd.pinned (.plain (OpenSpec.ofChange entryTakesSpec)) entryTakesCard

/-- THE TIED CARD OF 'glebelaw11.EntryBack'. -/
def entryBackCard : Claim7 := { stood := { row := entryBackRow, standIns := [], harness := (true, "b17e0fe2bbcc7ea9bc52fe1e3b682cc1149bf9dce4200e2b7cd6c222b069bf2f"), looks := false }, kinds := [], alts := [], laidByText := true, laidKinds := [.sentinel], laidTests := true, laidLooks := .later }
def EntryBackCardSaid : Prop := Claim7.holds Tryd.pinned (.plain (OpenSpec.ofChange entryBackSpec)) entryBackCard

/-- THE TIED CARD OF 'glebelaw11.EntryHeirs'. -/
def entryHeirsCard : Claim7 := { stood := { row := entryHeirsRow, standIns := [], harness := (true, "b17e0fe2bbcc7ea9bc52fe1e3b682cc1149bf9dce4200e2b7cd6c222b069bf2f"), looks := false }, kinds := [], alts := [], laidByText := true, laidKinds := [.sentinel], laidTests := true, laidLooks := .later }
def EntryHeirsCardSaid : Prop := Claim7.holds Tryd.pinned (.plain (OpenSpec.ofChange entryHeirsSpec)) entryHeirsCard

/-- THE SECOND FORM's CARD OF 'glebelaw11.EntryLooks'. -/
def entryLooksUptoCard : Claim7 := { stood := { row := entryLooksUptoRow, standIns := [], harness := (true, "b17e0fe2bbcc7ea9bc52fe1e3b682cc1149bf9dce4200e2b7cd6c222b069bf2f"), looks := false }, kinds := [], alts := [], laidByText := true, laidKinds := [.sentinel], laidTests := true, laidLooks := .later }
def EntryLooksUptoCardSaid : Prop := Claim7.holds Tryd.pinned (.plain (OpenSpec.upto entryLooksSpec)) entryLooksUptoCard

/-- THE SECOND FORM's CARD OF 'glebelaw11.EntryTakes'. -/
def entryTakesUptoCard : Claim7 := { stood := { row := entryTakesUptoRow, standIns := [], harness := (true, "b17e0fe2bbcc7ea9bc52fe1e3b682cc1149bf9dce4200e2b7cd6c222b069bf2f"), looks := false }, kinds := [], alts := [], laidByText := true, laidKinds := [.sentinel], laidTests := true, laidLooks := .later }
def EntryTakesUptoCardSaid : Prop := Claim7.holds Tryd.pinned (.plain (OpenSpec.upto entryTakesSpec)) entryTakesUptoCard

/-- THE SECOND FORM's CARD OF 'glebelaw11.EntryBack'. -/
def entryBackUptoCard : Claim7 := { stood := { row := entryBackUptoRow, standIns := [], harness := (true, "b17e0fe2bbcc7ea9bc52fe1e3b682cc1149bf9dce4200e2b7cd6c222b069bf2f"), looks := false }, kinds := [], alts := [], laidByText := true, laidKinds := [.sentinel], laidTests := true, laidLooks := .later }
def EntryBackUptoCardSaid : Prop := Claim7.holds Tryd.pinned (.plain (OpenSpec.upto entryBackSpec)) entryBackUptoCard

/-- THE SECOND FORM's CARD OF 'glebelaw11.EntryHeirs'. -/
def entryHeirsUptoCard : Claim7 := { stood := { row := entryHeirsUptoRow, standIns := [], harness := (true, "b17e0fe2bbcc7ea9bc52fe1e3b682cc1149bf9dce4200e2b7cd6c222b069bf2f"), looks := false }, kinds := [], alts := [], laidByText := true, laidKinds := [.sentinel], laidTests := true, laidLooks := .later }
def EntryHeirsUptoCardSaid : Prop := Claim7.holds Tryd.pinned (.plain (OpenSpec.upto entryHeirsSpec)) entryHeirsUptoCard
end Rows
end Go.Proofs.YtimmnmidhjbanaaDoor
