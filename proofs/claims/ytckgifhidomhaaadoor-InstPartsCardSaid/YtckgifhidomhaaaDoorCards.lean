/-
  DERIVED. GIVEN WITH THE SEED: THE CARDS: each row of YtckgifhidomhaaaDoorRows.lean that lists a variable, with what it lists TIED to the program's text (the seventh form; the later family's looks); each row that meets fmt, with fmt's text TOLD by the authors' own Lean function (tested against real Go, not proved from fmt's source: count such statements apart). THE CARD IS WHAT COUNTS. Prove the row's statement (the work); the ties are given (YtckgifhidomhaaaDoorTie.lean); close each card by the builder's one call (the guide's Derived/Test/ToyasCard.lean, 'card_holds'). Laid BY PROGRAM, IN A SANDBOX (cutbox-door.mjs). By AI agents, Wed Nov 11 2026. No macro, syntax, notation, axiom, sorry.
-/
import Derived.Test.YtckgifhidomhaaaDoorRows
import GoSem.ClaimSeven
namespace Go.Proofs.YtckgifhidomhaaaDoor
namespace Rows

/-- THE TIED CARD OF 'novationlaw13.InstTables'. -/
def instTablesCard : Claim7 := { stood := { row := instTablesRow, standIns := [], harness := (true, "b83fa7d99e8f7b92e544ce278b7089e762074867f0903c6a52a3d79cbdf3eea8"), looks := false }, kinds := [], alts := [], laidByText := true, laidKinds := [.data, .data, .data], laidTests := true, laidLooks := .later }
def InstTablesCardSaid : Prop := Claim7.holds Tryd.pinned (.plain (OpenSpec.ofChange instTablesSpec)) instTablesCard

/-- THE TIED CARD OF 'novationlaw13.InstGains'. -/
def instGainsCard : Claim7 := { stood := { row := instGainsRow, standIns := [], harness := (true, "b83fa7d99e8f7b92e544ce278b7089e762074867f0903c6a52a3d79cbdf3eea8"), looks := false }, kinds := [], alts := [], laidByText := true, laidKinds := [.data, .data, .data], laidTests := true, laidLooks := .later }
def InstGainsCardSaid : Prop := Claim7.holds Tryd.pinned (.plain (OpenSpec.ofChange instGainsSpec)) instGainsCard

/-- THE TIED CARD OF 'novationlaw13.InstTurns'. -/
def instTurnsCard : Claim7 := { stood := { row := instTurnsRow, standIns := [], harness := (true, "b83fa7d99e8f7b92e544ce278b7089e762074867f0903c6a52a3d79cbdf3eea8"), looks := false }, kinds := [], alts := [], laidByText := true, laidKinds := [.data, .data, .data], laidTests := true, laidLooks := .later }
def InstTurnsCardSaid : Prop := Claim7.holds Tryd.pinned (.plain (OpenSpec.ofChange instTurnsSpec)) instTurnsCard

/-- THE TIED CARD OF 'novationlaw13.InstParts'. -/
def instPartsCard : Claim7 := { stood := { row := instPartsRow, standIns := [], harness := (true, "b83fa7d99e8f7b92e544ce278b7089e762074867f0903c6a52a3d79cbdf3eea8"), looks := false }, kinds := [], alts := [], laidByText := true, laidKinds := [.data, .data, .data], laidTests := true, laidLooks := .later }
def InstPartsCardSaid : Prop := Claim7.holds Tryd.pinned (.plain (OpenSpec.ofChange instPartsSpec)) instPartsCard

/-- THE SECOND FORM's CARD OF 'novationlaw13.InstTables'. -/
def instTablesUptoCard : Claim7 := { stood := { row := instTablesUptoRow, standIns := [], harness := (true, "b83fa7d99e8f7b92e544ce278b7089e762074867f0903c6a52a3d79cbdf3eea8"), looks := false }, kinds := [], alts := [], laidByText := true, laidKinds := [.data, .data, .data], laidTests := true, laidLooks := .later }
def InstTablesUptoCardSaid : Prop := Claim7.holds Tryd.pinned (.plain (OpenSpec.upto instTablesSpec)) instTablesUptoCard

/-- THE SECOND FORM's CARD OF 'novationlaw13.InstGains'. -/
def instGainsUptoCard : Claim7 := { stood := { row := instGainsUptoRow, standIns := [], harness := (true, "b83fa7d99e8f7b92e544ce278b7089e762074867f0903c6a52a3d79cbdf3eea8"), looks := false }, kinds := [], alts := [], laidByText := true, laidKinds := [.data, .data, .data], laidTests := true, laidLooks := .later }
def InstGainsUptoCardSaid : Prop := Claim7.holds Tryd.pinned (.plain (OpenSpec.upto instGainsSpec)) instGainsUptoCard

/-- THE SECOND FORM's CARD OF 'novationlaw13.InstTurns'. -/
def instTurnsUptoCard : Claim7 := { stood := { row := instTurnsUptoRow, standIns := [], harness := (true, "b83fa7d99e8f7b92e544ce278b7089e762074867f0903c6a52a3d79cbdf3eea8"), looks := false }, kinds := [], alts := [], laidByText := true, laidKinds := [.data, .data, .data], laidTests := true, laidLooks := .later }
def InstTurnsUptoCardSaid : Prop := Claim7.holds Tryd.pinned (.plain (OpenSpec.upto instTurnsSpec)) instTurnsUptoCard

/-- THE SECOND FORM's CARD OF 'novationlaw13.InstParts'. -/
def instPartsUptoCard : Claim7 := { stood := { row := instPartsUptoRow, standIns := [], harness := (true, "b83fa7d99e8f7b92e544ce278b7089e762074867f0903c6a52a3d79cbdf3eea8"), looks := false }, kinds := [], alts := [], laidByText := true, laidKinds := [.data, .data, .data], laidTests := true, laidLooks := .later }
def InstPartsUptoCardSaid : Prop := Claim7.holds Tryd.pinned (.plain (OpenSpec.upto instPartsSpec)) instPartsUptoCard
end Rows
end Go.Proofs.YtckgifhidomhaaaDoor
