/-
  DERIVED. GIVEN WITH THE SEED: THE CARDS: each row of YtldnponbkhgijaaDoorRows.lean that lists a variable, with what it lists TIED to the program's text (the seventh form; the later family's looks); each row that meets fmt, with fmt's text TOLD by the authors' own Lean function (tested against real Go, not proved from fmt's source: count such statements apart). THE CARD IS WHAT COUNTS. Prove the row's statement (the work); the ties are given (YtldnponbkhgijaaDoorTie.lean); close each card by the builder's one call (the guide's Derived/Test/ToyasCard.lean, 'card_holds'). Laid BY PROGRAM, IN A SANDBOX (cutbox-door.mjs). By AI agents, Wed Nov 11 2026. No macro, syntax, notation, axiom, sorry.
-/
import Derived.Test.YtldnponbkhgijaaDoorRows
import GoSem.ClaimSeven
namespace Go.Proofs.YtldnponbkhgijaaDoor
namespace Rows

/-- THE TIED CARD OF 'novationlaw13.InstTables'. -/
def instTablesCard : Claim7 := { stood := { row := instTablesRow, standIns := [], harness := (true, "7ef36a2dc61524b5c266ecd709feb285f8da130a9cdcc2ccfee8ebe107f3f74e"), looks := false }, kinds := [], alts := [], laidByText := true, laidKinds := [.data, .data, .data], laidTests := true, laidLooks := .later }
def InstTablesCardSaid : Prop := Claim7.holds Tryd.pinned (.plain (OpenSpec.ofChange instTablesSpec)) instTablesCard

/-- THE SECOND FORM's CARD OF 'novationlaw13.InstTables'. -/
def instTablesUptoCard : Claim7 := { stood := { row := instTablesUptoRow, standIns := [], harness := (true, "7ef36a2dc61524b5c266ecd709feb285f8da130a9cdcc2ccfee8ebe107f3f74e"), looks := false }, kinds := [], alts := [], laidByText := true, laidKinds := [.data, .data, .data], laidTests := true, laidLooks := .later }
def InstTablesUptoCardSaid : Prop := Claim7.holds Tryd.pinned (.plain (OpenSpec.upto instTablesSpec)) instTablesUptoCard
end Rows
end Go.Proofs.YtldnponbkhgijaaDoor
