/-
  The walks of the document's numbers without bounds, sixth part: Div.
-/
import Derived.Test.YtfagpdnckmaomaaWide7
import Derived.Test.YtfagpdnckmaomaaDiv4
namespace Go.Proofs.Ytfagpdnckmaomaa
open Go.ChangeShapes Go.WideShapes Go.ChangeAt Go.RowKit
set_option linter.unusedVariables false
set_option linter.unusedSimpArgs false

theorem nat_one (w : World) :
    Calls Try.prog 82 #[.int .u64 1] w fun e w' => (∃ A n c, e = .returned (.agg #[.bool false, .slice A n c]) ∧ Fr w.heap.size A n ∧ BigAt w' false A n c 1) ∧ Below w.heap.size w w' := nat_any 1 w (by decide)
theorem bval_dropk (l : List Nat) (j : Nat) (h : j < l.length) : bval (l.drop j) = l[j] + 2 * bval (l.drop (j + 1)) := by
  rw [List.drop_eq_getElem_cons h]; rfl

end Go.Proofs.Ytfagpdnckmaomaa
