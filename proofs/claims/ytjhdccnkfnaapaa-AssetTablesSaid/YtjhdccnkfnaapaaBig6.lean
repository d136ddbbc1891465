/-
  The walks of the document's numbers without bounds, sixth part: Div.
-/
import Derived.Test.YtjhdccnkfnaapaaWide7
import Derived.Test.YtjhdccnkfnaapaaDiv4
namespace Go.Proofs.Ytjhdccnkfnaapaa
open Go.ChangeShapes Go.WideShapes Go.ChangeAt Go.RowKit
set_option linter.unusedVariables false
set_option linter.unusedSimpArgs false

theorem bval_dropk (l : List Nat) (j : Nat) (h : j < l.length) : bval (l.drop j) = l[j] + 2 * bval (l.drop (j + 1)) := by
  rw [List.drop_eq_getElem_cons h]; rfl

end Go.Proofs.Ytjhdccnkfnaapaa
