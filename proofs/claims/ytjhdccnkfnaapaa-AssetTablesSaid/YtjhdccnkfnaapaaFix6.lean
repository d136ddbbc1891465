/-
  The walks of layer 2, sixth part: the document's Sum.
-/
import Derived.Test.YtjhdccnkfnaapaaFix5
namespace Go.Proofs.Ytjhdccnkfnaapaa
open Go.ChangeShapes Go.WideShapes Go.ChangeAt Go.RowKit
set_option linter.unusedVariables false
set_option linter.unusedSimpArgs false

end Go.Proofs.Ytjhdccnkfnaapaa
