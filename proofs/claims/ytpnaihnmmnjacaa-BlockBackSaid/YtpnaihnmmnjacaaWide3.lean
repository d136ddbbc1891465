/-
  The walks of layer 1, third part: Sub, Neg, size, Cmp, Sign.
-/
import Derived.Test.YtpnaihnmmnjacaaWide2
namespace Go.Proofs.Ytpnaihnmmnjacaa
open Go.ChangeShapes Go.WideShapes Go.ChangeAt Go.RowKit
set_option linter.unusedVariables false
set_option linter.unusedSimpArgs false

theorem in192_of {x y : Int} (hx : In128 x) (hy : In128 y) : In192 (x + -y) ∧ In192 (-x) := by
  unfold In128 In192 at *; omega


end Go.Proofs.Ytpnaihnmmnjacaa
