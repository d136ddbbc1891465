/-
  The walks of layer 1, fourth part: size, Cmp, Sign.
-/
import Derived.Test.YtfagpdnckmaomaaWide2
namespace Go.Proofs.Ytfagpdnckmaomaa
open Go.ChangeShapes Go.WideShapes Go.ChangeAt Go.RowKit
set_option linter.unusedVariables false
set_option linter.unusedSimpArgs false

def absI (x : Int) : Int := if x < 0 then -x else x
theorem hi_neg {x : Int} (h : In128 x) : hiN x < 0 ↔ x < 0 := by
  rw [hi_in h]; unfold In128 at h; omega


end Go.Proofs.Ytfagpdnckmaomaa
