/-
  The walks of layer 2, seventh part: the document's Product.
-/
import Derived.Test.YtjhdccnkfnaapaaFix6
namespace Go.Proofs.Ytjhdccnkfnaapaa
open Go.ChangeShapes Go.WideShapes Go.ChangeAt Go.RowKit
set_option linter.unusedVariables false
set_option linter.unusedSimpArgs false

def prodR (w' : World) (e : Ending) (l : List Int) : Prop := ∃ s A n c z, e = .returned (.tuple #[.agg #[.bool s, .slice A n c], .bool (prods l).isSome]) ∧ BigAt w' s A n c z ∧ n ≤ 200 ∧ ∀ p, prods l = some p → z = p

end Go.Proofs.Ytjhdccnkfnaapaa
