/-
  DealKeeps: for every input the law returns true, and what came in reads as before. The row's frame; the walk is walk_DealKeeps.
-/
import Derived.Test.YtahdmomadbbhoaaGreatDk50
import Derived.Test.YtahdmomadbbhoaaGreatDk51
section
namespace Go.Proofs.YtahdmomadbbhoaaGreat.dealKeeps
open Go.ChangeShapes Go.WideShapes Go.ChangeAt Go.RowKit
open Go.ChangeMaps (open_string shut_string)
set_option linter.unusedVariables false

end Go.Proofs.YtahdmomadbbhoaaGreat.dealKeeps
end
