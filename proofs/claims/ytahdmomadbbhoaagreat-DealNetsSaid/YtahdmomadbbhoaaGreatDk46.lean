import Derived.Test.YtahdmomadbbhoaaGreatDk11
import Derived.Test.YtahdmomadbbhoaaGreatDk12
import Derived.Test.YtahdmomadbbhoaaGreatDk13
import Derived.Test.YtahdmomadbbhoaaGreatDk31
import Derived.Test.YtahdmomadbbhoaaGreatDk45
section
namespace Go.Proofs.YtahdmomadbbhoaaGreat
open Go.ChangeShapes Go.WideShapes Go.ChangeAt Go.RowKit
set_option linter.unusedVariables false
set_option linter.unusedSimpArgs false

theorem moveR_yes {p : List Fw} {fa fc ta tc m : Int} (h : isF p = true) (h8 : In64 (-m)) : moveR p fa fc ta tc m = payR p [⟨fa, fc, -m⟩, ⟨ta, tc, m⟩] := by
  unfold moveR
  rw [if_neg (by simp [h]), if_pos h8]
end Go.Proofs.YtahdmomadbbhoaaGreat
end
