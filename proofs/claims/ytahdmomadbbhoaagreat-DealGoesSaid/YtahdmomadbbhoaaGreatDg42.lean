import Derived.Deep.CutBlock
import Derived.Deep.CutRange
import Derived.Deep.DeepCutAuto
import Derived.Test.YtahdmomadbbhoaaGreatDg12
import Derived.Test.YtahdmomadbbhoaaGreatDg13
import Derived.Test.YtahdmomadbbhoaaGreatDg15
import Derived.Test.YtahdmomadbbhoaaGreatDg20
import Derived.Test.YtahdmomadbbhoaaGreatDg23
import Derived.Test.YtahdmomadbbhoaaGreatDg37
import Derived.Test.YtahdmomadbbhoaaGreatDg41
section
namespace Go.Proofs.YtahdmomadbbhoaaGreat
open Go.ChangeShapes Go.WideShapes Go.ChangeAt Go.RowKit
set_option linter.unusedVariables false
set_option linter.unusedSimpArgs false

theorem ok_pr {i : Ins} (h : okB i = true) : prB i.price = true ∧ prB i.nxt = true := by
  unfold okB headB at h
  simp only [Bool.and_eq_true] at h
  exact ⟨h.1.1.1.2, h.1.1.2⟩
theorem payR_facts {p O Q : List Fw} (h : payR p O = (0, Q)) : isF p = true ∧ Q = purseOf (p ++ O) := by
  unfold payR at h
  split at h
  · cases h
  · rename_i hp
    split at h
    · cases h
    · injection h with _ h
      exact ⟨by simpa using hp, h.symm⟩
-- OF A BALANCED BOOK NOTHING
-- THERE AND BACK
end Go.Proofs.YtahdmomadbbhoaaGreat
end
