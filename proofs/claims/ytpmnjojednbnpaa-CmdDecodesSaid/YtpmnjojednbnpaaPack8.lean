/-
  Layer 4, eighth part: Text of the reader (laid by gen_pack8.py).
-/
import Derived.Test.YtpmnjojednbnpaaPack7
namespace Go.Proofs.Ytpmnjojednbnpaa
open Go.ChangeShapes Go.WideShapes Go.ChangeAt Go.RowKit
set_option linter.unusedVariables false
set_option linter.unusedSimpArgs false

theorem rdI_lo {lo hi : Int} {s : Rs} (h : (rdI lo hi s).2.err = 0) : lo ≤ (rdI lo hi s).1 ∧ (rdI lo hi s).1 ≤ hi := by
  revert h
  unfold rdI
  split
  · intro h; rename_i h2; exact absurd h h2
  · split
    · intro h; rename_i h2; exact absurd h h2
    · split
      · intro h; cases h
      · intro _; simp only; omega
theorem Oct.dropB {l : List Nat} (h : Oct l) (n : Nat) : Oct (l.drop n) := fun x hx => h x (List.mem_of_mem_drop hx)

end Go.Proofs.Ytpmnjojednbnpaa
