/-
  The walks of the document's numbers without bounds, second part: plus, less, minus.
-/
import Derived.Test.YtjhdccnkfnaapaaBig
namespace Go.Proofs.Ytjhdccnkfnaapaa
open Go.ChangeShapes Go.WideShapes Go.ChangeAt Go.RowKit
set_option linter.unusedVariables false
set_option linter.unusedSimpArgs false

theorem bval_step (l : List Nat) (k : Nat) : bval (l.take (k + 1)) = bval (l.take k) + 2 ^ k * l.getD k 0 := by
  by_cases h : k < l.length
  · rw [bval_take l k h]; simp [List.getD, h]
  · rw [List.take_of_length_le (by omega), List.take_of_length_le (by omega)]
    simp [List.getD, List.getElem?_eq_none (show l.length ≤ k by omega)]
theorem getD_in {l : List Nat} {k : Nat} (h : k < l.length) : l.getD k 0 = l[k] := by simp [List.getD, h]
theorem getD_out {l : List Nat} {k : Nat} (h : ¬ k < l.length) : l.getD k 0 = 0 := by simp [List.getD, List.getElem?_eq_none (show l.length ≤ k by omega)]

/-- a row of bits in new memory -/
def BRow (B : Nat) (w : World) (A : Option Addr) (c : Nat) (out : List Nat) : Prop := (out.length ≤ c ∧ c ≤ maxLen) ∧ Sl w A (by8 out) ∧ Bin out ∧ Fr B A out.length


end Go.Proofs.Ytjhdccnkfnaapaa
