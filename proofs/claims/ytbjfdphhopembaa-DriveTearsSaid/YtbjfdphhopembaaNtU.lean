/-
  slices.DeleteFunc, table.Drop, Find, Rising, Put at rows of Nt. Written by program (gen_table.py).
-/
import Derived.Test.YtbjfdphhopembaaNtT
namespace Go.Proofs.Ytbjfdphhopembaa
open Go.ChangeShapes Go.WideShapes Go.ChangeAt Go.RowKit
set_option linter.unusedVariables false
set_option linter.unusedSimpArgs false

def Nt.Df (p : Nt → Bool) (l : List Nt) (n c g B : Nat) (w : World) (i j : Value) (wr : World) : Prop :=
  ∃ (kk jj : Nat) (l' : List Nt), i = .int .i64 kk ∧ j = .int .i64 jj ∧ jj ≤ n ∧ kk < jj ∧ l'.length = n ∧ l'.take kk = (l.take jj).filter (fun g => !p g) ∧ (∀ t, jj ≤ t → l'[t]? = l[t]?) ∧
    wr.ownsRow B 3 1 (.slice (some ⟨g, 0, none⟩) n c) n (rc Nt.cells l') ∧ Below B w wr


end Go.Proofs.Ytbjfdphhopembaa
