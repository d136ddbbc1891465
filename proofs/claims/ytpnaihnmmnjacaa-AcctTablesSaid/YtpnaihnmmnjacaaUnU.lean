/-
  slices.DeleteFunc, table.Drop, Find, Rising, Put at rows of Un. Written by program (gen_table.py).
-/
import Derived.Test.YtpnaihnmmnjacaaUnT
namespace Go.Proofs.Ytpnaihnmmnjacaa
open Go.ChangeShapes Go.WideShapes Go.ChangeAt Go.RowKit
set_option linter.unusedVariables false
set_option linter.unusedSimpArgs false

def Un.Df (p : Un → Bool) (l : List Un) (n c g B : Nat) (w : World) (i j : Value) (wr : World) : Prop :=
  ∃ (kk jj : Nat) (l' : List Un), i = .int .i64 kk ∧ j = .int .i64 jj ∧ jj ≤ n ∧ kk < jj ∧ l'.length = n ∧ l'.take kk = (l.take jj).filter (fun g => !p g) ∧ (∀ t, jj ≤ t → l'[t]? = l[t]?) ∧
    wr.ownsRow B 26 2 (.slice (some ⟨g, 0, none⟩) n c) n (rc Un.cells l') ∧ Below B w wr


end Go.Proofs.Ytpnaihnmmnjacaa
