/-
  The walks of layer 2, fifth part: Product; the document's Sum and Product.
-/
import Derived.Test.YtjhdccnkfnaapaaFix3
import Derived.Test.YtjhdccnkfnaapaaBig5
namespace Go.Proofs.Ytjhdccnkfnaapaa
open Go.ChangeShapes Go.WideShapes Go.ChangeAt Go.RowKit
set_option linter.unusedVariables false
set_option linter.unusedSimpArgs false

/-- a product, all that comes between of 64 bits; else none -/
def prodStep (o : Option Int) (n : Int) : Option Int := match o with | some p => if In64 (p * n) then some (p * n) else none | none => none
def prods (l : List Int) : Option Int := l.foldl prodStep (some 1)
theorem prods_take (l : List Int) (k : Nat) (h : k < l.length) : prods (l.take (k + 1)) = prodStep (prods (l.take k)) l[k] := by
  unfold prods; rw [take_snoc l k h, List.foldl_append]; rfl
theorem prods_none {l : List Int} {k : Nat} (h : prods (l.take k) = none) : prods l = none := by
  have key : ∀ m : List Int, m.foldl prodStep none = none := by
    intro m
    induction m with
    | nil => rfl
    | cons a m ih => simpa [prodStep] using ih
  have : prods l = (l.drop k).foldl prodStep (prods (l.take k)) := by
    unfold prods
    rw [← List.foldl_append, List.take_append_drop]
  rw [this, h, key]
def pV (l : List Int) : Int := (prods l).getD 0
def pE (l : List Int) : Int := if (prods l).isSome = true then 0 else 7
theorem pV_some {l : List Int} {p : Int} (h : prods l = some p) : pV l = p ∧ pE l = 0 := by unfold pV pE; rw [h]; exact ⟨rfl, rfl⟩
theorem pV_none {l : List Int} (h : prods l = none) : pV l = 0 ∧ pE l = 7 := by unfold pV pE; rw [h]; exact ⟨rfl, rfl⟩

end Go.Proofs.Ytjhdccnkfnaapaa
