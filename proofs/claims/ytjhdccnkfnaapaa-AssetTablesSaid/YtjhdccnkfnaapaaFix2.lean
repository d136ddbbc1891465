/-
  The walks of layer 2, second part: Abs, Most, Least, Clip; the document's Most, Least; Is; few.
-/
import Derived.Test.YtjhdccnkfnaapaaFix
import Derived.Test.YtjhdccnkfnaapaaBig4
namespace Go.Proofs.Ytjhdccnkfnaapaa
open Go.ChangeShapes Go.WideShapes Go.ChangeAt Go.RowKit
set_option linter.unusedVariables false
set_option linter.unusedSimpArgs false

def mxL (a : Int) (l : List Int) : Int := l.foldl (fun x y => if x < y then y else x) a
def mnL (a : Int) (l : List Int) : Int := l.foldl (fun x y => if y < x then y else x) a
theorem mxL_take (a : Int) (l : List Int) (k : Nat) (h : k < l.length) : mxL a (l.take (k + 1)) = if mxL a (l.take k) < l[k] then l[k] else mxL a (l.take k) := by
  unfold mxL; rw [take_snoc l k h, List.foldl_append]; rfl
theorem mnL_take (a : Int) (l : List Int) (k : Nat) (h : k < l.length) : mnL a (l.take (k + 1)) = if l[k] < mnL a (l.take k) then l[k] else mnL a (l.take k) := by
  unfold mnL; rw [take_snoc l k h, List.foldl_append]; rfl




/-- the next one between two -/
def clipI (a lo hi : Int) : Int := mxL lo [mnL a [hi]]

theorem in64_iff (z : Int) : inN z 63 ↔ In64 z := by rw [inN_63]; exact Iff.rfl
theorem fV_in (z : Int) : In64 (fV z) := by unfold fV; split <;> first | assumption | decide

end Go.Proofs.Ytjhdccnkfnaapaa
