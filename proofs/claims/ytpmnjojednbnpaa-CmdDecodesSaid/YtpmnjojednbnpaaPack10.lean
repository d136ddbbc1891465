/-
  Layer 4, tenth part: PackNobody (laid by gen_pack10.py).
-/
import Derived.Test.YtpmnjojednbnpaaPack9
import Derived.Lib.Builder
namespace Go.Proofs.Ytpmnjojednbnpaa
open Go.ChangeShapes Go.WideShapes Go.ChangeAt Go.RowKit
set_option linter.unusedVariables false
set_option linter.unusedSimpArgs false

theorem rc_int (l : List Int) : rc (fun n : Int => [Value.int .i64 n]) l = ints .i64 l := by
  unfold rc ints
  induction l with
  | nil => rfl
  | cons a l ih => simp only [List.map_cons, List.flatten_cons, ih]; rfl
theorem rd_int {w : World} {r : List Value} (h : Go.Proofs.Ytpmnjojednbnpaa.Rd w (.int .i64) r) : ∃ n : Int, r = [.int .i64 n] ∧ In64p n := by
  obtain ⟨n, rfl, hn⟩ := h
  exact ⟨n, rfl, by have := bd_i64 hn; unfold In64p; omega⟩

end Go.Proofs.Ytpmnjojednbnpaa
