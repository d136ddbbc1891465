/-
  Layer 22, fourth part: the document's Average (laid by gen_block4.py).
-/
import Derived.Test.YtfagpdnckmaomaaBlock3
import Derived.Test.YtfagpdnckmaomaaBox
import Derived.Deep.RegionHeld3
namespace Go.Proofs.Ytfagpdnckmaomaa
open Go.ChangeShapes Go.WideShapes Go.ChangeAt Go.RowKit
set_option linter.unusedVariables false
set_option linter.unusedSimpArgs false

theorem Fi.Bx.far {w : World} {b : Nat} {g : Fi} (h : Fi.Bx w b g) {p : Addr} (hp : p.block ≠ b) (v : Value) : Fi.Bx (w.setCell p v) b g :=
  ⟨by simpa using h.lt, Fi.at_keep h.at_ fun i => World.cell?_setCell_other w _ _ _ (by rintro rfl; exact hp rfl)⟩
theorem okE_of {q0 : Int} {f : Fi} (h : okF f = true) (hq : q0 ≠ 0) : okE q0 f = (decide (f.qty < 0) == decide (q0 < 0)) := by
  have h5 := okF_bd h
  unfold okE
  rw [h, Bool.true_and]
  by_cases h1 : 0 < f.qty <;> by_cases h2 : 0 < q0
  · simp [h1, h2]; omega
  · simp [h1, h2]; omega
  · simp [h1, h2]; omega
  · simp [h1, h2]; omega
theorem Bx.keep2 {w0 w w' : World} {b : Nat} {g : Fi} (h : Below w0.heap.size w0 w ∧ Fi.Bx w b g) (hb : Below w.heap.size w w') : Below w0.heap.size w0 w' ∧ Fi.Bx w' b g := ⟨since_step h.1 hb, h.2.below hb⟩

def RelV (w : World) (l : List Fi) (i : Value) (wr : World) : Prop :=
  ∃ (k : Nat) (s6 : Bool) (A6 : Option Addr) (n6 c6 : Nat) (s7 : Bool) (A7 : Option Addr) (n7 c7 : Nat), k ≤ l.length ∧ i = .int .i64 k ∧ (∀ j, (hj : j < l.length) → j < k → okF l[j] = true) ∧
    BX (w.heap.size + 2) wr w.heap.size s6 A6 n6 c6 (qtyL (l.take k)) ∧ BX (w.heap.size + 2) wr (w.heap.size + 1) s7 A7 n7 c7 (costL (l.take k)) ∧ Below w.heap.size w wr

end Go.Proofs.Ytfagpdnckmaomaa
