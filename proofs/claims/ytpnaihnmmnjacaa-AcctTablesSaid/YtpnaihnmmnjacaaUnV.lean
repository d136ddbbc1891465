/-
  table.Rising and Put at rows of Un. Written by program (gen_table.py).
-/
import Derived.Test.YtpnaihnmmnjacaaUnU
import Derived.Deep.RegionHeld3
import Derived.Deep.DeepCutAuto
namespace Go.Proofs.Ytpnaihnmmnjacaa
open Go.ChangeShapes Go.WideShapes Go.ChangeAt Go.RowKit
set_option linter.unusedVariables false
set_option linter.unusedSimpArgs false

/-- a function that tells of two elements -/
def Un.Tells2 (F : Nat) (caps : Array Value) (ah : Un → Un → Bool) (B : Nat) (w : World) : Prop :=
  ∀ (a b : Un) (W : World), Below B w W → Calls Try.prog F (#[a.val, b.val] ++ caps) W fun e w' => e = .returned (.bool (ah a b)) ∧ Below W.heap.size W w'
theorem Un.Tells2.below {F : Nat} {caps : Array Value} {ah : Un → Un → Bool} {B : Nat} {w w1 : World} (h : Un.Tells2 F caps ah B w) (hb : Below B w w1) {C : Nat} (hC : B ≤ C) : Un.Tells2 F caps ah C w1 :=
  fun a b W hW => h a b W (hb.trans (hW.mono hC))
/-- a box -/
structure Un.Bx (w : World) (b : Nat) (g : Un) : Prop where
  lt : b < w.heap.size
  at_ : g.at w b 0
  hp : w.heap[b]? = some (.cells g.cells.toArray 26 (0, 0))
theorem Un.Bx.new (w : World) (g : Un) : Un.Bx (w.alloc (.cells g.cells.toArray 26)) w.heap.size g := by
  have h := heap_alloc_new w (.cells g.cells.toArray 26 (0, 0))
  refine ⟨by simp, Un.at_of fun j u hu => ?_, h⟩
  rw [Nat.zero_add, cell_of_row _ _ j g.cells.toArray 26 (0, 0) h]
  simpa using hu
theorem Un.Bx.below {w w' : World} {b : Nat} {g : Un} (h : Un.Bx w b g) (hb : Below w.heap.size w w') : Un.Bx w' b g :=
  ⟨Nat.lt_of_lt_of_le h.lt hb.size, Un.at_keep h.at_ fun i => hb.cell (p := ⟨b, i, none⟩) h.lt, (hb.block b h.lt).trans h.hp⟩
theorem Un.Bx.sl {w : World} {b : Nat} {g : Un} (h : Un.Bx w b g) : Sl w (some ⟨b, 0, none⟩) g.cells := by
  intro _
  refine ⟨b, 0, rfl, fun j u hu => ?_⟩
  rw [Nat.zero_add, cell_of_row _ _ j g.cells.toArray 26 (0, 0) h.hp]
  simpa using hu
theorem Un.Bx.got {w : World} {b : Nat} {g : Un} (h : Un.Bx w b g) : w.cell? ⟨b, 0, none⟩ = some (.int .i64 g.ac) ∧ w.cell? ⟨b, 1, none⟩ = some (.int .i64 g.cl) := by
  have := h.at_
  unfold Un.at at this
  simpa only [Nat.zero_add] using this



end Go.Proofs.Ytpnaihnmmnjacaa
