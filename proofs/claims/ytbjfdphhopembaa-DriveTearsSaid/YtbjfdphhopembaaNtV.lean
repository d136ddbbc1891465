/-
  table.Rising and Put at rows of Nt. Written by program (gen_table.py).
-/
import Derived.Test.YtbjfdphhopembaaNtU
import Derived.Deep.RegionHeld3
import Derived.Deep.DeepCutAuto
namespace Go.Proofs.Ytbjfdphhopembaa
open Go.ChangeShapes Go.WideShapes Go.ChangeAt Go.RowKit
set_option linter.unusedVariables false
set_option linter.unusedSimpArgs false

/-- a function that tells of two elements -/
def Nt.Tells2 (F : Nat) (caps : Array Value) (ah : Nt → Nt → Bool) (B : Nat) (w : World) : Prop :=
  ∀ (a b : Nt) (W : World), Below B w W → Calls Try.prog F (#[a.val, b.val] ++ caps) W fun e w' => e = .returned (.bool (ah a b)) ∧ Below W.heap.size W w'
theorem Nt.Tells2.below {F : Nat} {caps : Array Value} {ah : Nt → Nt → Bool} {B : Nat} {w w1 : World} (h : Nt.Tells2 F caps ah B w) (hb : Below B w w1) {C : Nat} (hC : B ≤ C) : Nt.Tells2 F caps ah C w1 :=
  fun a b W hW => h a b W (hb.trans (hW.mono hC))
/-- a box -/
structure Nt.Bx (w : World) (b : Nat) (g : Nt) : Prop where
  lt : b < w.heap.size
  at_ : g.at w b 0
  hp : w.heap[b]? = some (.cells g.cells.toArray 3 (0, 0))
theorem Nt.Bx.new (w : World) (g : Nt) : Nt.Bx (w.alloc (.cells g.cells.toArray 3)) w.heap.size g := by
  have h := heap_alloc_new w (.cells g.cells.toArray 3 (0, 0))
  refine ⟨by simp, Nt.at_of fun j u hu => ?_, h⟩
  rw [Nat.zero_add, cell_of_row _ _ j g.cells.toArray 3 (0, 0) h]
  simpa using hu
theorem Nt.Bx.below {w w' : World} {b : Nat} {g : Nt} (h : Nt.Bx w b g) (hb : Below w.heap.size w w') : Nt.Bx w' b g :=
  ⟨Nat.lt_of_lt_of_le h.lt hb.size, Nt.at_keep h.at_ fun i => hb.cell (p := ⟨b, i, none⟩) h.lt, (hb.block b h.lt).trans h.hp⟩
theorem Nt.Bx.sl {w : World} {b : Nat} {g : Nt} (h : Nt.Bx w b g) : Sl w (some ⟨b, 0, none⟩) g.cells := by
  intro _
  refine ⟨b, 0, rfl, fun j u hu => ?_⟩
  rw [Nat.zero_add, cell_of_row _ _ j g.cells.toArray 3 (0, 0) h.hp]
  simpa using hu
theorem Nt.Bx.got {w : World} {b : Nat} {g : Nt} (h : Nt.Bx w b g) : w.cell? ⟨b, 0, none⟩ = some (.int .i64 g.n) ∧ True := by
  have := h.at_
  unfold Nt.at at this
  simpa only [Nat.zero_add] using this



end Go.Proofs.Ytbjfdphhopembaa
