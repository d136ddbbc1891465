/-
  table.Rising and Put at rows of Gr. Written by program (gen_table.py).
-/
import Derived.Test.YtpnaihnmmnjacaaGrU
import Derived.Deep.RegionHeld3
import Derived.Deep.DeepCutAuto
namespace Go.Proofs.Ytpnaihnmmnjacaa
open Go.ChangeShapes Go.WideShapes Go.ChangeAt Go.RowKit
set_option linter.unusedVariables false
set_option linter.unusedSimpArgs false

/-- a function that tells of two elements -/
def Gr.Tells2 (F : Nat) (caps : Array Value) (ah : Gr → Gr → Bool) (B : Nat) (w : World) : Prop :=
  ∀ (a b : Gr) (W : World), Below B w W → Calls Try.prog F (#[a.val, b.val] ++ caps) W fun e w' => e = .returned (.bool (ah a b)) ∧ Below W.heap.size W w'
theorem Gr.Tells2.below {F : Nat} {caps : Array Value} {ah : Gr → Gr → Bool} {B : Nat} {w w1 : World} (h : Gr.Tells2 F caps ah B w) (hb : Below B w w1) {C : Nat} (hC : B ≤ C) : Gr.Tells2 F caps ah C w1 :=
  fun a b W hW => h a b W (hb.trans (hW.mono hC))
/-- a box -/
structure Gr.Bx (w : World) (b : Nat) (g : Gr) : Prop where
  lt : b < w.heap.size
  at_ : g.at w b 0
  hp : w.heap[b]? = some (.cells g.cells.toArray 102 (0, 0))
theorem Gr.Bx.new (w : World) (g : Gr) : Gr.Bx (w.alloc (.cells g.cells.toArray 102)) w.heap.size g := by
  have h := heap_alloc_new w (.cells g.cells.toArray 102 (0, 0))
  refine ⟨by simp, Gr.at_of fun j u hu => ?_, h⟩
  rw [Nat.zero_add, cell_of_row _ _ j g.cells.toArray 102 (0, 0) h]
  simpa using hu
theorem Gr.Bx.below {w w' : World} {b : Nat} {g : Gr} (h : Gr.Bx w b g) (hb : Below w.heap.size w w') : Gr.Bx w' b g :=
  ⟨Nat.lt_of_lt_of_le h.lt hb.size, Gr.at_keep h.at_ fun i => hb.cell (p := ⟨b, i, none⟩) h.lt, (hb.block b h.lt).trans h.hp⟩
theorem Gr.Bx.sl {w : World} {b : Nat} {g : Gr} (h : Gr.Bx w b g) : Sl w (some ⟨b, 0, none⟩) g.cells := by
  intro _
  refine ⟨b, 0, rfl, fun j u hu => ?_⟩
  rw [Nat.zero_add, cell_of_row _ _ j g.cells.toArray 102 (0, 0) h.hp]
  simpa using hu
theorem Gr.Bx.got {w : World} {b : Nat} {g : Gr} (h : Gr.Bx w b g) : w.cell? ⟨b, 0, none⟩ = some (.int .i64 g.id) ∧ w.cell? ⟨b, 1, none⟩ = some (.int .i64 g.ac) ∧ w.cell? ⟨b, 2, none⟩ = some (.int .i64 g.cl) ∧ w.cell? ⟨b, 3, none⟩ = some (.int .i64 g.ins) ∧ w.cell? ⟨b, 4, none⟩ = some (.int .i64 g.pr) ∧ w.cell? ⟨b, 5, none⟩ = some (.int .i64 g.left) := by
  have := h.at_
  unfold Gr.at at this
  simpa only [Nat.zero_add] using this



end Go.Proofs.Ytpnaihnmmnjacaa
