import Derived.Deep.DeepCutAuto
import Derived.Deep.RegionHeld3
import Derived.Test.YtlbccpiadmcpjaaNd02
section
namespace Go.Proofs.Ytlbccpiadmcpjaa
open Go.ChangeShapes Go.WideShapes Go.ChangeAt Go.RowKit
set_option linter.unusedVariables false
set_option linter.unusedSimpArgs false

def Ac.Tells2 (F : Nat) (caps : Array Value) (ah : Ac → Ac → Bool) (B : Nat) (w : World) : Prop :=
  ∀ (a b : Ac) (W : World), Below B w W → Calls Try.prog F (#[a.val, b.val] ++ caps) W fun e w' => e = .returned (.bool (ah a b)) ∧ Below W.heap.size W w'
theorem Ac.Tells2.below {F : Nat} {caps : Array Value} {ah : Ac → Ac → Bool} {B : Nat} {w w1 : World} (h : Ac.Tells2 F caps ah B w) (hb : Below B w w1) {C : Nat} (hC : B ≤ C) : Ac.Tells2 F caps ah C w1 :=
  fun a b W hW => h a b W (hb.trans (hW.mono hC))
structure Ac.Bx (w : World) (b : Nat) (g : Ac) : Prop where
  lt : b < w.heap.size
  at_ : g.at w b 0
  hp : w.heap[b]? = some (.cells g.cells.toArray 24 (0, 0))
theorem Ac.Bx.new (w : World) (g : Ac) : Ac.Bx (w.alloc (.cells g.cells.toArray 24)) w.heap.size g := by
  have h := heap_alloc_new w (.cells g.cells.toArray 24 (0, 0))
  refine ⟨by simp, Ac.at_of fun j u hu => ?_, h⟩
  rw [Nat.zero_add, cell_of_row _ _ j g.cells.toArray 24 (0, 0) h]
  simpa using hu
theorem Ac.Bx.below {w w' : World} {b : Nat} {g : Ac} (h : Ac.Bx w b g) (hb : Below w.heap.size w w') : Ac.Bx w' b g :=
  ⟨Nat.lt_of_lt_of_le h.lt hb.size, Ac.at_keep h.at_ fun i => hb.cell (p := ⟨b, i, none⟩) h.lt, (hb.block b h.lt).trans h.hp⟩
theorem Ac.Bx.sl {w : World} {b : Nat} {g : Ac} (h : Ac.Bx w b g) : Sl w (some ⟨b, 0, none⟩) g.cells := by
  intro _
  refine ⟨b, 0, rfl, fun j u hu => ?_⟩
  rw [Nat.zero_add, cell_of_row _ _ j g.cells.toArray 24 (0, 0) h.hp]
  simpa using hu
theorem Ac.Bx.got {w : World} {b : Nat} {g : Ac} (h : Ac.Bx w b g) : w.cell? ⟨b, 0, none⟩ = some (.int .i64 g.id) ∧ w.cell? ⟨b, 1, none⟩ = some (.int .i64 g.mem) ∧ w.cell? ⟨b, 2, none⟩ = some (.int .i64 g.kind) ∧ w.cell? ⟨b, 3, none⟩ = some (.slice g.cl g.clL g.clC) := by
  have := h.at_
  unfold Ac.at at this
  simpa only [Nat.zero_add] using this
end Go.Proofs.Ytlbccpiadmcpjaa
end
section
namespace Go.Proofs.Ytlbccpiadmcpjaa
open Go.ChangeShapes Go.WideShapes Go.ChangeAt Go.RowKit
set_option linter.unusedVariables false
set_option linter.unusedSimpArgs false

def okC (id mem kind : Int) (L : List Nt) : Prop :=
  1 ≤ id ∧ id ≤ 16 ∧ 1 ≤ mem ∧ mem ≤ 8 ∧ 1 ≤ kind ∧ kind ≤ 4 ∧ (kind = 1 → L.length = 0) ∧ (kind = 4 → L.length ≤ 1) ∧ (∀ j, (h : j < L.length) → isCl L[j].n = true) ∧ risingL ahN L = true
end Go.Proofs.Ytlbccpiadmcpjaa
end
