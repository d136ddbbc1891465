/-
  Layer 22, first part: fills: within, check (laid by gen_block.py).
-/
import Derived.Test.YtfagpdnckmaomaaFiT
import Derived.Test.YtfagpdnckmaomaaRowM
import Derived.BigQuiet
namespace Go.Proofs.Ytfagpdnckmaomaa
open Go.ChangeShapes Go.WideShapes Go.ChangeAt Go.RowKit
set_option linter.unusedVariables false
set_option linter.unusedSimpArgs false

/-- a box of a fill -/
structure Fi.Bx (w : World) (b : Nat) (g : Fi) : Prop where
  lt : b < w.heap.size
  at_ : g.at w b 0
theorem Fi.Bx.below {w w' : World} {b : Nat} {g : Fi} (h : Fi.Bx w b g) (hb : Below w.heap.size w w') : Fi.Bx w' b g :=
  ⟨Nat.lt_of_lt_of_le h.lt hb.size, Fi.at_keep h.at_ fun i => hb.cell (p := ⟨b, i, none⟩) h.lt⟩
theorem Fi.Bx.got {w : World} {b : Nat} {g : Fi} (h : Fi.Bx w b g) : w.cell? ⟨b, 0, none⟩ = some (.int .i64 g.qty) ∧ w.cell? ⟨b, 1, none⟩ = some (.int .i64 g.pr) := by
  have := h.at_
  unfold Fi.at at this
  simpa only [Nat.zero_add] using this

def inQ (q : Int) : Bool := decide (-1099511627776 ≤ q) && decide (q ≤ 1099511627776)
def okF (f : Fi) : Bool := decide (0 ≤ f.pr) && decide (f.pr ≤ 2147483647) && !(f.qty == 0) && inQ f.qty
def okE (q0 : Int) (f : Fi) : Bool := okF f && (decide (0 < f.qty) == decide (0 < q0))
def okFs (l : List Fi) : Bool := decide (1 ≤ l.length) && decide (l.length ≤ 16) && l.all (okE (l.headD Fi.zero).qty)
theorem okFs_false {l : List Fi} {k : Nat} (h : k < l.length) (hb : okE (l.headD Fi.zero).qty l[k] = false) : okFs l = false := by
  unfold okFs
  have : l.all (okE (l.headD Fi.zero).qty) = false := by
    rw [← Bool.not_eq_true, List.all_eq_true]
    intro ha
    rw [ha _ (List.getElem_mem h)] at hb
    cases hb
  rw [this, Bool.and_false]
theorem okFs_true {l : List Fi} (h1 : 1 ≤ l.length) (h2 : l.length ≤ 16) (h : ∀ j, (hj : j < l.length) → okE (l.headD Fi.zero).qty l[j] = true) : okFs l = true := by
  unfold okFs
  have : l.all (okE (l.headD Fi.zero).qty) = true := by
    rw [List.all_eq_true]
    intro x hx
    obtain ⟨j, hj, rfl⟩ := List.getElem_of_mem hx
    exact h j hj
  rw [this]
  simp [h1, h2]


end Go.Proofs.Ytfagpdnckmaomaa
