/-
  The walks of layer 1, second part: Add, Sub, Neg, size.
-/
import Derived.Test.YtckgifhidomhaaaDoorWide
import Derived.Deep.RegionWith
namespace Go.Proofs.YtckgifhidomhaaaDoor
open Go.ChangeShapes Go.WideShapes Go.ChangeAt Go.RowKit
set_option linter.unusedVariables false
set_option linter.unusedSimpArgs false

/-- wide numbers as cells -/
def wcells (l : List Int) : List Value := (l.map fun x => [Value.int .i64 (hiN x), Value.int .u64 (loN x)]).flatten
theorem wcells_length (l : List Int) : (wcells l).length = l.length * 2 := by
  induction l with
  | nil => rfl
  | cons a l ih => simp [wcells] at *; omega
theorem wcells_hi (l : List Int) (k : Nat) (h : k < l.length) : (wcells l)[k * 2]? = some (.int .i64 (hiN l[k])) ∧ (wcells l)[k * 2 + 1]? = some (.int .u64 (loN l[k])) := by
  induction l generalizing k with
  | nil => simp at h
  | cons a l ih =>
    cases k with
    | zero => simp [wcells]
    | succ k =>
      have := ih k (by simpa using h)
      simp only [wcells, List.map_cons, List.flatten_cons] at this ⊢
      rw [show (k + 1) * 2 = k * 2 + 1 + 1 from by omega, show k * 2 + 1 + 1 + 1 = (k * 2 + 1) + 1 + 1 from rfl]
      simpa using this

/-- a block that holds the three parts of a number -/
def T3 (w : World) (g : Nat) (x : Int) : Prop :=
  g < w.heap.size ∧ w.cell? ⟨g, 0, none⟩ = some (.int .i64 (hiN x)) ∧ w.cell? ⟨g, 1, none⟩ = some (.int .u64 (loN x)) ∧ w.cell? ⟨g, 2, none⟩ = some (.int .i64 (topN x)) ∧
  w.frozen? ⟨g, 0, none⟩ = false ∧ w.frozen? ⟨g, 1, none⟩ = false ∧ w.frozen? ⟨g, 2, none⟩ = false
/-- a block that holds the two parts of a number -/
def T2 (w : World) (g : Nat) (a b : Int) : Prop :=
  g < w.heap.size ∧ w.cell? ⟨g, 0, none⟩ = some (.int .i64 a) ∧ w.cell? ⟨g, 1, none⟩ = some (.int .u64 b) ∧ w.frozen? ⟨g, 0, none⟩ = false ∧ w.frozen? ⟨g, 1, none⟩ = false
section
variable {w w' : World} {g : Nat} {x a b : Int}
theorem T3.below (h : T3 w g x) (hb : Below w.heap.size w w') : T3 w' g x := by
  obtain ⟨h0, h1, h2, h3, f1, f2, f3⟩ := h
  exact ⟨Nat.lt_of_lt_of_le h0 hb.size, (hb.cell (p := ⟨g, 0, none⟩) h0).trans h1, (hb.cell (p := ⟨g, 1, none⟩) h0).trans h2, (hb.cell (p := ⟨g, 2, none⟩) h0).trans h3,
    (hb.frozen (p := ⟨g, 0, none⟩) h0).trans f1, (hb.frozen (p := ⟨g, 1, none⟩) h0).trans f2, (hb.frozen (p := ⟨g, 2, none⟩) h0).trans f3⟩
theorem T2.below (h : T2 w g a b) (hb : Below w.heap.size w w') : T2 w' g a b := by
  obtain ⟨h0, h1, h2, f1, f2⟩ := h
  exact ⟨Nat.lt_of_lt_of_le h0 hb.size, (hb.cell (p := ⟨g, 0, none⟩) h0).trans h1, (hb.cell (p := ⟨g, 1, none⟩) h0).trans h2, (hb.frozen (p := ⟨g, 0, none⟩) h0).trans f1, (hb.frozen (p := ⟨g, 1, none⟩) h0).trans f2⟩
theorem T3.set3 (h : T3 w g x) (y : Int) : T3 (((w.setCell ⟨g, 0, none⟩ (.int .i64 (hiN y))).setCell ⟨g, 1, none⟩ (.int .u64 (loN y))).setCell ⟨g, 2, none⟩ (.int .i64 (topN y))) g y := by
  obtain ⟨h0, h1, h2, h3, f1, f2, f3⟩ := h
  refine ⟨by simpa using h0, ?_, ?_, ?_, by simpa using f1, by simpa using f2, by simpa using f3⟩ <;> simp [cell_set, h1, h2, h3]
theorem T2.far (h : T2 w g a b) {p : Addr} (hp : p.block ≠ g) (v : Value) : T2 (w.setCell p v) g a b := by
  obtain ⟨h0, h1, h2, f1, f2⟩ := h
  have k : ∀ o, (w.setCell p v).cell? ⟨g, o, none⟩ = w.cell? ⟨g, o, none⟩ := fun o => World.cell?_setCell_other w _ _ _ (by rintro rfl; exact hp rfl)
  exact ⟨by simpa using h0, (k 0).trans h1, (k 1).trans h2, by simpa using f1, by simpa using f2⟩
theorem T2.new (w : World) (a b : Int) (t : TypeId) : T2 (w.alloc (.cells #[.int .i64 a, .int .u64 b] t)) w.heap.size a b := by
  refine ⟨by simp, ?_, ?_, ?_, ?_⟩ <;> simp
theorem T2.alloc (h : T2 w g a b) (o : Obj) : T2 (w.alloc o) g a b := h.below ((Below.refl _ _).alloc (Nat.le_refl _) o)
theorem T3.alloc (h : T3 w g x) (o : Obj) : T3 (w.alloc o) g x := h.below ((Below.refl _ _).alloc (Nat.le_refl _) o)
theorem T3.new (w : World) (x : Int) (t : TypeId) : T3 (w.alloc (.cells #[.int .i64 (hiN x), .int .u64 (loN x), .int .i64 (topN x)] t)) w.heap.size x := by
  refine ⟨by simp, ?_, ?_, ?_, ?_, ?_, ?_⟩ <;> simp
theorem T3.drew (h : T3 w g x) : T3 w.drew g x := h
theorem T2.drew (h : T2 w g a b) : T2 w.drew g a b := h
end
theorem zero_parts : hiN 0 = 0 ∧ loN 0 = 0 ∧ topN 0 = 0 := by decide

/-- a wide number and no error, or none and ErrRange -/
def wideE (x : Int) : Value := if In128 x then .tuple #[.agg #[.int .i64 (hiN x), .int .u64 (loN x)], .int .i64 0] else .tuple #[.agg #[.int .i64 0, .int .u64 0], .int .i64 7]
theorem wideE_yes {x : Int} (h : In128 x) : wideE x = .tuple #[.agg #[.int .i64 (hiN x), .int .u64 (loN x)], .int .i64 0] := if_pos h
theorem wideE_no {x : Int} (h : ¬ In128 x) : wideE x = .tuple #[.agg #[.int .i64 0, .int .u64 0], .int .i64 7] := if_neg h

end Go.Proofs.YtckgifhidomhaaaDoor
