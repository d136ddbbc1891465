/-
  The walks of layer 23, first part: rows of give-ups in memory; place, Clone, Set.
-/
import Derived.Test.YtaaknohoaijfhaaShape
import Derived.Deep.RegionLawGrows
namespace Go.Proofs.Ytaaknohoaijfhaa
open Go.ChangeShapes Go.WideShapes Go.ChangeAt Go.RowKit
set_option linter.unusedVariables false
set_option linter.unusedSimpArgs false

structure Gv where
  (id fa fc ta tc inst qty price grp day st : Int)
deriving DecidableEq

def Gv.cells (g : Gv) : List Value := [.int .i64 g.id, .int .i64 g.fa, .int .i64 g.fc, .int .i64 g.ta, .int .i64 g.tc, .int .i64 g.inst, .int .i64 g.qty, .int .i64 g.price, .int .i64 g.grp, .int .i64 g.day, .int .i64 g.st]
def Gv.val (g : Gv) : Value := .agg #[.int .i64 g.id, .int .i64 g.fa, .int .i64 g.fc, .int .i64 g.ta, .int .i64 g.tc, .int .i64 g.inst, .int .i64 g.qty, .int .i64 g.price, .int .i64 g.grp, .int .i64 g.day, .int .i64 g.st]
def gcells (l : List Gv) : List Value := (l.map Gv.cells).flatten
theorem gcells_length (l : List Gv) : (gcells l).length = l.length * 11 := by
  induction l with
  | nil => rfl
  | cons a l ih => simp [gcells, Gv.cells] at *; omega
theorem gcells_one (l : List Gv) : ∀ u ∈ gcells l, u.oneCell' = true := by
  intro u hu
  simp only [gcells, List.mem_flatten, List.mem_map] at hu
  obtain ⟨_, ⟨g, _, rfl⟩, hu⟩ := hu
  simp only [Gv.cells, List.mem_cons, List.not_mem_nil, or_false] at hu
  rcases hu with h | h | h | h | h | h | h | h | h | h | h <;> subst h <;> rfl
theorem gcells_append (a b : List Gv) : gcells (a ++ b) = gcells a ++ gcells b := by simp [gcells]
theorem gcells_at (l : List Gv) (k : Nat) (h : k < l.length) (j : Nat) (hj : j < 11) : (gcells l)[k * 11 + j]? = l[k].cells[j]? := by
  induction l generalizing k with
  | nil => simp at h
  | cons a l ih =>
    have hc : a.cells.length = 11 := rfl
    simp only [gcells, List.map_cons, List.flatten_cons] at ih ⊢
    cases k with
    | zero => rw [List.getElem?_append_left (by omega)]; simp
    | succ k =>
      have := ih k (by simpa using h)
      rw [List.getElem?_append_right (by omega), show (k + 1) * 11 + j - a.cells.length = k * 11 + j from by omega, this]
      simp

/-- the eleven cells of a give-up that lies somewhere -/
def GAt (w : World) (b o : Nat) (g : Gv) : Prop :=
  w.cell? ⟨b, o, none⟩ = some (.int .i64 g.id) ∧ w.cell? ⟨b, o + 1, none⟩ = some (.int .i64 g.fa) ∧ w.cell? ⟨b, o + 2, none⟩ = some (.int .i64 g.fc) ∧ w.cell? ⟨b, o + 3, none⟩ = some (.int .i64 g.ta) ∧
  w.cell? ⟨b, o + 4, none⟩ = some (.int .i64 g.tc) ∧ w.cell? ⟨b, o + 5, none⟩ = some (.int .i64 g.inst) ∧ w.cell? ⟨b, o + 6, none⟩ = some (.int .i64 g.qty) ∧ w.cell? ⟨b, o + 7, none⟩ = some (.int .i64 g.price) ∧
  w.cell? ⟨b, o + 8, none⟩ = some (.int .i64 g.grp) ∧ w.cell? ⟨b, o + 9, none⟩ = some (.int .i64 g.day) ∧ w.cell? ⟨b, o + 10, none⟩ = some (.int .i64 g.st)
theorem GAt.of {w : World} {b o : Nat} {g : Gv} (h : ∀ j u, g.cells[j]? = some u → w.cell? ⟨b, o + j, none⟩ = some u) : GAt w b o g :=
  ⟨h 0 _ rfl, h 1 _ rfl, h 2 _ rfl, h 3 _ rfl, h 4 _ rfl, h 5 _ rfl, h 6 _ rfl, h 7 _ rfl, h 8 _ rfl, h 9 _ rfl, h 10 _ rfl⟩
theorem GAt.keep {w w' : World} {b o : Nat} {g : Gv} (h : GAt w b o g) (k : ∀ i, w'.cell? ⟨b, i, none⟩ = w.cell? ⟨b, i, none⟩) : GAt w' b o g := by
  unfold GAt at *
  simp only [k]
  exact h
theorem Sl.give {w : World} {A : Option Addr} {l : List Gv} (h : Sl w A (gcells l)) {k : Nat} (hk : k < l.length) : ∃ b o, A = some ⟨b, o, none⟩ ∧ b < w.heap.size ∧ GAt w b (o + k * 11) l[k] := by
  have hne : gcells l ≠ [] := by intro e; have := gcells_length l; rw [e] at this; simp at this; omega
  obtain ⟨b, o, rfl, hc⟩ := h hne
  have hg : GAt w b (o + k * 11) l[k] := by
    refine GAt.of fun j u hu => ?_
    have hj : j < 11 := by
      have := (List.getElem?_eq_some_iff.1 hu).1
      simpa [Gv.cells] using this
    rw [Nat.add_assoc]
    exact hc _ _ ((gcells_at l k hk j hj).trans hu)
  exact ⟨b, o, rfl, World.block_lt_of_cell? _ _ hg.1, hg⟩

set_option maxHeartbeats 1000000 in
theorem is_any (g : Gv) (c : Nat) (id : Int) (w : World) (hc : w.cell? ⟨c, 0, none⟩ = some (.int .i64 id)) :
    Calls Try.prog 54 #[g.val, .pointer (some ⟨c, 0, none⟩)] w fun e w' => e = .returned (.bool (g.id == id)) ∧ Below w.heap.size w w' := by
  have hlt := World.block_lt_of_cell? _ _ hc
  unfold Gv.val
  go_enter Try.func54, Try.ntmps54
  go_wp2

  go_ret
  refine ⟨rfl, ?_⟩
  repeat' (first | with_reducible exact Below.refl _ _ | with_reducible refine Below.setCell ?_ ?_ _ | with_reducible refine Below.alloc ?_ ?_ _)
  all_goals first | (simp; done) | (simp; omega)
end Go.Proofs.Ytaaknohoaijfhaa
