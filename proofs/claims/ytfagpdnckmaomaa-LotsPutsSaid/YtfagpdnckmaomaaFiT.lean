/-
  Rows of Fi in memory, and the library's and the table's functions at them. Written by program (gen_table.py).
-/
import Derived.Test.YtfagpdnckmaomaaRow
import Derived.Lib.SliceRun
import Derived.Deep.RegionLaw
namespace Go.Proofs.Ytfagpdnckmaomaa
open Go.ChangeShapes Go.WideShapes Go.ChangeAt Go.RowKit
set_option linter.unusedVariables false
set_option linter.unusedSimpArgs false

structure Fi where
  (qty : Int) (pr : Int)
deriving DecidableEq

def Fi.cells (g : Fi) : List Value := [.int .i64 g.qty, .int .i64 g.pr]
def Fi.val (g : Fi) : Value := .agg #[.int .i64 g.qty, .int .i64 g.pr]
def Fi.zero : Fi := ⟨0, 0⟩
theorem Fi.len (g : Fi) : g.cells.length = 2 := rfl
theorem Fi.one (g : Fi) : ∀ u ∈ g.cells, u.oneCell' = true := by
  intro u hu
  simp only [Fi.cells, List.mem_cons, List.not_mem_nil, or_false] at hu
  rcases hu with h | h <;> subst h <;> rfl
def Fi.at (g : Fi) (w : World) (b o : Nat) : Prop :=
  w.cell? ⟨b, o, none⟩ = some (.int .i64 g.qty) ∧ w.cell? ⟨b, o + 1, none⟩ = some (.int .i64 g.pr)
theorem Fi.at_of {w : World} {b o : Nat} {g : Fi} (h : ∀ j u, g.cells[j]? = some u → w.cell? ⟨b, o + j, none⟩ = some u) : g.at w b o :=
  ⟨h 0 _ rfl, h 1 _ rfl⟩
theorem Fi.at_keep {w w' : World} {b o : Nat} {g : Fi} (h : g.at w b o) (k : ∀ i, w'.cell? ⟨b, i, none⟩ = w.cell? ⟨b, i, none⟩) : g.at w' b o := by
  unfold Fi.at at *
  simp only [k]
  exact h
theorem Sl.fi {w : World} {A : Option Addr} {l : List Fi} (h : Sl w A (rc Fi.cells l)) {k : Nat} (hk : k < l.length) : ∃ b o, A = some ⟨b, o, none⟩ ∧ b < w.heap.size ∧ l[k].at w b (o + k * 2) := by
  obtain ⟨b, o, hA, hb, hc⟩ := Sl.elem (m := 2) Fi.len (by decide) h hk
  exact ⟨b, o, hA, hb, Fi.at_of hc⟩

/-- a function that tells of one element, in every world that agrees with w below B -/
def Fi.Tells (F : Nat) (caps : Array Value) (p : Fi → Bool) (B : Nat) (w : World) : Prop :=
  ∀ (g : Fi) (W : World), Below B w W → Calls Try.prog F (#[g.val] ++ caps) W fun e w' => e = .returned (.bool (p g)) ∧ Below W.heap.size W w'
theorem Fi.Tells.below {F : Nat} {caps : Array Value} {p : Fi → Bool} {B : Nat} {w w1 : World} (h : Fi.Tells F caps p B w) (hb : Below B w w1) {C : Nat} (hC : B ≤ C) : Fi.Tells F caps p C w1 :=
  fun g W hW => h g W (hb.trans (hW.mono hC))



theorem set_rc_fi (g : Fi) : ∀ (l : List Fi) (k : Nat), k < l.length → (((rc Fi.cells l).set (k * 2) (.int .i64 g.qty)).set (k * 2 + 1) (.int .i64 g.pr)) = rc Fi.cells (l.set k g) := by
  intro l
  induction l with
  | nil => intro k h; simp at h
  | cons a l ih =>
    intro k h
    cases k with
    | zero => simp [rc, Fi.cells]
    | succ k =>
      have := ih k (by simpa using h)
      have e0 : (k + 1) * 2 = k * 2 + 2 := by omega
      rw [e0]
      simp only [rc, List.map_cons, List.flatten_cons, List.set_cons_succ, Fi.cells, List.cons_append, List.nil_append] at this ⊢
      rw [← this]






end Go.Proofs.Ytfagpdnckmaomaa
