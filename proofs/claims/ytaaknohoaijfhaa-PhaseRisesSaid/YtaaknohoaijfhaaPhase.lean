/-
  The walks of layer 28.
-/
import Derived.Test.YtaaknohoaijfhaaShape
namespace Go.Proofs.Ytaaknohoaijfhaa
open Go.ChangeShapes Go.WideShapes Go.ChangeAt Go.RowKit
set_option linter.unusedVariables false

/-- whether the four numbers are a member's -/
def IsM (i c p u : Int) : Prop := 0 < i ∧ i < 9 ∧ 0 ≤ c ∧ c ≤ 4611686018427387904 ∧ 0 ≤ p ∧ p < 4 ∧ 0 ≤ u ∧ u ≤ 2097152
/-- whether a member and a day may be -/
def May (i c p u d : Int) : Prop := IsM i c p u ∧ 0 ≤ d ∧ d ≤ 1048576
instance (i c p u : Int) : Decidable (IsM i c p u) := by unfold IsM; infer_instance
instance (i c p u d : Int) : Decidable (May i c p u d) := by unfold May; infer_instance
def isM (i c p u : Int) : Bool := decide (IsM i c p u)
def mayB (i c p u d : Int) : Bool := decide (May i c p u d)
def mem4 (i c p u : Int) : Value := .agg #[.int .i64 i, .int .i64 c, .int .i64 p, .int .i64 u]

set_option maxHeartbeats 400000 in
theorem refIs_any (i c p u : Int) (w : World) :
    Calls Try.prog 57 #[.agg #[.int .i64 i, .int .i64 c, .int .i64 p, .int .i64 u]] w fun e w' => e = .returned (.bool (isM i c p u)) ∧ Below w.heap.size w w' := by
  go_enter Try.func57, Try.ntmps57
  go_wp2
  all_goals
    go_ret
    refine ⟨retB ?_, (Below.refl _ _).alloc (Nat.le_refl _) _⟩
    first
      | exact (decide_eq_true (by unfold IsM; omega)).symm
      | exact (decide_eq_false (by unfold IsM; omega)).symm
      | exact decide_eq_decide.2 (by unfold IsM; omega)

theorem refMay_any (i c p u d : Int) (w : World) :
    Calls Try.prog 52 #[.agg #[.int .i64 i, .int .i64 c, .int .i64 p, .int .i64 u], .int .i64 d] w fun e w' => e = .returned (.bool (mayB i c p u d)) ∧ Below w.heap.size w w' := by
  go_enter Try.func52, Try.ntmps52
  go_wp2_with fail
  refine (refIs_any i c p u _).mono ?_
  rintro e w1 ⟨rfl, hb1⟩
  have hb : Below w.heap.size w w1 := ((Below.refl _ _).alloc (Nat.le_refl _) _).trans (hb1.mono (by simp))
  clear hb1
  by_cases hm : IsM i c p u
  · rw [show isM i c p u = true from decide_eq_true hm]
    have HM := Lib.hid hm
    clear hm
    go_wp2
    all_goals
      go_ret
      refine ⟨retB ?_, hb⟩
      first
        | exact (decide_eq_true ⟨HM.out, by omega, by omega⟩).symm
        | exact (decide_eq_false (by unfold May; omega)).symm
        | exact decide_eq_decide.2 ⟨fun h => ⟨HM.out, by omega, h⟩, fun h => h.2.2⟩
  · rw [show isM i c p u = false from decide_eq_false hm]
    have HM := Lib.hid (show mayB i c p u d = false from decide_eq_false (fun h => hm h.1))
    clear hm
    go_wp2
    go_ret
    exact ⟨retB HM.out.symm, hb⟩

set_option maxHeartbeats 400000 in
theorem mcheck_yes (i c p u : Int) (w : World) (h : IsM i c p u) :
    Calls Try.prog 56 #[.agg #[.int .i64 i, .int .i64 c, .int .i64 p, .int .i64 u]] w fun e w' => e = .returned (.int .i64 0) ∧ Below w.heap.size w w' := by
  obtain ⟨h1, h2, h3, h4, h5, h6, h7, h8⟩ := h
  go_enter Try.func56, Try.ntmps56
  go_wp2
  all_goals
    go_ret
    exact ⟨rfl, (Below.refl _ _).alloc (Nat.le_refl _) _⟩

set_option maxHeartbeats 400000 in
theorem mcheck_no (i c p u : Int) (w : World) (h : ¬ IsM i c p u) :
    Calls Try.prog 56 #[.agg #[.int .i64 i, .int .i64 c, .int .i64 p, .int .i64 u]] w fun e w' => e = .returned (.int .i64 2) ∧ Below w.heap.size w w' := by
  have hw : i < 1 ∨ (1 ≤ i ∧ (8 < i ∨ (i ≤ 8 ∧ (c < 0 ∨ (0 ≤ c ∧ (4611686018427387904 < c ∨ (c ≤ 4611686018427387904 ∧ (p < 0 ∨ (0 ≤ p ∧ (3 < p ∨ (p ≤ 3 ∧ (u < 0 ∨ (0 ≤ u ∧ 2097152 < u))))))))))))) := by
    unfold IsM at h; omega
  clear h
  rcases hw with h | ⟨h1, h | ⟨h2, h | ⟨h3, h | ⟨h4, h | ⟨h5, h | ⟨h6, h | ⟨h7, h⟩⟩⟩⟩⟩⟩⟩
  all_goals
    go_enter Try.func56, Try.ntmps56
    go_wp2
    go_ret
    exact ⟨rfl, (Below.refl _ _).alloc (Nat.le_refl _) _⟩

theorem pcheck_yes (i c p u d : Int) (w : World) (h : May i c p u d) :
    Calls Try.prog 51 #[.agg #[.int .i64 i, .int .i64 c, .int .i64 p, .int .i64 u], .int .i64 d] w fun e w' => e = .returned (.int .i64 0) ∧ Below w.heap.size w w' := by
  obtain ⟨hm, h1, h2⟩ := h
  go_enter Try.func51, Try.ntmps51
  go_wp2_with fail
  refine (mcheck_yes i c p u _ hm).mono ?_
  rintro e w1 ⟨rfl, hb1⟩
  have hb : Below w.heap.size w w1 := ((Below.refl _ _).alloc (Nat.le_refl _) _).trans (hb1.mono (by simp))
  clear hb1 hm
  go_wp2
  go_ret
  exact ⟨rfl, hb⟩

theorem pcheck_no (i c p u d : Int) (w : World) (h : ¬ May i c p u d) :
    Calls Try.prog 51 #[.agg #[.int .i64 i, .int .i64 c, .int .i64 p, .int .i64 u], .int .i64 d] w fun e w' => e = .returned (.int .i64 2) ∧ Below w.heap.size w w' := by
  by_cases hm : IsM i c p u
  · have hd : d < 0 ∨ (0 ≤ d ∧ 1048576 < d) := by
      by_cases h1 : 0 ≤ d
      · by_cases h2 : d ≤ 1048576
        · exact absurd ⟨hm, h1, h2⟩ h
        · omega
      · omega
    clear h
    rcases hd with h1 | ⟨h1, h2⟩
    all_goals
      go_enter Try.func51, Try.ntmps51
      go_wp2_with fail
      refine (mcheck_yes i c p u _ hm).mono ?_
      rintro e w1 ⟨rfl, hb1⟩
      have hb : Below w.heap.size w w1 := ((Below.refl _ _).alloc (Nat.le_refl _) _).trans (hb1.mono (by simp))
      clear hb1
      go_wp2
      go_ret
      exact ⟨rfl, hb⟩
  · go_enter Try.func51, Try.ntmps51
    go_wp2_with fail
    refine (mcheck_no i c p u _ hm).mono ?_
    rintro e w1 ⟨rfl, hb1⟩
    have hb : Below w.heap.size w w1 := ((Below.refl _ _).alloc (Nat.le_refl _) _).trans (hb1.mono (by simp))
    clear hb1 hm h
    go_wp2
    go_ret
    exact ⟨rfl, hb⟩
end Go.Proofs.Ytaaknohoaijfhaa
