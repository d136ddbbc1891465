/-
  The walks of layer 28, third part: windows; the laws PhaseSteps, PhaseSoon.
-/
import Derived.Test.YtaaknohoaijfhaaPhase2
namespace Go.Proofs.Ytaaknohoaijfhaa
open Go.ChangeShapes Go.WideShapes Go.ChangeAt Go.RowKit
set_option linter.unusedVariables false
set_option linter.unusedSimpArgs false

def opened (p u d : Int) : Int := if p = 1 ∧ d ≤ u then 0 else 18

theorem open_any (i c p u d : Int) (w : World) :
    Calls Try.prog 42 #[.agg #[.int .i64 i, .int .i64 c, .int .i64 p, .int .i64 u], .int .i64 d] w fun e w' => e = .returned (.int .i64 (opened p u d)) ∧ Below w.heap.size w w' := by
  by_cases h1 : p = 1
  · subst h1
    by_cases h2 : d ≤ u
    · rw [show opened 1 u d = 0 from if_pos ⟨rfl, h2⟩]
      go_enter Try.func42, Try.ntmps42
      go_wp2
      all_goals
        go_ret
        exact ⟨rfl, (Below.refl _ _).alloc (Nat.le_refl _) _⟩
    · rw [show opened 1 u d = 18 from if_neg (fun h => h2 h.2)]
      go_enter Try.func42, Try.ntmps42
      go_wp2
      all_goals
        go_ret
        exact ⟨rfl, (Below.refl _ _).alloc (Nat.le_refl _) _⟩
  · rw [show opened p u d = 18 from if_neg (fun h => h1 h.1)]
    have hb : (p != 1) = true := by rw [bne_iff_ne]; exact h1
    clear h1
    go_enter Try.func42, Try.ntmps42
    go_wp2
    all_goals
      go_ret
      exact ⟨rfl, (Below.refl _ _).alloc (Nat.le_refl _) _⟩

theorem refOpen_any (i c p u d : Int) (w : World) :
    Calls Try.prog 43 #[.agg #[.int .i64 i, .int .i64 c, .int .i64 p, .int .i64 u], .int .i64 d] w fun e w' => e = .returned (.int .i64 (opened p u d)) ∧ Below w.heap.size w w' := by
  by_cases h1 : p = 1
  · subst h1
    by_cases h2 : d ≤ u
    · rw [show opened 1 u d = 0 from if_pos ⟨rfl, h2⟩]
      go_enter Try.func43, Try.ntmps43
      go_wp2
      all_goals
        go_ret
        exact ⟨rfl, (Below.refl _ _).alloc (Nat.le_refl _) _⟩
    · rw [show opened 1 u d = 18 from if_neg (fun h => h2 h.2)]
      go_enter Try.func43, Try.ntmps43
      go_wp2
      all_goals
        go_ret
        exact ⟨rfl, (Below.refl _ _).alloc (Nat.le_refl _) _⟩
  · rw [show opened p u d = 18 from if_neg (fun h => h1 h.1)]
    have hb : (p == 1) = false := by rw [beq_eq_false_iff_ne]; exact h1
    clear h1
    go_enter Try.func43, Try.ntmps43
    go_wp2
    all_goals
      go_ret
      exact ⟨rfl, (Below.refl _ _).alloc (Nat.le_refl _) _⟩

def soonN (p u d : Int) : Int := if p = 1 ∧ d ≤ u then u - d + 1 else 0

theorem soon_any (i c p u d : Int) (w : World) (hu : 0 ≤ u ∧ u ≤ 4194304) (hd : 0 ≤ d ∧ d ≤ 4194304) :
    Calls Try.prog 45 #[.agg #[.int .i64 i, .int .i64 c, .int .i64 p, .int .i64 u], .int .i64 d] w fun e w' => e = .returned (.int .i64 (soonN p u d)) ∧ Below w.heap.size w w' := by
  by_cases h : p = 1 ∧ d ≤ u
  · have h1 : opened p u d = 0 := if_pos h
    have h2 : soonN p u d = u - d + 1 := if_pos h
    rw [h2]
    have H1 := Lib.hid h1
    clear h h1 h2
    go_enter Try.func45, Try.ntmps45
    go_wp2_with fail
    refine (open_any i c p u d _).mono ?_
    rintro e w1 ⟨rfl, hb1⟩
    rw [H1.out]
    have hz := hb1.size
    obtain ⟨hc, hfz⟩ := old_cells hb1
    simp only [World.size_alloc] at hz hc hfz
    have hb : Below w.heap.size w w1 := ((Below.refl _ _).alloc (Nat.le_refl _) _).trans (hb1.mono (by simp))
    clear hb1
    go_wp2
    all_goals
      go_ret
      exact ⟨rfl, hb⟩
  · have h1 : opened p u d = 18 := if_neg h
    have h2 : soonN p u d = 0 := if_neg h
    rw [h2]
    have H1 := Lib.hid h1
    clear h h1 h2
    go_enter Try.func45, Try.ntmps45
    go_wp2_with fail
    refine (open_any i c p u d _).mono ?_
    rintro e w1 ⟨rfl, hb1⟩
    rw [H1.out]
    have hb : Below w.heap.size w w1 := ((Below.refl _ _).alloc (Nat.le_refl _) _).trans (hb1.mono (by simp))
    clear hb1
    go_wp2
    all_goals
      go_ret
      exact ⟨rfl, hb⟩

set_option maxHeartbeats 1000000 in
theorem lives28_any (w : World) : Calls Try.prog 44 #[] w fun e w' => e = .returned (.bool true) ∧ Below w.heap.size w w' := by
  go_enter Try.func44, Try.ntmps44
  go_wp2_with fail
  refine (fail_any 1 0 0 0 5 2 _).mono ?_
  rintro e w1 ⟨rfl, hb1⟩
  rw [show resV (failS 1 0 0 0 5 2) = .tuple #[.agg #[.int .i64 1, .int .i64 0, .int .i64 1, .int .i64 7], .int .i64 0] from by simp [resV, failS, May, IsM]]
  go_wp2_with fail
  refine (sell_any 1 0 1 7 7 _).mono ?_
  rintro e w2 ⟨rfl, hb2⟩
  rw [show resV (sellS 1 0 1 7 7) = .tuple #[.agg #[.int .i64 0, .int .i64 0, .int .i64 0, .int .i64 0], .int .i64 18] from by simp [resV, sellS, May, IsM]]
  have hz2 := hb2.size
  obtain ⟨hc2, hf2⟩ := old_cells hb2
  have hB2 : Below w.heap.size w w2 := (hb1.alloc hb1.size _).trans (hb2.mono (by have := hb1.size; simp; omega))
  have hs2 := hB2.size
  simp only [World.size_alloc] at hz2 hc2 hf2
  have hl2 : w1.heap.size < w2.heap.size := hz2
  clear hb1 hb2
  go_wp2_with fail
  refine (sell_any 1 0 1 7 8 _).mono ?_
  rintro e w3 ⟨rfl, hb3⟩
  rw [show resV (sellS 1 0 1 7 8) = .tuple #[.agg #[.int .i64 1, .int .i64 0, .int .i64 2, .int .i64 7], .int .i64 0] from by simp [resV, sellS, May, IsM]]
  have hz3 := hb3.size
  obtain ⟨hc3, hf3⟩ := old_cells hb3
  have hB3 : Below w.heap.size w w3 := (hB2.alloc hB2.size _).trans (hb3.mono (by simp; omega))
  have hs3 := hB3.size
  simp only [World.size_alloc] at hz3 hc3 hf3
  have hl3 : w2.heap.size < w3.heap.size := hz3
  have hl31 : w1.heap.size < w3.heap.size := by omega
  have hl32 : w1.heap.size < w2.heap.size + 1 := by omega
  clear hb3 hB2
  go_wp2_with fail
  refine (soon_any 1 0 1 7 6 _ (by omega) (by omega)).mono ?_
  rintro e w4 ⟨rfl, hb4⟩
  rw [show soonN 1 7 6 = 2 from by simp [soonN]]
  go_wp2_with fail
  go_ret
  exact ⟨rfl, (hB3.alloc hs3 _).trans (hb4.mono (by simp; omega))⟩
end Go.Proofs.Ytaaknohoaijfhaa
