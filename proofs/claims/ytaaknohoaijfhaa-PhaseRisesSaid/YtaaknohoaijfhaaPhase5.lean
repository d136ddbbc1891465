/-
  The walks of layer 28, fifth part: the law PhaseSoon.
-/
import Derived.Test.YtaaknohoaijfhaaPhase4
namespace Go.Proofs.Ytaaknohoaijfhaa
open Go.ChangeShapes Go.WideShapes Go.ChangeAt Go.RowKit
set_option linter.unusedVariables false
set_option linter.unusedSimpArgs false

set_option maxHeartbeats 1000000 in
theorem walk_PhaseSoon (a0 : Array Value) (a1 : Int) (w : World) (w0 : Rd w (.cat (.int .i64) (.cat (.int .i64) (.cat (.int .i64) (.cat (.int .i64) .nil)))) a0.toList) (w1 : (Lit.int .i64 a1).wf = true) :
    Calls Try.prog 11 #[.agg a0, .int .i64 a1] w fun e w' => e = .returned (.bool true) ∧ Below w.heap.size w w' := by
  obtain ⟨i, c, p, u, rfl⟩ := rd_mem4 w0
  clear w0 w1
  by_cases hin : (0 ≤ u ∧ u ≤ 4194304) ∧ 0 ≤ a1 ∧ a1 ≤ 4194304
  · obtain ⟨⟨u1, u2⟩, d1, d2⟩ := hin
    go_enter Try.func11, Try.ntmps11
    go_wp2_with fail
    refine (soon_any i c p u a1 _ ⟨u1, u2⟩ ⟨d1, d2⟩).mono ?_
    rintro e w1 ⟨rfl, hb1⟩
    have hB1 : Below w.heap.size w w1 := since_step (since_alloc (Below.refl _ _) _) hb1
    have B1 := (Bk.new w #[.int .i64 i, .int .i64 c, .int .i64 p, .int .i64 u] 66).below hb1
    clear hb1
    by_cases hw : p = 1 ∧ a1 ≤ u
    · obtain ⟨rfl, hw⟩ := hw
      have hs : soonN 1 u a1 = u - a1 + 1 := if_pos ⟨rfl, hw⟩
      rw [hs]
      have h1 := Lib.hid (show opened 1 u a1 = 0 from if_pos ⟨rfl, hw⟩)
      have h2 := Lib.hid (show opened 1 u (a1 + (u - a1 + 1) - 1) = 0 from if_pos ⟨rfl, by omega⟩)
      have h3 := Lib.hid (show opened 1 u (a1 + (u - a1 + 1)) = 18 from if_neg (by omega))
      clear hs
      obtain ⟨l1, c1⟩ := id B1
      go_wp2_with fail
      refine (open_any i c 1 u a1 _).mono ?_
      rintro e w2 ⟨rfl, hb2⟩
      rw [h1.out]
      obtain ⟨l2, c2⟩ := B1.below hb2
      have B2 := B1.below hb2
      have hB2 := since_step hB1 hb2
      clear l1 c1 hb2 B1
      go_wp2_with fail
      refine (open_any i c 1 u (a1 + (u - a1 + 1) - 1) _).mono ?_
      rintro e w3 ⟨rfl, hb3⟩
      rw [h2.out]
      obtain ⟨l3, c3⟩ := B2.below hb3
      have B3 := B2.below hb3
      have hB3 := since_step hB2 hb3
      clear l2 c2 hb3 B2
      go_wp2_with fail
      refine (open_any i c 1 u (a1 + (u - a1 + 1)) _).mono ?_
      rintro e w4 ⟨rfl, hb4⟩
      rw [h3.out]
      obtain ⟨l4, c4⟩ := B3.below hb4
      have hB4 := since_step hB3 hb4
      clear l3 c3 hb4 B3
      go_wp2_with fail
      refine (lives28_any _).mono ?_
      rintro e w5 ⟨rfl, hb5⟩
      go_wp2_with fail
      go_ret
      exact ⟨rfl, since_step hB4 hb5⟩
    · have hs : soonN p u a1 = 0 := if_neg hw
      rw [hs]
      have h1 := Lib.hid (show opened p u a1 = 18 from if_neg hw)
      clear hs hw
      obtain ⟨l1, c1⟩ := id B1
      go_wp2_with fail
      refine (open_any i c p u a1 _).mono ?_
      rintro e w2 ⟨rfl, hb2⟩
      rw [h1.out]
      have hB2 := since_step hB1 hb2
      clear l1 c1 hb2 B1
      go_wp2_with fail
      refine (lives28_any _).mono ?_
      rintro e w5 ⟨rfl, hb5⟩
      go_wp2_with fail
      go_ret
      exact ⟨rfl, since_step hB2 hb5⟩
  · have hways : u < 0 ∨ (0 ≤ u ∧ (4194304 < u ∨ (u ≤ 4194304 ∧ (a1 < 0 ∨ (0 ≤ a1 ∧ 4194304 < a1))))) := by omega
    clear hin
    rcases hways with h | ⟨h1, h | ⟨h2, h | ⟨h3, h⟩⟩⟩
    all_goals
      go_enter Try.func11, Try.ntmps11
      go_wp2_with fail
      refine (lives28_any _).mono ?_
      rintro e w5 ⟨rfl, hb5⟩
      go_wp2_with fail
      go_ret
      exact ⟨rfl, since_step (since_alloc (Below.refl _ _) _) hb5⟩
end Go.Proofs.Ytaaknohoaijfhaa
