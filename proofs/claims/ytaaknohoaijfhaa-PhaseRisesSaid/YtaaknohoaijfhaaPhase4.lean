/-
  The walks of layer 28, fourth part: the laws PhaseSteps, PhaseSoon.
-/
import Derived.Test.YtaaknohoaijfhaaPhase3
import Derived.Deep.RegionHeld3
namespace Go.Proofs.Ytaaknohoaijfhaa
open Go.ChangeShapes Go.WideShapes Go.ChangeAt Go.RowKit
set_option linter.unusedVariables false
set_option linter.unusedSimpArgs false

theorem rd_mem4 {w : World} {a : Array Value} (h : Rd w (.cat (.int .i64) (.cat (.int .i64) (.cat (.int .i64) (.cat (.int .i64) .nil)))) a.toList) :
    ∃ i c p u : Int, a = #[.int .i64 i, .int .i64 c, .int .i64 p, .int .i64 u] := by
  obtain ⟨_, _, e0, ⟨i, rfl, _⟩, _, _, rfl, ⟨c, rfl, _⟩, _, _, rfl, ⟨p, rfl, _⟩, _, _, rfl, ⟨u, rfl, _⟩, rfl⟩ := h
  exact ⟨i, c, p, u, by apply Array.toList_inj.1; simpa using e0⟩

set_option maxHeartbeats 2000000 in
theorem walk_PhaseSteps (a0 : Array Value) (a1 : Int) (a2 : Int) (w : World) (w0 : Rd w (.cat (.int .i64) (.cat (.int .i64) (.cat (.int .i64) (.cat (.int .i64) .nil)))) a0.toList) (w1 : (Lit.int .i64 a1).wf = true) (w2 : (Lit.int .i64 a2).wf = true) :
    Calls Try.prog 10 #[.agg a0, .int .i64 a1, .int .i64 a2] w fun e w' => e = .returned (.bool true) ∧ Below w.heap.size w w' := by
  obtain ⟨i, c, p, u, rfl⟩ := rd_mem4 w0
  clear w0 w1 w2
  generalize hr1 : failS i c p u a1 a2 = r1
  generalize hr2 : sellS i c p u a1 = r2
  generalize hr3 : closeS i c p u a1 = r3
  have H1 := Lib.hid hr1
  have H2 := Lib.hid hr2
  have H3 := Lib.hid hr3
  clear hr1 hr2 hr3
  go_enter Try.func10, Try.ntmps10
  go_wp2_with fail
  refine (fail_any i c p u a1 a2 _).mono ?_
  rintro e w1 ⟨rfl, hb1⟩
  rw [H1.out]
  unfold resV
  have hB1 : Below w.heap.size w w1 := since_step (since_alloc (Below.refl _ _) _) hb1
  have B1_0 := (Bk.new w #[.int .i64 i, .int .i64 c, .int .i64 p, .int .i64 u] 66).below hb1
  obtain ⟨l1_0, c1_0⟩ := id B1_0
  clear hb1
  go_wp2_with fail
  refine (refFail_any i c p u a1 a2 _).mono ?_
  rintro e w2 ⟨rfl, hb2⟩
  rw [H1.out]
  unfold resV
  have hB2 : Below w.heap.size w w2 := since_step (since_alloc hB1 _) hb2
  have B2_0 := (B1_0.alloc _).below hb2
  have B2_1 := (Bk.new w1 #[.int .i64 r1.i, .int .i64 r1.c, .int .i64 r1.p, .int .i64 r1.u] 66).below hb2
  obtain ⟨l2_0, c2_0⟩ := id B2_0
  obtain ⟨l2_1, c2_1⟩ := id B2_1
  clear hb2 B1_0 l1_0 c1_0
  go_wp2_with fail
  refine (sell_any i c p u a1 _).mono ?_
  rintro e w3 ⟨rfl, hb3⟩
  rw [H2.out]
  unfold resV
  have hB3 : Below w.heap.size w w3 := since_step (since_alloc hB2 _) hb3
  have B3_0 := (B2_0.alloc _).below hb3
  have B3_1 := (B2_1.alloc _).below hb3
  have B3_2 := (Bk.new w2 #[.int .i64 r1.i, .int .i64 r1.c, .int .i64 r1.p, .int .i64 r1.u] 66).below hb3
  obtain ⟨l3_0, c3_0⟩ := id B3_0
  obtain ⟨l3_1, c3_1⟩ := id B3_1
  obtain ⟨l3_2, c3_2⟩ := id B3_2
  clear hb3 B2_0 l2_0 c2_0 B2_1 l2_1 c2_1
  go_wp2_with fail
  refine (refSell_any i c p u a1 _).mono ?_
  rintro e w4 ⟨rfl, hb4⟩
  rw [H2.out]
  unfold resV
  have hB4 : Below w.heap.size w w4 := since_step (since_alloc hB3 _) hb4
  have B4_0 := (B3_0.alloc _).below hb4
  have B4_1 := (B3_1.alloc _).below hb4
  have B4_2 := (B3_2.alloc _).below hb4
  have B4_3 := (Bk.new w3 #[.int .i64 r2.i, .int .i64 r2.c, .int .i64 r2.p, .int .i64 r2.u] 66).below hb4
  obtain ⟨l4_0, c4_0⟩ := id B4_0
  obtain ⟨l4_1, c4_1⟩ := id B4_1
  obtain ⟨l4_2, c4_2⟩ := id B4_2
  obtain ⟨l4_3, c4_3⟩ := id B4_3
  clear hb4 B3_0 l3_0 c3_0 B3_1 l3_1 c3_1 B3_2 l3_2 c3_2
  go_wp2_with fail
  refine (close_any i c p u a1 _).mono ?_
  rintro e w5 ⟨rfl, hb5⟩
  rw [H3.out]
  unfold resV
  have hB5 : Below w.heap.size w w5 := since_step (since_alloc hB4 _) hb5
  have B5_0 := (B4_0.alloc _).below hb5
  have B5_1 := (B4_1.alloc _).below hb5
  have B5_2 := (B4_2.alloc _).below hb5
  have B5_3 := (B4_3.alloc _).below hb5
  have B5_4 := (Bk.new w4 #[.int .i64 r2.i, .int .i64 r2.c, .int .i64 r2.p, .int .i64 r2.u] 66).below hb5
  obtain ⟨l5_0, c5_0⟩ := id B5_0
  obtain ⟨l5_1, c5_1⟩ := id B5_1
  obtain ⟨l5_2, c5_2⟩ := id B5_2
  obtain ⟨l5_3, c5_3⟩ := id B5_3
  obtain ⟨l5_4, c5_4⟩ := id B5_4
  clear hb5 B4_0 l4_0 c4_0 B4_1 l4_1 c4_1 B4_2 l4_2 c4_2 B4_3 l4_3 c4_3
  go_wp2_with fail
  refine (refClose_any i c p u a1 _).mono ?_
  rintro e w6 ⟨rfl, hb6⟩
  rw [H3.out]
  unfold resV
  have hB6 : Below w.heap.size w w6 := since_step (since_alloc hB5 _) hb6
  have B6_0 := (B5_0.alloc _).below hb6
  have B6_1 := (B5_1.alloc _).below hb6
  have B6_2 := (B5_2.alloc _).below hb6
  have B6_3 := (B5_3.alloc _).below hb6
  have B6_4 := (B5_4.alloc _).below hb6
  have B6_5 := (Bk.new w5 #[.int .i64 r3.i, .int .i64 r3.c, .int .i64 r3.p, .int .i64 r3.u] 66).below hb6
  obtain ⟨l6_0, c6_0⟩ := id B6_0
  obtain ⟨l6_1, c6_1⟩ := id B6_1
  obtain ⟨l6_2, c6_2⟩ := id B6_2
  obtain ⟨l6_3, c6_3⟩ := id B6_3
  obtain ⟨l6_4, c6_4⟩ := id B6_4
  obtain ⟨l6_5, c6_5⟩ := id B6_5
  clear hb6 B5_0 l5_0 c5_0 B5_1 l5_1 c5_1 B5_2 l5_2 c5_2 B5_3 l5_3 c5_3 B5_4 l5_4 c5_4
  go_wp2_with fail
  have C0 := B6_0.alloc (.cells #[.int .i64 r3.i, .int .i64 r3.c, .int .i64 r3.p, .int .i64 r3.u] 66)
  have C1 := B6_1.alloc (.cells #[.int .i64 r3.i, .int .i64 r3.c, .int .i64 r3.p, .int .i64 r3.u] 66)
  have C2 := B6_2.alloc (.cells #[.int .i64 r3.i, .int .i64 r3.c, .int .i64 r3.p, .int .i64 r3.u] 66)
  have C3 := B6_3.alloc (.cells #[.int .i64 r3.i, .int .i64 r3.c, .int .i64 r3.p, .int .i64 r3.u] 66)
  have C4 := B6_4.alloc (.cells #[.int .i64 r3.i, .int .i64 r3.c, .int .i64 r3.p, .int .i64 r3.u] 66)
  have C5 := B6_5.alloc (.cells #[.int .i64 r3.i, .int .i64 r3.c, .int .i64 r3.p, .int .i64 r3.u] 66)
  have C6 := Bk.new w6 #[.int .i64 r3.i, .int .i64 r3.c, .int .i64 r3.p, .int .i64 r3.u] 66
  have hB7 := since_alloc hB6 (.cells #[.int .i64 r3.i, .int .i64 r3.c, .int .i64 r3.p, .int .i64 r3.u] 66)
  clear B6_0 l6_0 c6_0 B6_1 l6_1 c6_1 B6_2 l6_2 c6_2 B6_3 l6_3 c6_3 B6_4 l6_4 c6_4 B6_5 l6_5 c6_5 hB6
  generalize w6.alloc (.cells #[.int .i64 r3.i, .int .i64 r3.c, .int .i64 r3.p, .int .i64 r3.u] 66) = W0 at *
  have sO : ∀ W, Below W0.heap.size W0 W → (Below W0.heap.size W0 W ∧ (∀ o, W.cell? ⟨w.heap.size, o, none⟩ = (#[.int .i64 i, .int .i64 c, .int .i64 p, .int .i64 u] : Array Value)[o]?) ∧ (∀ o, W.cell? ⟨w1.heap.size, o, none⟩ = (#[.int .i64 r1.i, .int .i64 r1.c, .int .i64 r1.p, .int .i64 r1.u] : Array Value)[o]?) ∧ (∀ o, W.cell? ⟨w2.heap.size, o, none⟩ = (#[.int .i64 r1.i, .int .i64 r1.c, .int .i64 r1.p, .int .i64 r1.u] : Array Value)[o]?) ∧ (∀ o, W.cell? ⟨w3.heap.size, o, none⟩ = (#[.int .i64 r2.i, .int .i64 r2.c, .int .i64 r2.p, .int .i64 r2.u] : Array Value)[o]?) ∧ (∀ o, W.cell? ⟨w4.heap.size, o, none⟩ = (#[.int .i64 r2.i, .int .i64 r2.c, .int .i64 r2.p, .int .i64 r2.u] : Array Value)[o]?) ∧ (∀ o, W.cell? ⟨w5.heap.size, o, none⟩ = (#[.int .i64 r3.i, .int .i64 r3.c, .int .i64 r3.p, .int .i64 r3.u] : Array Value)[o]?) ∧ (∀ o, W.cell? ⟨w6.heap.size, o, none⟩ = (#[.int .i64 r3.i, .int .i64 r3.c, .int .i64 r3.p, .int .i64 r3.u] : Array Value)[o]?)) := fun W h => ⟨h, (C0.below h).2, (C1.below h).2, (C2.below h).2, (C3.below h).2, (C4.below h).2, (C5.below h).2, (C6.below h).2⟩
  have SO := Lib.hid sO
  clear sO
  clear C0 C1 C2 C3 C4 C5 C6
  go_region_held3 (fun W => Below W0.heap.size W0 W ∧ (∀ o, W.cell? ⟨w.heap.size, o, none⟩ = (#[.int .i64 i, .int .i64 c, .int .i64 p, .int .i64 u] : Array Value)[o]?) ∧ (∀ o, W.cell? ⟨w1.heap.size, o, none⟩ = (#[.int .i64 r1.i, .int .i64 r1.c, .int .i64 r1.p, .int .i64 r1.u] : Array Value)[o]?) ∧ (∀ o, W.cell? ⟨w2.heap.size, o, none⟩ = (#[.int .i64 r1.i, .int .i64 r1.c, .int .i64 r1.p, .int .i64 r1.u] : Array Value)[o]?) ∧ (∀ o, W.cell? ⟨w3.heap.size, o, none⟩ = (#[.int .i64 r2.i, .int .i64 r2.c, .int .i64 r2.p, .int .i64 r2.u] : Array Value)[o]?) ∧ (∀ o, W.cell? ⟨w4.heap.size, o, none⟩ = (#[.int .i64 r2.i, .int .i64 r2.c, .int .i64 r2.p, .int .i64 r2.u] : Array Value)[o]?) ∧ (∀ o, W.cell? ⟨w5.heap.size, o, none⟩ = (#[.int .i64 r3.i, .int .i64 r3.c, .int .i64 r3.p, .int .i64 r3.u] : Array Value)[o]?) ∧ (∀ o, W.cell? ⟨w6.heap.size, o, none⟩ = (#[.int .i64 r3.i, .int .i64 r3.c, .int .i64 r3.p, .int .i64 r3.u] : Array Value)[o]?))
    (first | exact SO.out _ (by assumption) | exact SO.out _ (Below.refl _ _).drew | assumption)
    (first
      | (go_at_call 42; refine (open_any i c p u a1 _).mono ?_; rintro e w' ⟨rfl, hbn⟩; go_split_ands; have hbW := since_step (by assumption) hbn)
      | (go_at_call 43; refine (refOpen_any i c p u a1 _).mono ?_; rintro e w' ⟨rfl, hbn⟩; go_split_ands; have hbW := since_step (by assumption) hbn)
      | (go_at_call 44; refine (lives28_any _).mono ?_; rintro e w' ⟨rfl, hbn⟩; go_split_ands; have hbW := since_step (by assumption) hbn))
  go_wp2
  go_ret
  go_split_ands
  exact ⟨rfl, since_step hB7 (by assumption)⟩
end Go.Proofs.Ytaaknohoaijfhaa
