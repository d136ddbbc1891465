/-
  The walks of layer 2, third part: lives, with the one scaling that it calls.
-/
import Derived.Test.YtpnaihnmmnjacaaFix2
import Derived.Test.YtpnaihnmmnjacaaWide4
namespace Go.Proofs.Ytpnaihnmmnjacaa
open Go.ChangeShapes Go.WideShapes Go.ChangeAt Go.RowKit
set_option linter.unusedVariables false
set_option linter.unusedSimpArgs false

set_option maxRecDepth 100000 in
set_option maxHeartbeats 1000000 in
theorem div64_21 (w : World) :
    Calls Try.prog 173 #[.int .u64 0, .int .u64 21, .int .u64 2] w fun e w' => e = .returned (.tuple #[.int .u64 10, .int .u64 1]) ∧ Below w.heap.size w w' := by
  go_enter Try.func173, Try.ntmps173
  go_wp2
  go_quiet (fail)
  go_wp2
  go_ret2
  exact ⟨rfl, below_drewN (Below.refl _ _) _⟩

set_option maxHeartbeats 1000000 in
theorem divide_21 (w : World) :
    Calls Try.prog 162 #[.int .u64 0, .int .u64 21, .int .u64 2] w fun e w' => e = .returned (.tuple #[.int .u64 0, .int .u64 10, .int .u64 1]) ∧ Below w.heap.size w w' := by
  go_enter Try.func162, Try.ntmps162
  go_wp2
  go_quiet (fail)
  go_wp2_with fail
  refine (div64_21 _).mono ?_
  rintro e w1 ⟨rfl, hb1⟩
  have hB1 := since_step (below_drewN (Below.refl w.heap.size w) nq) hb1
  clear hb1
  go_wp2_with fail
  go_ret3
  exact ⟨rfl, hB1⟩

set_option maxHeartbeats 2000000 in
theorem wdiv_21 (w : World) :
    Calls Try.prog 125 #[.agg #[.int .i64 0, .int .u64 21], .int .i64 2] w fun e w' => e = .returned (.tuple #[.agg #[.int .i64 0, .int .u64 10], .int .i64 1, .int .i64 0]) ∧ Below w.heap.size w w' := by
  have hcs := @cell_set
  have hsz := fun w => size_any 21 (by unfold In128; omega) w
  rw [show hiN 21 = 0 from by decide, show loN 21 = 21 from by decide, show IntKind.u64.wrap (hiN (absI 21)) = 0 from by decide, show loN (absI 21) = 21 from by decide] at hsz
  go_enter Try.func125, Try.ntmps125
  go_wp2_with fail
  refine (hsz _).mono ?_
  rintro e w1 ⟨rfl, hb1⟩
  have Q1 := ((T2.new w 0 21 62).alloc (.cells #[.int .i64 0, .int .u64 0] 62)).below hb1
  have R1 : T2 w1 (w.heap.size + 1) 0 0 := by
    have := (T2.new (w.alloc (.cells #[.int .i64 0, .int .u64 21] 62)) 0 0 62).below hb1
    rwa [World.size_alloc] at this
  have hB1 := since_step (since_alloc (since_alloc (Below.refl w.heap.size w) _) _) hb1
  clear hb1
  go_wp2_with fail
  refine (divide_21 _).mono ?_
  rintro e w2 ⟨rfl, hb2⟩
  have Q2 := Q1.below hb2
  have R2 := R1.below hb2
  have hB2 := since_step hB1 hb2
  obtain ⟨q0, q1, q2, q3, q4⟩ := id Q2
  obtain ⟨r0, r1, r2, r3, r4⟩ := id R2
  clear hb2 Q1 R1 hB1
  go_wp2_with fail
  refine bodyPost_ret (v := .tuple #[.agg #[.int .i64 0, .int .u64 10], .int .i64 1, .int .i64 0]) ?_ rfl ?_
  · simp [results, Try.results125, go_sem, cell_set, World.cell?_alloc_lt, r0, r1, r2]
  · refine ⟨rfl, ?_⟩
    repeat' (first | with_reducible exact hB2 | with_reducible refine Below.setCell ?_ ?_ _ | with_reducible refine Below.alloc ?_ ?_ _)
    all_goals first | (simp; done) | (simp; omega) | exact hB2.size


end Go.Proofs.Ytpnaihnmmnjacaa
