/-
  The walks of layer 1, sixth part: Mul.
-/
import Derived.Test.YtpnaihnmmnjacaaWide3
import Derived.Test.YtpnaihnmmnjacaaWide5
namespace Go.Proofs.Ytpnaihnmmnjacaa
open Go.ChangeShapes Go.WideShapes Go.ChangeAt Go.RowKit
set_option linter.unusedVariables false
set_option linter.unusedSimpArgs false

theorem mul_in128 {a b : Int} (ha : In64 a) (hb : In64 b) : In128 (a * b) := by
  unfold In64 at ha hb
  have h : (a * b).natAbs ≤ 9223372036854775808 * 9223372036854775808 := by
    rw [Int.natAbs_mul]
    exact Nat.mul_le_mul (by omega) (by omega)
  unfold In128
  omega

set_option maxHeartbeats 1000000 in
theorem wmul_any (a b : Int) (ha : In64 a) (hb : In64 b) (w : World) :
    Calls Try.prog 159 #[.int .i64 a, .int .i64 b] w fun e w' => e = .returned (.agg #[.int .i64 (hiN (a * b)), .int .u64 (loN (a * b))]) ∧ Below w.heap.size w w' := by
  have hin := mul_in128 ha hb
  have HE := Lib.hid (wideE_yes hin)
  have ha128 := (of_in a ha).2.2
  go_enter Try.func159, Try.ntmps159
  go_wp2_with fail
  refine (wof_any a ha _).mono ?_
  rintro e w1 ⟨rfl, hb1⟩
  have A1 := (T2.new w 0 0 62).below hb1
  have hB1 := since_step (since_alloc (Below.refl _ _) _) hb1
  clear hb1
  go_wp2_with fail
  refine (wtimes_any a b ha128 hb _).mono ?_
  rintro e w2 ⟨rfl, hb2⟩
  have A2 := A1.below hb2
  have hB2 := since_step hB1 hb2
  rw [HE.out]
  clear hb2 A1 hB1
  obtain ⟨q0, q1, q2, q3, q4⟩ := id A2
  have hcs := @cell_set
  go_wp2_with fail
  refine bodyPost_ret (v := .agg #[.int .i64 (hiN (a * b)), .int .u64 (loN (a * b))]) ?_ rfl ?_
  · simp [results, Try.results159, go_sem, World.cell?_alloc_lt, q0, cell_set, q1, q2]
  · refine ⟨rfl, ?_⟩
    repeat' (first | with_reducible exact hB2 | with_reducible exact since_alloc hB2 _ | with_reducible refine Below.setCell ?_ ?_ _ | with_reducible refine Below.alloc ?_ ?_ _)
    all_goals first | (simp; done) | (simp; omega) | exact hB2.size

/-- a number of 64 bits and no error, or none and ErrRange, part by part -/
def fV (x : Int) : Int := if In64 x then x else 0
def fE (x : Int) : Int := if In64 x then 0 else 7
theorem int_any (x : Int) (h : In128 x) (w : World) :
    Calls Try.prog 126 #[.agg #[.int .i64 (hiN x), .int .u64 (loN x)]] w fun e w' => e = .returned (.tuple #[.int .i64 (fV x), .int .i64 (fE x)]) ∧ Below w.heap.size w w' := by
  by_cases hx : In64 x
  · rw [show fV x = x from if_pos hx, show fE x = 0 from if_pos hx]; exact int_yes x hx w
  · rw [show fV x = 0 from if_neg hx, show fE x = 7 from if_neg hx]; exact int_no x h hx w

end Go.Proofs.Ytpnaihnmmnjacaa
