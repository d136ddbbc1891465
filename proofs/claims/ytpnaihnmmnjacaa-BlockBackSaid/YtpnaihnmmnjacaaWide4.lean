/-
  The walks of layer 1, fourth part: size, Cmp, Sign.
-/
import Derived.Test.YtpnaihnmmnjacaaWide2
namespace Go.Proofs.Ytpnaihnmmnjacaa
open Go.ChangeShapes Go.WideShapes Go.ChangeAt Go.RowKit
set_option linter.unusedVariables false
set_option linter.unusedSimpArgs false

def absI (x : Int) : Int := if x < 0 then -x else x
theorem hi_neg {x : Int} (h : In128 x) : hiN x < 0 ↔ x < 0 := by
  rw [hi_in h]; unfold In128 at h; omega

set_option maxHeartbeats 2000000 in
theorem size_any (x : Int) (hx : In128 x) (w : World) :
    Calls Try.prog 161 #[.agg #[.int .i64 (hiN x), .int .u64 (loN x)]] w fun e w' =>
      e = .returned (.tuple #[.int .u64 (IntKind.u64.wrap (hiN (absI x))), .int .u64 (loN (absI x))]) ∧ Below w.heap.size w w' := by
  by_cases hn : x < 0
  · have hneg : hiN x < 0 := (hi_neg hx).2 hn
    have HA := Lib.hid (show absI x = -x from if_pos hn)
    clear hn
    go_enter Try.func161, Try.ntmps161
    go_wp2_with fail
    refine (long_any x hx _).mono ?_
    rintro e w1 ⟨rfl, hb1⟩
    have B1 := (T2.new w (hiN x) (loN x) 62).below hb1
    have hB1 := since_step (since_alloc (Below.refl _ _) _) hb1
    have C1 := B1.alloc (.cells #[.int .i64 (hiN x), .int .u64 (loN x), .int .i64 (topN x)] 182)
    have D1 := T3.new w1 x 182
    have hC1 := since_alloc hB1 (.cells #[.int .i64 (hiN x), .int .u64 (loN x), .int .i64 (topN x)] 182)
    unfold sumV
    clear hb1
    obtain ⟨p0, p1, p2, p3, p4⟩ := id B1
    go_wp2_with fail
    refine (minus_any x _).mono ?_
    rintro e w2 ⟨rfl, hb2⟩
    have E := D1.below hb2
    have hE := since_step hC1 hb2
    obtain ⟨q0, q1, q2, q3, q4, q5, q6⟩ := id E
    have hcs := @cell_set
    unfold sumV
    have hB0 : w.heap.size ≤ w1.heap.size := hB1.size
    clear hb2 p0 p1 p2 p3 p4 B1 C1 D1 hB1 hC1
    go_wp2_with fail
    go_quiet (fail)
    go_wp2
    go_ret2
    refine ⟨by rw [HA.out]; rfl, below_drewN ?_ _⟩
    repeat' (first | with_reducible exact hE | with_reducible refine Below.setCell ?_ ?_ _)
    all_goals exact hB0
  · have hneg : ¬ hiN x < 0 := fun h => hn ((hi_neg hx).1 h)
    have HA := Lib.hid (show absI x = x from if_neg hn)
    clear hn
    go_enter Try.func161, Try.ntmps161
    go_wp2_with fail
    refine (long_any x hx _).mono ?_
    rintro e w1 ⟨rfl, hb1⟩
    have B1 := (T2.new w (hiN x) (loN x) 62).below hb1
    have hB1 := since_step (since_alloc (Below.refl _ _) _) hb1
    unfold sumV
    clear hb1
    obtain ⟨p0, p1, p2, p3, p4⟩ := id B1
    go_wp2_with fail
    go_quiet (fail)
    go_wp2
    go_ret2
    exact ⟨by rw [HA.out]; rfl, below_drewN (since_alloc hB1 _) _⟩

end Go.Proofs.Ytpnaihnmmnjacaa
