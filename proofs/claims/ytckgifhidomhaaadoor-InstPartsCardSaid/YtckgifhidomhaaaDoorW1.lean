/-
  The walks of layer 1, seventh part: Cmp, Sign, Neg; what lives() runs.
-/
import Derived.Test.YtckgifhidomhaaaDoorWide7
import Derived.Test.YtckgifhidomhaaaDoorDiv4
namespace Go.Proofs.YtckgifhidomhaaaDoor
open Go.ChangeShapes Go.WideShapes Go.ChangeAt Go.RowKit
set_option linter.unusedVariables false
set_option linter.unusedSimpArgs false

theorem in128_zero : In128 0 := by unfold In128; omega




theorem fmt_12 (w : World) :
    Calls Tryd.prog 73 #[.int .u64 12, .int .i64 10] w fun e w' => e = .returned (.string ⟨#[49, 50]⟩) ∧ Below w.heap.size w w' := by
  have HS := Lib.hid (fun w => Tryd.internal_strconv_small 12 (by decide) w)
  rw [show (⟨(Lib.decDigits 12).toArray⟩ : ByteArray) = ⟨#[49, 50]⟩ from by rw [Lib.decDigits_two (by decide) (by decide)]; rfl] at HS
  go_enter Tryd.func73, Tryd.ntmps73
  go_wp2_with fail
  refine (HS.out _).mono ?_
  rintro e w1 ⟨rfl, rfl⟩
  go_wp2_with fail
  go_ret
  exact ⟨rfl, Below.refl _ _⟩
theorem sfmt_12 (w : World) :
    Calls Tryd.prog 63 #[.int .u64 12, .int .i64 10] w fun e w' => e = .returned (.string ⟨#[49, 50]⟩) ∧ Below w.heap.size w w' := by
  go_enter Tryd.func63, Tryd.ntmps63
  go_wp2_with fail
  refine (fmt_12 _).mono ?_
  rintro e w1 ⟨rfl, hb1⟩
  go_wp2_with fail
  go_ret
  exact ⟨rfl, hb1⟩

set_option maxHeartbeats 1000000 in
theorem text_12 (w : World) :
    Calls Tryd.prog 42 #[.agg #[.int .i64 (-1), .int .u64 18446744073709551604]] w fun e w' => e = .returned (.string ⟨#[45, 49, 50]⟩) ∧ Below w.heap.size w w' := by
  have HS := Lib.hid (fun w => size_nat (-12) (by unfold In128; omega) w)
  rw [show hiN (-12) = -1 from by decide, show loN (-12) = 18446744073709551604 from by decide, show (szH (-12) : Int) = 0 from by decide, show (szL (-12) : Int) = 12 from by decide] at HS
  go_enter Tryd.func42, Tryd.ntmps42
  go_wp2_with fail
  refine (HS.out _).mono ?_
  rintro e w1 ⟨rfl, hb1⟩
  obtain ⟨q0, q1, q2, q3, q4⟩ := (T2.new w (-1) 18446744073709551604 45).below hb1
  have hB1 := since_step (since_alloc (Below.refl _ w) _) hb1
  go_wp2_with fail
  go_loopw [3, 4, 5] (fun a b c wr => a = .int .u64 0 ∧ b = .int .u64 12 ∧ c = .string ⟨#[]⟩ ∧ wr = w1) (fun _ _ _ _ => 0)
  case atStart => exact ⟨rfl, rfl, rfl, rfl⟩
  case round =>
    obtain ⟨rfl, rfl, rfl, hw⟩ := hrel
    subst hw
    go_wp2_with fail
    refine (sfmt_12 _).mono ?_
    rintro e w2 ⟨rfl, hb2⟩
    obtain ⟨q0, q1, q2, q3, q4⟩ : T2 w2 w.heap.size (-1) 18446744073709551604 := (T2.below ⟨q0, q1, q2, q3, q4⟩ hb2)
    have hB2 := since_step hB1 hb2
    go_wp2_with fail
    go_ret
    exact ⟨rfl, hB2⟩

end Go.Proofs.YtckgifhidomhaaaDoor
