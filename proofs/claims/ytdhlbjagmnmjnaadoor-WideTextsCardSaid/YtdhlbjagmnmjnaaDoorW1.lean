/-
  The walks of layer 1, seventh part: Cmp, Sign, Neg; what lives() runs.
-/
import Derived.Test.YtdhlbjagmnmjnaaDoorWide7
import Derived.Test.YtdhlbjagmnmjnaaDoorDiv4
namespace Go.Proofs.YtdhlbjagmnmjnaaDoor
open Go.ChangeShapes Go.WideShapes Go.ChangeAt Go.RowKit
set_option linter.unusedVariables false
set_option linter.unusedSimpArgs false

theorem in128_zero : In128 0 := by unfold In128; omega

set_option maxHeartbeats 2000000 in
theorem wcmp_any (x y : Int) (hx : In128 x) (hy : In128 y) (w : World) :
    Calls Tryd.prog 19 #[.agg #[.int .i64 (hiN x), .int .u64 (loN x)], .agg #[.int .i64 (hiN y), .int .u64 (loN y)]] w fun e w' => e = .returned (.int .i64 (cmpZ x y)) ∧ Below w.heap.size w w' := by
  have hxs := split_in hx
  have hys := split_in hy
  have lx := lo_nn x
  have ly := lo_nn y
  have lx2 := lo_lt x
  have ly2 := lo_lt y
  have hz : cmpZ x y = if hiN x = hiN y ∧ loN x = loN y then 0 else if hiN x < hiN y ∨ (hiN x = hiN y ∧ loN x < loN y) then -1 else 1 := by
    unfold cmpZ
    by_cases h1 : x = y
    · subst h1; simp
    · have hne : ¬ (hiN x = hiN y ∧ loN x = loN y) := fun h => h1 (parts_inj hx hy h.1 h.2)
      rw [if_neg h1, if_neg hne]
      by_cases h2 : x < y
      · rw [if_pos h2, if_pos (show hiN x < hiN y ∨ (hiN x = hiN y ∧ loN x < loN y) by omega)]
      · rw [if_neg h2, if_neg (show ¬ (hiN x < hiN y ∨ (hiN x = hiN y ∧ loN x < loN y)) by omega)]
  have HZ := Lib.hid hz
  clear hz hxs hys lx ly lx2 ly2
  generalize hiN x = a at *
  generalize hiN y = b at *
  generalize loN x = c at *
  generalize loN y = d at *
  have P1 := (T2.new w a c 24).alloc (.cells #[.int .i64 b, .int .u64 d] 24)
  have P2 : T2 ((w.alloc (.cells #[.int .i64 a, .int .u64 c] 24)).alloc (.cells #[.int .i64 b, .int .u64 d] 24)) (w.heap.size + 1) b d := by
    have := T2.new (w.alloc (.cells #[.int .i64 a, .int .u64 c] 24)) b d 24
    rwa [World.size_alloc] at this
  have hB := since_alloc (since_alloc (Below.refl _ w) (.cells #[.int .i64 a, .int .u64 c] 24)) (.cells #[.int .i64 b, .int .u64 d] 24)
  go_enter Tryd.func19, Tryd.ntmps19
  go_upto_region 1 with fail
  generalize (w.alloc (.cells #[.int .i64 a, .int .u64 c] 24)).alloc (.cells #[.int .i64 b, .int .u64 d] 24) = W at *
  obtain ⟨p0, p1, p2, p3, p4⟩ := P1
  obtain ⟨q0, q1, q2, q3, q4⟩ := P2
  by_cases h1 : a = b
  · subst h1
    by_cases h2 : c = d
    · subst h2
      go_wp2
      go_ret
      exact ⟨by rw [HZ.out]; simp, hB⟩
    · have k1 : (c == d) = false := by simp; exact h2
      have k2 : decide (a < a) = false := by simp
      by_cases h3 : c < d
      · have k3 : decide (c < d) = true := decide_eq_true h3
        go_wp2
        go_ret
        exact ⟨by rw [HZ.out]; simp; omega, hB⟩
      · have k3 : decide (c < d) = false := decide_eq_false h3
        go_wp2
        go_ret
        exact ⟨by rw [HZ.out]; simp; omega, hB⟩
  · have k1 : (a == b) = false := by simp; exact h1
    by_cases h3 : a < b
    · have k3 : decide (a < b) = true := decide_eq_true h3
      go_wp2
      go_ret
      exact ⟨by rw [HZ.out]; simp; omega, hB⟩
    · have k3 : decide (a < b) = false := decide_eq_false h3
      go_wp2
      go_ret
      exact ⟨by rw [HZ.out]; simp; omega, hB⟩

set_option maxHeartbeats 1000000 in
theorem wsign_any (x : Int) (hx : In128 x) (w : World) :
    Calls Tryd.prog 20 #[.agg #[.int .i64 (hiN x), .int .u64 (loN x)]] w fun e w' => e = .returned (.int .i64 (cmpZ x 0)) ∧ Below w.heap.size w w' := by
  have HC := Lib.hid (fun w => wcmp_any x 0 hx in128_zero w)
  obtain ⟨z1, z2, z3⟩ := zero_parts
  rw [z1, z2] at HC
  go_enter Tryd.func20, Tryd.ntmps20
  go_wp2_with fail
  refine (HC.out _).mono ?_
  rintro e w1 ⟨rfl, hb1⟩
  have hB1 := since_step (since_alloc (Below.refl _ w) _) hb1
  go_wp2_with fail
  go_ret
  exact ⟨rfl, hB1⟩

set_option maxHeartbeats 2000000 in
theorem wneg_any (x : Int) (hx : In128 x) (w : World) :
    Calls Tryd.prog 25 #[.agg #[.int .i64 (hiN x), .int .u64 (loN x)]] w fun e w' => e = .returned (wideE (-x)) ∧ Below w.heap.size w w' := by
  have h192 := (in192_of hx hx).2
  have HE := Lib.hid (wideE_form (-x))
  have HN := Lib.hid (fun w => narrow_any (-x) h192 w)
  have hcs := @cell_set
  go_enter Tryd.func25, Tryd.ntmps25
  go_wp2_with fail
  refine (long_any x hx _).mono ?_
  rintro e w1 ⟨rfl, hb1⟩
  have A2 : T2 w1 (w.heap.size + 1) 0 0 := by
    have := (T2.new (w.alloc (.cells #[.int .i64 (hiN x), .int .u64 (loN x)] 24)) 0 0 24).below hb1
    rwa [World.size_alloc] at this
  have hB1 := since_step (since_alloc (since_alloc (Below.refl _ _) _) _) hb1
  clear hb1
  unfold sumV
  go_wp2_with fail
  refine (minus_any x _).mono ?_
  rintro e w2 ⟨rfl, hb2⟩
  have B2 := A2.below hb2
  have hB2 := since_step hB1 hb2
  clear hb2 A2 hB1
  unfold sumV
  go_wp2_with fail
  refine (HN.out _).mono ?_
  rintro e w3 ⟨rfl, hb3⟩
  have C2 := B2.below hb3
  have hB3 := since_step hB2 hb3
  clear hb3 B2 hB2
  obtain ⟨q0, q1, q2, q3, q4⟩ := C2
  go_wp2_with fail
  refine bodyPost_ret (v := .tuple #[.agg #[.int .i64 (eH (-x)), .int .u64 (eL (-x))], .int .i64 (eE (-x))]) ?_ rfl ?_
  · simp [results, Tryd.results25, go_sem, cell_set, q1, q2]
  · refine ⟨by rw [HE.out], ?_⟩
    repeat' (first | with_reducible exact hB3 | with_reducible refine Below.setCell ?_ ?_ _)
    all_goals first | (simp; done) | (simp; omega)

theorem fmt_12 (w : World) :
    Calls Tryd.prog 52 #[.int .u64 12, .int .i64 10] w fun e w' => e = .returned (.string ⟨#[49, 50]⟩) ∧ Below w.heap.size w w' := by
  have HS := Lib.hid (fun w => Tryd.internal_strconv_small 12 (by decide) w)
  rw [show (⟨(Lib.decDigits 12).toArray⟩ : ByteArray) = ⟨#[49, 50]⟩ from by rw [Lib.decDigits_two (by decide) (by decide)]; rfl] at HS
  go_enter Tryd.func52, Tryd.ntmps52
  go_wp2_with fail
  refine (HS.out _).mono ?_
  rintro e w1 ⟨rfl, rfl⟩
  go_wp2_with fail
  go_ret
  exact ⟨rfl, Below.refl _ _⟩
theorem sfmt_12 (w : World) :
    Calls Tryd.prog 48 #[.int .u64 12, .int .i64 10] w fun e w' => e = .returned (.string ⟨#[49, 50]⟩) ∧ Below w.heap.size w w' := by
  go_enter Tryd.func48, Tryd.ntmps48
  go_wp2_with fail
  refine (fmt_12 _).mono ?_
  rintro e w1 ⟨rfl, hb1⟩
  go_wp2_with fail
  go_ret
  exact ⟨rfl, hb1⟩

set_option maxHeartbeats 1000000 in
theorem text_12 (w : World) :
    Calls Tryd.prog 31 #[.agg #[.int .i64 (-1), .int .u64 18446744073709551604]] w fun e w' => e = .returned (.string ⟨#[45, 49, 50]⟩) ∧ Below w.heap.size w w' := by
  have HS := Lib.hid (fun w => size_nat (-12) (by unfold In128; omega) w)
  rw [show hiN (-12) = -1 from by decide, show loN (-12) = 18446744073709551604 from by decide, show (szH (-12) : Int) = 0 from by decide, show (szL (-12) : Int) = 12 from by decide] at HS
  go_enter Tryd.func31, Tryd.ntmps31
  go_wp2_with fail
  refine (HS.out _).mono ?_
  rintro e w1 ⟨rfl, hb1⟩
  obtain ⟨q0, q1, q2, q3, q4⟩ := (T2.new w (-1) 18446744073709551604 24).below hb1
  have hB1 := since_step (since_alloc (Below.refl _ w) _) hb1
  go_wp2_with fail
  go_loopw [3, 4, 5] (fun a b c wr => a = .int .u64 0 ∧ b = .int .u64 12 ∧ c = .string ⟨#[]⟩ ∧ wr = w1) (fun _ _ _ _ => 0)
  case atStart => exact ⟨rfl, rfl, rfl, rfl⟩
  case round =>
    obtain ⟨rfl, rfl, rfl, hw⟩ := hrel
    subst hw
    go_wp2_with fail
    refine (sfmt_12 _).mono ?_
    rintro e w2 ⟨rfl, hb2⟩
    obtain ⟨q0, q1, q2, q3, q4⟩ : T2 w2 w.heap.size (-1) 18446744073709551604 := (T2.below ⟨q0, q1, q2, q3, q4⟩ hb2)
    have hB2 := since_step hB1 hb2
    go_wp2_with fail
    go_ret
    exact ⟨rfl, hB2⟩

set_option maxHeartbeats 2000000 in
theorem lives01_any (w : World) :
    Calls Tryd.prog 15 #[] w fun e w' => e = .returned (.bool true) ∧ Below w.heap.size w w' := by
  have HM := Lib.hid (fun w => wmul_any (-3) 4 (by decide) (by decide) w)
  rw [show hiN (-3 * 4) = -1 from by decide, show loN (-3 * 4) = 18446744073709551604 from by decide] at HM
  have HI := Lib.hid (fun w => int_any (-12) (by unfold In128; omega) w)
  rw [show hiN (-12) = -1 from by decide, show loN (-12) = 18446744073709551604 from by decide, show fV (-12) = -12 from by decide, show fE (-12) = 0 from by decide] at HI
  have HS := Lib.hid (fun w => wsign_any (-12) (by unfold In128; omega) w)
  rw [show hiN (-12) = -1 from by decide, show loN (-12) = 18446744073709551604 from by decide, show cmpZ (-12) 0 = -1 from by decide] at HS
  go_enter Tryd.func15, Tryd.ntmps15
  go_wp2_with fail
  refine (HM.out _).mono ?_
  rintro e w1 ⟨rfl, hb1⟩
  have G := T2.new w1 (-1) 18446744073709551604 24
  have hB1 := since_alloc (since_step (Below.refl _ w) hb1) (.cells #[.int .i64 (-1), .int .u64 18446744073709551604] 24)
  clear hb1
  go_upto_region 2 with fail
  generalize w1.alloc (.cells #[.int .i64 (-1), .int .u64 18446744073709551604] 24) = W at *
  obtain ⟨q0, q1, q2, q3, q4⟩ := _root_.id G
  go_wp2_with fail
  refine (HI.out _).mono ?_
  rintro e w2 ⟨rfl, hb2⟩
  have hB2 := since_step hB1 hb2
  have G2 := G.below hb2
  obtain ⟨q0, q1, q2, q3, q4⟩ := _root_.id G2
  clear hb2
  go_wp2_with fail
  refine (text_12 _).mono ?_
  rintro e w3 ⟨rfl, hb3⟩
  have hB3 := since_step hB2 hb3
  have G3 := G2.below hb3
  obtain ⟨q0, q1, q2, q3, q4⟩ := _root_.id G3
  clear hb3
  go_wp2_with fail
  refine (HS.out _).mono ?_
  rintro e w4 ⟨rfl, hb4⟩
  have hB4 := since_step hB3 hb4
  go_wp2_with fail
  go_ret
  exact ⟨rfl, hB4⟩
end Go.Proofs.YtdhlbjagmnmjnaaDoor
