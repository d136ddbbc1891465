/-
  The walks of layer 1, seventh part: Cmp, Sign, Neg; what lives() runs.
-/
import Derived.Test.YtpnaihnmmnjacaaWide7
import Derived.Test.YtpnaihnmmnjacaaDiv4
namespace Go.Proofs.Ytpnaihnmmnjacaa
open Go.ChangeShapes Go.WideShapes Go.ChangeAt Go.RowKit
set_option linter.unusedVariables false
set_option linter.unusedSimpArgs false

theorem in128_zero : In128 0 := by unfold In128; omega

set_option maxHeartbeats 2000000 in
theorem wcmp_any (x y : Int) (hx : In128 x) (hy : In128 y) (w : World) :
    Calls Try.prog 112 #[.agg #[.int .i64 (hiN x), .int .u64 (loN x)], .agg #[.int .i64 (hiN y), .int .u64 (loN y)]] w fun e w' => e = .returned (.int .i64 (cmpZ x y)) ∧ Below w.heap.size w w' := by
  have hxs := split_in hx
  have hys := split_in hy
  have lx := lo_nn x
  have ly := lo_nn y
  have lx2 := lo_lt x
  have ly2 := lo_lt y
  have hz : cmpZ x y = if hiN x = hiN y ∧ loN x = loN y then 0 else if hiN x < hiN y ∨ (hiN x = hiN y ∧ loN x < loN y) then -1 else 1 := by
    unfold cmpZ
    by_cases h1 : x = y
    · subst h1; simp
    · have hne : ¬ (hiN x = hiN y ∧ loN x = loN y) := fun h => h1 (parts_inj hx hy h.1 h.2)
      rw [if_neg h1, if_neg hne]
      by_cases h2 : x < y
      · rw [if_pos h2, if_pos (show hiN x < hiN y ∨ (hiN x = hiN y ∧ loN x < loN y) by omega)]
      · rw [if_neg h2, if_neg (show ¬ (hiN x < hiN y ∨ (hiN x = hiN y ∧ loN x < loN y)) by omega)]
  have HZ := Lib.hid hz
  clear hz hxs hys lx ly lx2 ly2
  generalize hiN x = a at *
  generalize hiN y = b at *
  generalize loN x = c at *
  generalize loN y = d at *
  have P1 := (T2.new w a c 62).alloc (.cells #[.int .i64 b, .int .u64 d] 62)
  have P2 : T2 ((w.alloc (.cells #[.int .i64 a, .int .u64 c] 62)).alloc (.cells #[.int .i64 b, .int .u64 d] 62)) (w.heap.size + 1) b d := by
    have := T2.new (w.alloc (.cells #[.int .i64 a, .int .u64 c] 62)) b d 62
    rwa [World.size_alloc] at this
  have hB := since_alloc (since_alloc (Below.refl _ w) (.cells #[.int .i64 a, .int .u64 c] 62)) (.cells #[.int .i64 b, .int .u64 d] 62)
  go_enter Try.func112, Try.ntmps112
  go_upto_region 1 with fail
  generalize (w.alloc (.cells #[.int .i64 a, .int .u64 c] 62)).alloc (.cells #[.int .i64 b, .int .u64 d] 62) = W at *
  obtain ⟨p0, p1, p2, p3, p4⟩ := P1
  obtain ⟨q0, q1, q2, q3, q4⟩ := P2
  by_cases h1 : a = b
  · subst h1
    by_cases h2 : c = d
    · subst h2
      go_wp2
      go_ret
      exact ⟨by rw [HZ.out]; simp, hB⟩
    · have k1 : (c == d) = false := by simp; exact h2
      have k2 : decide (a < a) = false := by simp
      by_cases h3 : c < d
      · have k3 : decide (c < d) = true := decide_eq_true h3
        go_wp2
        go_ret
        exact ⟨by rw [HZ.out]; simp; omega, hB⟩
      · have k3 : decide (c < d) = false := decide_eq_false h3
        go_wp2
        go_ret
        exact ⟨by rw [HZ.out]; simp; omega, hB⟩
  · have k1 : (a == b) = false := by simp; exact h1
    by_cases h3 : a < b
    · have k3 : decide (a < b) = true := decide_eq_true h3
      go_wp2
      go_ret
      exact ⟨by rw [HZ.out]; simp; omega, hB⟩
    · have k3 : decide (a < b) = false := decide_eq_false h3
      go_wp2
      go_ret
      exact ⟨by rw [HZ.out]; simp; omega, hB⟩


set_option maxHeartbeats 2000000 in
theorem wneg_any (x : Int) (hx : In128 x) (w : World) :
    Calls Try.prog 124 #[.agg #[.int .i64 (hiN x), .int .u64 (loN x)]] w fun e w' => e = .returned (wideE (-x)) ∧ Below w.heap.size w w' := by
  have h192 := (in192_of hx hx).2
  have HE := Lib.hid (wideE_form (-x))
  have HN := Lib.hid (fun w => narrow_any (-x) h192 w)
  have hcs := @cell_set
  go_enter Try.func124, Try.ntmps124
  go_wp2_with fail
  refine (long_any x hx _).mono ?_
  rintro e w1 ⟨rfl, hb1⟩
  have A2 : T2 w1 (w.heap.size + 1) 0 0 := by
    have := (T2.new (w.alloc (.cells #[.int .i64 (hiN x), .int .u64 (loN x)] 62)) 0 0 62).below hb1
    rwa [World.size_alloc] at this
  have hB1 := since_step (since_alloc (since_alloc (Below.refl _ _) _) _) hb1
  clear hb1
  unfold sumV
  go_wp2_with fail
  refine (minus_any x _).mono ?_
  rintro e w2 ⟨rfl, hb2⟩
  have B2 := A2.below hb2
  have hB2 := since_step hB1 hb2
  clear hb2 A2 hB1
  unfold sumV
  go_wp2_with fail
  refine (HN.out _).mono ?_
  rintro e w3 ⟨rfl, hb3⟩
  have C2 := B2.below hb3
  have hB3 := since_step hB2 hb3
  clear hb3 B2 hB2
  obtain ⟨q0, q1, q2, q3, q4⟩ := C2
  go_wp2_with fail
  refine bodyPost_ret (v := .tuple #[.agg #[.int .i64 (eH (-x)), .int .u64 (eL (-x))], .int .i64 (eE (-x))]) ?_ rfl ?_
  · simp [results, Try.results124, go_sem, cell_set, q1, q2]
  · refine ⟨by rw [HE.out], ?_⟩
    repeat' (first | with_reducible exact hB3 | with_reducible refine Below.setCell ?_ ?_ _)
    all_goals first | (simp; done) | (simp; omega)



end Go.Proofs.Ytpnaihnmmnjacaa
