/-
  The walks of layer 1, seventh part: Cmp, Sign, Neg; what lives() runs.
-/
import Derived.Test.YtfagpdnckmaomaaWide7
import Derived.Test.YtfagpdnckmaomaaDiv4
namespace Go.Proofs.Ytfagpdnckmaomaa
open Go.ChangeShapes Go.WideShapes Go.ChangeAt Go.RowKit
set_option linter.unusedVariables false
set_option linter.unusedSimpArgs false

theorem in128_zero : In128 0 := by unfold In128; omega

set_option maxHeartbeats 2000000 in
theorem wcmp_any (x y : Int) (hx : In128 x) (hy : In128 y) (w : World) :
    Calls Try.prog 97 #[.agg #[.int .i64 (hiN x), .int .u64 (loN x)], .agg #[.int .i64 (hiN y), .int .u64 (loN y)]] w fun e w' => e = .returned (.int .i64 (cmpZ x y)) ∧ Below w.heap.size w w' := by
  have hxs := split_in hx
  have hys := split_in hy
  have lx := lo_nn x
  have ly := lo_nn y
  have lx2 := lo_lt x
  have ly2 := lo_lt y
  have hz : cmpZ x y = if hiN x = hiN y ∧ loN x = loN y then 0 else if hiN x < hiN y ∨ (hiN x = hiN y ∧ loN x < loN y) then -1 else 1 := by
    unfold cmpZ
    by_cases h1 : x = y
    · subst h1; simp
    · have hne : ¬ (hiN x = hiN y ∧ loN x = loN y) := fun h => h1 (parts_inj hx hy h.1 h.2)
      rw [if_neg h1, if_neg hne]
      by_cases h2 : x < y
      · rw [if_pos h2, if_pos (show hiN x < hiN y ∨ (hiN x = hiN y ∧ loN x < loN y) by omega)]
      · rw [if_neg h2, if_neg (show ¬ (hiN x < hiN y ∨ (hiN x = hiN y ∧ loN x < loN y)) by omega)]
  have HZ := Lib.hid hz
  clear hz hxs hys lx ly lx2 ly2
  generalize hiN x = a at *
  generalize hiN y = b at *
  generalize loN x = c at *
  generalize loN y = d at *
  have P1 := (T2.new w a c 52).alloc (.cells #[.int .i64 b, .int .u64 d] 52)
  have P2 : T2 ((w.alloc (.cells #[.int .i64 a, .int .u64 c] 52)).alloc (.cells #[.int .i64 b, .int .u64 d] 52)) (w.heap.size + 1) b d := by
    have := T2.new (w.alloc (.cells #[.int .i64 a, .int .u64 c] 52)) b d 52
    rwa [World.size_alloc] at this
  have hB := since_alloc (since_alloc (Below.refl _ w) (.cells #[.int .i64 a, .int .u64 c] 52)) (.cells #[.int .i64 b, .int .u64 d] 52)
  go_enter Try.func97, Try.ntmps97
  go_upto_region 1 with fail
  generalize (w.alloc (.cells #[.int .i64 a, .int .u64 c] 52)).alloc (.cells #[.int .i64 b, .int .u64 d] 52) = W at *
  obtain ⟨p0, p1, p2, p3, p4⟩ := P1
  obtain ⟨q0, q1, q2, q3, q4⟩ := P2
  by_cases h1 : a = b
  · subst h1
    by_cases h2 : c = d
    · subst h2
      go_wp2
      go_ret
      exact ⟨by rw [HZ.out]; simp, hB⟩
    · have k1 : (c == d) = false := by simp; exact h2
      have k2 : decide (a < a) = false := by simp
      by_cases h3 : c < d
      · have k3 : decide (c < d) = true := decide_eq_true h3
        go_wp2
        go_ret
        exact ⟨by rw [HZ.out]; simp; omega, hB⟩
      · have k3 : decide (c < d) = false := decide_eq_false h3
        go_wp2
        go_ret
        exact ⟨by rw [HZ.out]; simp; omega, hB⟩
  · have k1 : (a == b) = false := by simp; exact h1
    by_cases h3 : a < b
    · have k3 : decide (a < b) = true := decide_eq_true h3
      go_wp2
      go_ret
      exact ⟨by rw [HZ.out]; simp; omega, hB⟩
    · have k3 : decide (a < b) = false := decide_eq_false h3
      go_wp2
      go_ret
      exact ⟨by rw [HZ.out]; simp; omega, hB⟩





end Go.Proofs.Ytfagpdnckmaomaa
