/-
  The walks of wide.divide and wide.Div.
-/
import Derived.Test.YtfagpdnckmaomaaDiv2
import Derived.Test.YtfagpdnckmaomaaWide7
namespace Go.Proofs.Ytfagpdnckmaomaa
open Go.ChangeShapes Go.WideShapes Go.ChangeAt Go.RowKit
set_option linter.unusedVariables false
set_option linter.unusedSimpArgs false


theorem wrap_quo' (u a q : Nat) (hq : q = u / a) (h : u < 18446744073709551616) : IntKind.u64.wrap ((u : Int) / (a : Int)) = (q : Int) := by
  rw [show (u : Int) / (a : Int) = ((u / a : Nat) : Int) from by simp, ← hq, IntKind.wrap_u64]
  have := Nat.div_le_self u a
  omega




/-- what a number without its sign, divided, is in its parts -/
theorem div_parts (x : Int) (hx : In128 x) (d : Nat) (hd0 : 0 < d) (hd : d < 9223372036854775808) (H L R : Nat) (hH : H = szH x / d) (hL : L = (szH x % d * 18446744073709551616 + szL x) / d)
    (hR : R = (szH x % d * 18446744073709551616 + szL x) % d) :
    wrap64 (H : Int) = hiN (((x.natAbs / d : Nat) : Int)) ∧ (L : Int) = loN (((x.natAbs / d : Nat) : Int)) ∧ topN (((x.natAbs / d : Nat) : Int)) = 0 ∧ R = x.natAbs % d ∧ R < d ∧ In128 (-((x.natAbs / d : Nat) : Int)) := by
  have hN : x.natAbs = szH x * 18446744073709551616 + szL x := by unfold szH szL; omega
  have hl : szL x < 18446744073709551616 := by unfold szL; omega
  have hn : x.natAbs ≤ 170141183460469231731687303715884105728 := by unfold In128 at hx; omega
  have hle := Nat.div_le_self x.natAbs d
  have hdm := Nat.div_add_mod (szH x) d
  have key : x.natAbs = d * (szH x / d * 18446744073709551616) + (szH x % d * 18446744073709551616 + szL x) := by
    rw [hN]
    conv => lhs; rw [← hdm]
    rw [Nat.add_mul, Nat.mul_assoc, Nat.add_assoc]
  have hq : x.natAbs / d = H * 18446744073709551616 + L := by
    rw [key, Nat.mul_add_div hd0, ← hH, ← hL]
  have hr : x.natAbs % d = R := by
    rw [key, Nat.mul_add_mod, ← hR]
  have hLl : L < 18446744073709551616 := by
    rw [hL, Nat.div_lt_iff_lt_mul hd0]
    have h5 : szH x % d + 1 ≤ d := Nat.mod_lt _ hd0
    have h6 := Nat.mul_le_mul_left 18446744073709551616 h5
    rw [Nat.mul_add] at h6
    omega
  refine ⟨?_, ?_, ?_, hr.symm, by rw [← hr]; exact Nat.mod_lt _ hd0, ?_⟩
  · rw [hq, wrap64_eq]; unfold hiN; congr 1; omega
  · rw [hq]; unfold loN; omega
  · unfold topN
    rw [IntKind.wrap_i64]
    generalize x.natAbs / d = q at *
    omega
  · unfold In128
    generalize x.natAbs / d = q at *
    omega
end Go.Proofs.Ytfagpdnckmaomaa
