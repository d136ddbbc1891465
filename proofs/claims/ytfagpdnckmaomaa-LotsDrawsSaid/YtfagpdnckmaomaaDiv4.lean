/-
  The walk of wide.Div by a number above 0.
-/
import Derived.Test.YtfagpdnckmaomaaDiv3
namespace Go.Proofs.Ytfagpdnckmaomaa
open Go.ChangeShapes Go.WideShapes Go.ChangeAt Go.RowKit
set_option linter.unusedVariables false
set_option linter.unusedSimpArgs false

theorem floor_pos (x : Int) (d : Nat) (h : 0 ≤ x) : x / (d : Int) = ((x.natAbs / d : Nat) : Int) ∧ x % (d : Int) = ((x.natAbs % d : Nat) : Int) := by
  obtain ⟨n, rfl⟩ := Int.eq_ofNat_of_zero_le h
  exact ⟨by simp, by simp⟩
theorem floor_zero (x : Int) (d : Nat) (hd : 0 < d) (h : x < 0) (hr : x.natAbs % d = 0) : x / (d : Int) = -((x.natAbs / d : Nat) : Int) ∧ x % (d : Int) = 0 := by
  have h1 := Nat.div_add_mod x.natAbs d
  rw [hr, Nat.add_zero] at h1
  have hx : x = -((x.natAbs / d : Nat) : Int) * (d : Int) := by
    have : ((d * (x.natAbs / d) : Nat) : Int) = (x.natAbs : Int) := by rw [h1]
    rw [Int.natCast_mul] at this
    rw [Int.neg_mul, Int.mul_comm, this]; omega
  generalize x.natAbs / d = q at *
  refine ⟨?_, ?_⟩
  · rw [hx, Int.mul_ediv_cancel _ (by omega)]
  · rw [hx, Int.mul_emod_left]
theorem floor_neg (x : Int) (d : Nat) (hd : 0 < d) (h : x < 0) (hr : 0 < x.natAbs % d) : x / (d : Int) = -((x.natAbs / d : Nat) : Int) + -1 ∧ x % (d : Int) = (d : Int) - ((x.natAbs % d : Nat) : Int) := by
  have h1 := Nat.div_add_mod x.natAbs d
  have h2 := Nat.mod_lt x.natAbs hd
  have hx : x = ((d : Int) - ((x.natAbs % d : Nat) : Int)) + (-((x.natAbs / d : Nat) : Int) + -1) * (d : Int) := by
    have : ((d * (x.natAbs / d) + x.natAbs % d : Nat) : Int) = (x.natAbs : Int) := by rw [h1]
    rw [Int.natCast_add, Int.natCast_mul] at this
    rw [Int.add_mul, Int.neg_mul, Int.mul_comm ((x.natAbs / d : Nat) : Int)]; omega
  generalize x.natAbs / d = q at *
  generalize x.natAbs % d = r at *
  clear h1
  refine ⟨?_, ?_⟩
  · conv => lhs; rw [hx]
    rw [Int.add_mul_ediv_right _ _ (by omega), Int.ediv_eq_zero_of_lt (by omega) (by omega)]
    omega
  · conv => lhs; rw [hx]
    rw [Int.add_mul_emod_self_right, Int.emod_eq_of_lt (by omega) (by omega)]

end Go.Proofs.Ytfagpdnckmaomaa
