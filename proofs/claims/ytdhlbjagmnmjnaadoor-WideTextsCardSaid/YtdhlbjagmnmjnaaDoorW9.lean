/-
  Numerals in tens: chunks of digits.
-/
import Derived.Test.YtdhlbjagmnmjnaaDoorW5
import Derived.Lib.ItoaNum
namespace Go.Proofs.YtdhlbjagmnmjnaaDoor
open Go.ChangeShapes Go.WideShapes Go.ChangeAt Go.RowKit
set_option linter.unusedVariables false
set_option linter.unusedSimpArgs false

/-- k digits of a number, noughts ahead -/
def padD : Nat → Nat → List UInt8
  | 0, _ => []
  | k + 1, r => padD k (r / 10) ++ [UInt8.ofNat (48 + r % 10)]
theorem padD_zero (k : Nat) : padD k 0 = List.replicate k 48 := by
  induction k with
  | zero => rfl
  | succ k ih => rw [padD, show 0 / 10 = 0 from rfl, ih, show UInt8.ofNat (48 + 0 % 10) = 48 from rfl, List.replicate_succ']
theorem dec_big {u : Nat} (h : ¬ u < 10) : Lib.decDigits u = Lib.decDigits (u / 10) ++ [UInt8.ofNat (48 + u % 10)] := by
  rw [Lib.decDigits, dif_neg h]
theorem dec_chunk (k : Nat) : ∀ (q r : Nat), 0 < q → r < 10 ^ k → Lib.decDigits (q * 10 ^ k + r) = Lib.decDigits q ++ padD k r := by
  induction k with
  | zero =>
    intro q r hq hr
    obtain rfl : r = 0 := by simpa using hr
    simp [padD]
  | succ k ih =>
    intro q r hq hr
    have hp : 0 < 10 ^ k := Nat.pow_pos (by omega)
    have h1 : q * 10 ^ (k + 1) + r = (q * 10 ^ k + r / 10) * 10 + r % 10 := by
      rw [Nat.pow_succ, Nat.add_mul, ← Nat.mul_assoc]
      omega
    have h2 : 10 ≤ q * 10 ^ (k + 1) + r := by
      have h3 : 1 * 10 ^ (k + 1) ≤ q * 10 ^ (k + 1) := Nat.mul_le_mul_right _ hq
      rw [Nat.pow_succ] at h3 ⊢
      omega
    rw [dec_big (by omega), h1]
    rw [show ((q * 10 ^ k + r / 10) * 10 + r % 10) / 10 = q * 10 ^ k + r / 10 from by omega, show ((q * 10 ^ k + r / 10) * 10 + r % 10) % 10 = r % 10 from by omega]
    rw [ih q (r / 10) hq (by rw [Nat.pow_succ] at hr; omega), padD, List.append_assoc]
theorem dec_len_pos (u : Nat) : 0 < (Lib.decDigits u).length := by
  by_cases h : u < 10
  · rw [Lib.decDigits_one h]; simp
  · rw [dec_big h]; simp
theorem pad_dec (k : Nat) : ∀ r, r < 10 ^ (k + 1) → (Lib.decDigits r).length ≤ k + 1 ∧ padD (k + 1) r = List.replicate (k + 1 - (Lib.decDigits r).length) 48 ++ Lib.decDigits r := by
  induction k with
  | zero =>
    intro r hr
    have h : r < 10 := by simpa using hr
    rw [Lib.decDigits_one h]
    refine ⟨by simp, ?_⟩
    simp only [padD, List.nil_append, List.length_singleton]
    rw [Nat.mod_eq_of_lt h]
    rfl
  | succ k ih =>
    intro r hr
    by_cases h : r < 10
    · rw [Lib.decDigits_one h]
      refine ⟨by simp, ?_⟩
      rw [padD, show r / 10 = 0 from by omega, padD_zero, Nat.mod_eq_of_lt h]
      simp
    · obtain ⟨h1, h2⟩ := ih (r / 10) (by rw [Nat.pow_succ] at hr; omega)
      rw [dec_big h, padD, h2]
      refine ⟨by simp; omega, ?_⟩
      rw [List.length_append, List.length_singleton, List.append_assoc, show k + 1 + 1 - ((Lib.decDigits (r / 10)).length + 1) = k + 1 - (Lib.decDigits (r / 10)).length from by omega]
/-- what stands behind a division by ten to the nineteenth -/
theorem dec_step (M : Nat) (h : 10000000000000000000 ≤ M) (T : List UInt8) :
    Lib.decDigits M ++ T = Lib.decDigits (M / 10000000000000000000) ++ (List.replicate (19 - (Lib.decDigits (M % 10000000000000000000)).length) 48 ++ Lib.decDigits (M % 10000000000000000000) ++ T) ∧ (Lib.decDigits (M % 10000000000000000000)).length ≤ 19 := by
  have hm : M % 10000000000000000000 < 10 ^ (18 + 1) := Nat.mod_lt _ (by decide)
  obtain ⟨h1, h2⟩ := pad_dec 18 _ hm
  have hq : 0 < M / 10000000000000000000 := Nat.div_pos h (by decide)
  have h3 := dec_chunk 19 (M / 10000000000000000000) (M % 10000000000000000000) hq hm
  have h4 : M / 10000000000000000000 * 10 ^ 19 + M % 10000000000000000000 = M := by
    rw [Nat.mul_comm]; exact Nat.div_add_mod M _
  rw [h4, h2] at h3
  refine ⟨?_, h1⟩
  rw [h3, List.append_assoc]
end Go.Proofs.YtdhlbjagmnmjnaaDoor
