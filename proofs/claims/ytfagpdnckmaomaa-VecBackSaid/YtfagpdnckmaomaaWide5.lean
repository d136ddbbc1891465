/-
  The walks of layer 1, fifth part: Times, Mul.
-/
import Derived.Test.YtfagpdnckmaomaaWide4
import Derived.Test.YtfagpdnckmaomaaShelf
namespace Go.Proofs.Ytfagpdnckmaomaa
open Go.ChangeShapes Go.WideShapes Go.ChangeAt Go.RowKit
set_option linter.unusedVariables false
set_option linter.unusedSimpArgs false


/-- a number without its sign, in two parts -/
def szH (x : Int) : Nat := x.natAbs / 18446744073709551616
def szL (x : Int) : Nat := x.natAbs % 18446744073709551616

/-- the three parts of a product without signs -/
theorem times_parts (X K H L P Q m c t : Int) (low mid carry : Int) (hX : X = H * 18446744073709551616 + L) (hP : P = H * K) (hQ : Q = L * K)
    (q : Q = carry * 18446744073709551616 + low) (ql : 0 ≤ low ∧ low < 18446744073709551616) (p : P = t * 18446744073709551616 + mid) (pl : 0 ≤ mid ∧ mid < 18446744073709551616)
    (hm : mid + carry + 0 = m + 18446744073709551616 * c) (ml : 0 ≤ m ∧ m < 18446744073709551616) :
    loN (X * K) = low ∧ hiN (X * K) = IntKind.i64.wrap m ∧ topN (X * K) = IntKind.i64.wrap (IntKind.u64.wrap (t + c)) := by
  have e : X * K = P * 18446744073709551616 + Q := by rw [hX, hP, hQ, Int.add_mul]; congr 1; rw [Int.mul_assoc, Int.mul_comm 18446744073709551616 K, ← Int.mul_assoc]
  rw [e]
  clear e hX hP hQ
  have e2 : P * 18446744073709551616 + Q = (t + c) * 340282366920938463463374607431768211456 + m * 18446744073709551616 + low := by omega
  rw [e2]
  clear e2 q p
  generalize t + c = T
  unfold loN hiN topN
  refine ⟨by omega, ?_, ?_⟩
  · rw [IntKind.wrap_i64, IntKind.wrap_i64]; omega
  · rw [IntKind.wrap_i64, IntKind.wrap_i64, IntKind.wrap_u64]; omega

theorem mul_bound (x n : Int) (hx : In128 x) (hn : In64 n) : In192 (x * n) := by
  unfold In128 at hx
  unfold In64 at hn
  have h : (x * n).natAbs ≤ 170141183460469231731687303715884105728 * 9223372036854775808 := by
    rw [Int.natAbs_mul]
    exact Nat.mul_le_mul (by omega) (by omega)
  unfold In192
  omega
theorem signs (x n : Int) : (if (decide (x < 0)) = (decide (n < 0)) then ((x.natAbs : Int) * (n.natAbs : Int)) else -((x.natAbs : Int) * (n.natAbs : Int))) = x * n := by
  by_cases h1 : x < 0 <;> by_cases h2 : n < 0
  · have e1 : (x.natAbs : Int) = -x := by omega
    have e2 : (n.natAbs : Int) = -n := by omega
    rw [if_pos (by simp [h1, h2]), e1, e2, Int.neg_mul_neg]
  · have e1 : (x.natAbs : Int) = -x := by omega
    have e2 : (n.natAbs : Int) = n := by omega
    rw [if_neg (by simp [h1, h2]), e1, e2, Int.neg_mul, Int.neg_neg]
  · have e1 : (x.natAbs : Int) = x := by omega
    have e2 : (n.natAbs : Int) = -n := by omega
    rw [if_neg (by simp [h1, h2]), e1, e2, Int.mul_neg, Int.neg_neg]
  · have e1 : (x.natAbs : Int) = x := by omega
    have e2 : (n.natAbs : Int) = n := by omega
    rw [if_pos (by simp [h1, h2]), e1, e2]

/-- what a sum of 192 bits is as one of 128, part by part: none of it where it is none -/
def eH (z : Int) : Int := if In128 z then hiN z else 0
def eL (z : Int) : Int := if In128 z then loN z else 0
def eE (z : Int) : Int := if In128 z then 0 else 7
theorem wideE_form (z : Int) : wideE z = .tuple #[.agg #[.int .i64 (eH z), .int .u64 (eL z)], .int .i64 (eE z)] := by
  unfold wideE eH eL eE
  split <;> rfl
theorem narrow_any (z : Int) (h : In192 z) (w : World) :
    Calls Try.prog 112 #[.agg #[.int .i64 (hiN z), .int .u64 (loN z), .int .i64 (topN z)]] w fun e w' => e = .returned (.tuple #[.agg #[.int .i64 (eH z), .int .u64 (eL z)], .int .i64 (eE z)]) ∧ Below w.heap.size w w' := by
  by_cases hin : In128 z
  · refine (narrow_yes z hin w).mono fun e w' ⟨he, hw⟩ => ⟨?_, hw⟩
    rw [he, ← wideE_form, wideE_yes hin]
  · refine (narrow_no z h hin w).mono fun e w' ⟨he, hw⟩ => ⟨?_, hw⟩
    rw [he, ← wideE_form, wideE_no hin]

end Go.Proofs.Ytfagpdnckmaomaa
