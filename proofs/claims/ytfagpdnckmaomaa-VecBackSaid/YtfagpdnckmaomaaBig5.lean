/-
  The walks of the document's numbers without bounds, fifth part: Mul.
-/
import Derived.Test.YtfagpdnckmaomaaBig4
import Derived.Deep.DeepCutAuto
namespace Go.Proofs.Ytfagpdnckmaomaa
open Go.ChangeShapes Go.WideShapes Go.ChangeAt Go.RowKit
set_option linter.unusedVariables false
set_option linter.unusedSimpArgs false

theorem mul_sign {s t : Bool} {x y : Int} {p q v : Nat} (hx : x = if s = true then -(p : Int) else (p : Int)) (hy : y = if t = true then -(q : Int) else (q : Int)) (hv : v = p * q) : x * y = if (s != t) = true then -(v : Int) else (v : Int) := by
  subst hx; subst hy; subst hv
  cases s <;> cases t <;> simp [Int.neg_mul, Int.mul_neg]
theorem bin_cons0 {R : List Nat} (h : Bin R) : Bin (0 :: R) := fun b hb => by
  rcases List.mem_cons.1 hb with rfl | h'
  · omega
  · exact h b h'
theorem len_mul {w w1 w2 : World} {sx sy s : Bool} {A B C : Option Addr} {na nb n ca cb c : Nat} {x y : Int} (hx : BigAt w sx A na ca x) (hy : BigAt w1 sy B nb cb y) (hz : BigAt w2 s C n c (x * y)) : n ≤ na + nb := by
  have h1 := hx.len.1 (Nat.le_refl na)
  have h2 := hy.len.1 (Nat.le_refl nb)
  rw [hz.len, Int.natAbs_mul, Nat.pow_add]
  exact Nat.mul_lt_mul'' h1 h2

end Go.Proofs.Ytfagpdnckmaomaa
