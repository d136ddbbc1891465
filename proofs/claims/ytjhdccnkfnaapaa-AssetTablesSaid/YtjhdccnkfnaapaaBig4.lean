/-
  The walks of the document's numbers without bounds, fourth part: Sub, Cmp, Of, Within, Fits.
-/
import Derived.Test.YtjhdccnkfnaapaaBig3
namespace Go.Proofs.Ytjhdccnkfnaapaa
open Go.ChangeShapes Go.WideShapes Go.ChangeAt Go.RowKit
set_option linter.unusedVariables false
set_option linter.unusedSimpArgs false

/-- what a call answers that makes a number: the number, in new memory -/
def bigR (w w' : World) (e : Ending) (z : Int) : Prop := ∃ s A n c, e = .returned (.agg #[.bool s, .slice A n c]) ∧ Fr w.heap.size A n ∧ BigAt w' s A n c z
theorem bigR.of {w w' : World} {e : Ending} {z : Int} (h : ∃ A n c, e = .returned (.agg #[.bool (decide (z < 0)), .slice A n c]) ∧ Fr w.heap.size A n ∧ BigAt w' (decide (z < 0)) A n c z) : bigR w w' e z := ⟨_, h⟩
section
variable {w w1 w2 : World} {sx sy s : Bool} {A B C : Option Addr} {na nb n ca cb c : Nat} {x y z : Int}
theorem pow_le_max (a b : Nat) : 2 ^ a + 2 ^ b ≤ 2 ^ (max a b + 1) := by
  have h1 : 2 ^ a ≤ 2 ^ max a b := Nat.pow_le_pow_right (by omega) (by omega)
  have h2 : 2 ^ b ≤ 2 ^ max a b := Nat.pow_le_pow_right (by omega) (by omega)
  rw [Nat.pow_succ]
  omega
theorem len_add (hx : BigAt w sx A na ca x) (hy : BigAt w1 sy B nb cb y) (hz : BigAt w2 s C n c (x + y)) : n ≤ max na nb + 1 := by
  have h1 := hx.len.1 (Nat.le_refl na)
  have h2 := hy.len.1 (Nat.le_refl nb)
  rw [hz.len]
  have := pow_le_max na nb
  omega
end


/-- how two numbers stand -/
def cmpZ (x y : Int) : Int := if x = y then 0 else if x < y then -1 else 1


theorem norm_plus {a b out : List Nat} (ha : Norm a) (hb : Norm b) (ho : Bin out) (hv : bval out = bval a + bval b) (hl : out.length = max a.length b.length ∨ (out.length = max a.length b.length + 1 ∧ 2 ^ max a.length b.length ≤ bval out)) : Norm out := by
  rcases hl with hl | ⟨hl, hge⟩
  · rcases Nat.eq_zero_or_pos out.length with h0 | h0
    · rw [List.eq_nil_of_length_eq_zero h0]; exact Norm.nil
    · obtain ⟨k, hk⟩ : ∃ k, out.length = k + 1 := ⟨out.length - 1, by omega⟩
      refine norm_of_ge ho hk ?_
      rcases Nat.le_total a.length b.length with h | h
      · have := hb.ge (k := k) (by omega)
        omega
      · have := ha.ge (k := k) (by omega)
        omega
  · exact norm_of_ge ho hl hge



/-- a number of m bits and a sign -/
def inN (x : Int) (m : Nat) : Prop := (if x < 0 then (x + 1).natAbs else x.natAbs) < 2 ^ m
instance (x : Int) (m : Nat) : Decidable (inN x m) := by unfold inN; infer_instance
theorem inN_63 (x : Int) : inN x 63 ↔ (-9223372036854775808 ≤ x ∧ x ≤ 9223372036854775807) := by
  unfold inN
  rw [show (2 : Nat) ^ 63 = 9223372036854775808 from by decide]
  split <;> omega
theorem inN_127 (x : Int) : inN x 127 ↔ (-170141183460469231731687303715884105728 ≤ x ∧ x ≤ 170141183460469231731687303715884105727) := by
  unfold inN
  rw [show (2 : Nat) ^ 127 = 170141183460469231731687303715884105728 from by decide]
  split <;> omega


end Go.Proofs.Ytjhdccnkfnaapaa
