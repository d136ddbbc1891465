/-
  Layer 22, second part: costs (laid by gen_block2.py).
-/
import Derived.Test.YtfagpdnckmaomaaBlock
import Derived.Test.YtfagpdnckmaomaaWide7
import Derived.Test.YtfagpdnckmaomaaFix
namespace Go.Proofs.Ytfagpdnckmaomaa
open Go.ChangeShapes Go.WideShapes Go.ChangeAt Go.RowKit
set_option linter.unusedVariables false
set_option linter.unusedSimpArgs false

def costL (l : List Fi) : Int := (l.map fun f => f.qty * f.pr).sum
def qtyL (l : List Fi) : Int := (l.map fun f => f.qty).sum
theorem costL_take (l : List Fi) (k : Nat) (h : k < l.length) : costL (l.take (k + 1)) = costL (l.take k) + l[k].qty * l[k].pr := by
  unfold costL; rw [take_snoc l k h, List.map_append, List.sum_append]; simp
theorem qtyL_take (l : List Fi) (k : Nat) (h : k < l.length) : qtyL (l.take (k + 1)) = qtyL (l.take k) + l[k].qty := by
  unfold qtyL; rw [take_snoc l k h, List.map_append, List.sum_append]; simp
theorem okF_bd {f : Fi} (h : okF f = true) : 0 ≤ f.pr ∧ f.pr ≤ 2147483647 ∧ f.qty ≠ 0 ∧ -1099511627776 ≤ f.qty ∧ f.qty ≤ 1099511627776 := by
  unfold okF inQ at h
  simp only [Bool.and_eq_true, decide_eq_true_eq, Bool.not_eq_true', beq_eq_false_iff_ne] at h
  exact ⟨h.1.1.1, h.1.1.2, h.1.2, h.2.1, h.2.2⟩
theorem prod_bd {q p : Int} (h1 : 0 ≤ p) (h2 : p ≤ 2147483647) (h3 : -1099511627776 ≤ q) (h4 : q ≤ 1099511627776) : -2361183241434822606848 ≤ q * p ∧ q * p ≤ 2361183241434822606848 := by
  have a1 : q * p ≤ 1099511627776 * p := Int.mul_le_mul_of_nonneg_right h4 h1
  have a2 : -1099511627776 * p ≤ q * p := Int.mul_le_mul_of_nonneg_right h3 h1
  omega
theorem costL_bd : ∀ (l : List Fi), (∀ f ∈ l, okF f = true) → -(l.length : Int) * 2361183241434822606848 ≤ costL l ∧ costL l ≤ (l.length : Int) * 2361183241434822606848
  | [], _ => by simp [costL]
  | f :: l, h => by
    have ih := costL_bd l (fun g hg => h g (List.mem_cons_of_mem _ hg))
    obtain ⟨h1, h2, _, h3, h4⟩ := okF_bd (h f List.mem_cons_self)
    have := prod_bd h1 h2 h3 h4
    have e : costL (f :: l) = f.qty * f.pr + costL l := by simp [costL]
    rw [e]
    simp only [List.length_cons]
    omega
theorem qtyL_bd : ∀ (l : List Fi), (∀ f ∈ l, okF f = true) → -(l.length : Int) * 1099511627776 ≤ qtyL l ∧ qtyL l ≤ (l.length : Int) * 1099511627776
  | [], _ => by simp [qtyL]
  | f :: l, h => by
    have ih := qtyL_bd l (fun g hg => h g (List.mem_cons_of_mem _ hg))
    obtain ⟨h1, h2, _, h3, h4⟩ := okF_bd (h f List.mem_cons_self)
    have e : qtyL (f :: l) = f.qty + qtyL l := by simp [qtyL]
    rw [e]
    simp only [List.length_cons]
    omega
theorem costL_in {l : List Fi} (h : ∀ f ∈ l, okF f = true) (hl : l.length ≤ 1000) : In128 (costL l) := by
  have := costL_bd l h
  unfold In128
  omega

end Go.Proofs.Ytfagpdnckmaomaa
