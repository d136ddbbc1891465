/-
  Layer 22, third part: Average (laid by gen_block3.py).
-/
import Derived.Test.YtfagpdnckmaomaaBlock2
import Derived.Test.YtfagpdnckmaomaaW1
namespace Go.Proofs.Ytfagpdnckmaomaa
open Go.ChangeShapes Go.WideShapes Go.ChangeAt Go.RowKit
set_option linter.unusedVariables false
set_option linter.unusedSimpArgs false

theorem results_tmp4 {fn : Func} {t u v x : Tmp} (h : fn.results = #[.tmp t, .tmp u, .tmp v, .tmp x]) (tmps : Array Value) (P : Program) (w : World) :
    (results fn tmps).run P w = .ok (.tuple #[tmps.getD t undef, tmps.getD u undef, tmps.getD v undef, tmps.getD x undef]) w := by
  simp [results, h]
theorem cost_pos (lo hi : Int) : ∀ (l : List Fi), (∀ f ∈ l, 0 < f.qty ∧ lo ≤ f.pr ∧ f.pr ≤ hi) → (l.length : Int) ≤ qtyL l ∧ lo * qtyL l ≤ costL l ∧ costL l ≤ hi * qtyL l
  | [], _ => by simp [qtyL, costL]
  | f :: l, h => by
    obtain ⟨i1, i2, i3⟩ := cost_pos lo hi l (fun g hg => h g (List.mem_cons_of_mem _ hg))
    obtain ⟨h1, h2, h3⟩ := h f List.mem_cons_self
    have e : qtyL (f :: l) = f.qty + qtyL l := by simp [qtyL]
    have e2 : costL (f :: l) = f.qty * f.pr + costL l := by simp [costL]
    have a1 : lo * f.qty ≤ f.pr * f.qty := Int.mul_le_mul_of_nonneg_right h2 (by omega)
    have a2 : f.pr * f.qty ≤ hi * f.qty := Int.mul_le_mul_of_nonneg_right h3 (by omega)
    have c : f.qty * f.pr = f.pr * f.qty := Int.mul_comm _ _
    rw [e, e2, Int.mul_add, Int.mul_add, c]
    simp only [List.length_cons]
    omega
theorem cost_neg (lo hi : Int) : ∀ (l : List Fi), (∀ f ∈ l, f.qty < 0 ∧ lo ≤ f.pr ∧ f.pr ≤ hi) → qtyL l ≤ -(l.length : Int) ∧ hi * qtyL l ≤ costL l ∧ costL l ≤ lo * qtyL l
  | [], _ => by simp [qtyL, costL]
  | f :: l, h => by
    obtain ⟨i1, i2, i3⟩ := cost_neg lo hi l (fun g hg => h g (List.mem_cons_of_mem _ hg))
    obtain ⟨h1, h2, h3⟩ := h f List.mem_cons_self
    have e : qtyL (f :: l) = f.qty + qtyL l := by simp [qtyL]
    have e2 : costL (f :: l) = f.qty * f.pr + costL l := by simp [costL]
    have a1 : lo * -f.qty ≤ f.pr * -f.qty := Int.mul_le_mul_of_nonneg_right h2 (by omega)
    have a2 : f.pr * -f.qty ≤ hi * -f.qty := Int.mul_le_mul_of_nonneg_right h3 (by omega)
    have c : f.qty * f.pr = f.pr * f.qty := Int.mul_comm _ _
    rw [Int.mul_neg, Int.mul_neg] at a1 a2
    rw [e, e2, Int.mul_add, Int.mul_add, c]
    simp only [List.length_cons]
    omega
/-- what fills that may be are -/
theorem okFs_all {l : List Fi} (h : okFs l = true) : 1 ≤ l.length ∧ l.length ≤ 16 ∧ ∀ f ∈ l, okE (l.headD Fi.zero).qty f = true := by
  unfold okFs at h
  simp only [Bool.and_eq_true, decide_eq_true_eq, List.all_eq_true] at h
  exact ⟨h.1.1, h.1.2, h.2⟩
theorem okE_sg {q0 : Int} {f : Fi} (h : okE q0 f = true) : okF f = true ∧ decide (0 < f.qty) = decide (0 < q0) := by
  unfold okE at h
  simp only [Bool.and_eq_true, beq_iff_eq] at h
  exact h
/-- on one side -/
theorem okFs_side {l : List Fi} (h : okFs l = true) : (∀ f ∈ l, 0 < f.qty) ∨ (∀ f ∈ l, f.qty < 0) := by
  obtain ⟨h1, h2, h3⟩ := okFs_all h
  by_cases hq : 0 < (l.headD Fi.zero).qty
  · refine .inl fun f hf => ?_
    have := (okE_sg (h3 f hf)).2
    simp only [hq, decide_true, decide_eq_true_eq] at this
    exact this
  · refine .inr fun f hf => ?_
    have h4 := (okE_sg (h3 f hf)).2
    have h5 := okF_bd (okE_sg (h3 f hf)).1
    simp only [hq, decide_false, decide_eq_false_iff_not] at h4
    omega
def avgC (l : List Fi) : Int := if qtyL l < 0 then -costL l else costL l
def avgR (l : List Fi) : Int × Int × Int × Int :=
  if okFs l = true then (if inQ (qtyL l) = true then (qtyL l, avgC l / ((qtyL l).natAbs : Int), avgC l % ((qtyL l).natAbs : Int), 0) else (0, 0, 0, 25)) else (0, 0, 0, 2)
def avgV (l : List Fi) : Value := .tuple #[.int .i64 (avgR l).1, .int .i64 (avgR l).2.1, .int .i64 (avgR l).2.2.1, .int .i64 (avgR l).2.2.2]
/-- what there is where there is an average -/
theorem avg_main {l : List Fi} (h : okFs l = true) : qtyL l ≠ 0 ∧ 0 < (qtyL l).natAbs ∧ 0 ≤ avgC l ∧ avgC l ≤ 2147483647 * ((qtyL l).natAbs : Int) ∧ 0 ≤ avgC l / ((qtyL l).natAbs : Int) ∧ avgC l / ((qtyL l).natAbs : Int) ≤ 2147483647 := by
  have ha := okFs_all h
  have key : qtyL l ≠ 0 ∧ 0 ≤ avgC l ∧ avgC l ≤ 2147483647 * ((qtyL l).natAbs : Int) := by
    have hb : ∀ f ∈ l, 0 ≤ f.pr ∧ f.pr ≤ 2147483647 := fun f hf => by
      have := okF_bd (okE_sg (ha.2.2 f hf)).1
      exact ⟨this.1, this.2.1⟩
    rcases okFs_side h with hs | hs
    · obtain ⟨h1, h2, h3⟩ := cost_pos 0 2147483647 l (fun f hf => ⟨hs f hf, hb f hf⟩)
      unfold avgC
      rw [if_neg (by omega)]
      omega
    · obtain ⟨h1, h2, h3⟩ := cost_neg 0 2147483647 l (fun f hf => ⟨hs f hf, hb f hf⟩)
      unfold avgC
      rw [if_pos (by omega)]
      omega
  obtain ⟨k1, k2, k3⟩ := key
  refine ⟨k1, by omega, k2, k3, Int.ediv_nonneg k2 (by omega), ?_⟩
  exact Int.ediv_le_of_le_mul (by omega) k3

end Go.Proofs.Ytfagpdnckmaomaa
