import Derived.Test.YtldnponbkhgijaaGN11
import Derived.Test.YtldnponbkhgijaaGN19
section
namespace Go.Proofs.Ytldnponbkhgijaa
open Go.ChangeShapes Go.WideShapes Go.ChangeAt Go.RowKit
set_option linter.unusedVariables false
set_option linter.unusedSimpArgs false

theorem getG_cons (x : Lg) (r : List Lg) (i : Int) : getG (x :: r) i = if x.ins = i then x.qty else getG r i := by
  unfold getG pickL
  rw [List.find?_cons]
  by_cases h : x.ins = i
  · rw [if_pos h, show inG i x = true by simp [inG, h]]; rfl
  · rw [if_neg h, show inG i x = false by simp [inG, h]]
theorem getG_none {l : List Lg} {i : Int} (h : ∀ x ∈ l, x.ins ≠ i) : getG l i = 0 := by
  induction l with
  | nil => rfl
  | cons x r ih => rw [getG_cons, if_neg (h x (by simp)), ih (fun y hy => h y (by simp [hy]))]
abbrev SoG (l : List Lg) : Prop := l.Pairwise (fun a b => a.ins < b.ins)
theorem risingG : ∀ l : List Lg, risingL ahG l = true ↔ SoG l
  | [] => by simp [risingL]
  | [a] => by simp [risingL]
  | a :: b :: r => by
    have ih := risingG (b :: r)
    simp only [risingL, Bool.and_eq_true, ih, ahG, decide_eq_true_eq]
    constructor
    · rintro ⟨h1, h2⟩
      refine List.Pairwise.cons ?_ h2
      intro c hc
      rcases List.mem_cons.1 hc with rfl | hc
      · exact h1
      · have := List.rel_of_pairwise_cons h2 hc
        omega
    · intro h
      exact ⟨List.rel_of_pairwise_cons h (by simp), h.of_cons⟩
theorem isG_iff (l : List Lg) : isG l = true ↔ (∀ x ∈ l, 1 ≤ x.ins ∧ x.ins ≤ 8 ∧ x.qty ≠ 0) ∧ SoG l := by
  unfold isG
  rw [Bool.and_eq_true, List.all_eq_true, risingG]
  refine and_congr_left fun _ => ⟨fun h x hx => ?_, fun h x hx => ?_⟩
  · have := h x hx
    unfold okG at this
    simp only [Bool.and_eq_true, decide_eq_true_eq, Bool.not_eq_true', beq_eq_false_iff_ne] at this
    exact ⟨this.1.1, this.1.2, this.2⟩
  · obtain ⟨h1, h2, h3⟩ := h x hx
    unfold okG
    simp [h1, h2, h3]
theorem legs_back : ∀ (n : Nat) (i : Int) (l : List Lg), SoG l → (∀ x ∈ l, i ≤ x.ins ∧ x.ins < i + n ∧ x.qty ≠ 0) → legsF i ((List.range n).map fun j : Nat => getG l (i + (j : Int))) = l
  | 0, i, [], _, _ => rfl
  | 0, i, x :: r, _, h => by have := h x (by simp); omega
  | n + 1, i, l, hs, h => by
    rw [List.range_succ_eq_map, List.map_cons, List.map_map, legsF]
    have e0 : i + ((0 : Nat) : Int) = i := by simp
    rw [e0]
    have ef : ∀ m : List Lg, ((fun j : Nat => getG m (i + (j : Int))) ∘ Nat.succ) = fun j : Nat => getG m (i + 1 + (j : Int)) := fun m => by
      funext j
      simp only [Function.comp]
      congr 1
      omega
    rw [ef]
    cases l with
    | nil =>
      rw [show getG [] i = 0 from rfl, if_pos rfl, legs_back n (i + 1) [] hs (fun x hx => by cases hx)]; rfl
    | cons x r =>
      obtain ⟨h1, h2, h3⟩ := h x (by simp)
      by_cases hx : x.ins = i
      · rw [getG_cons, if_pos hx, if_neg h3]
        have e2 : (List.range n).map (fun j : Nat => getG (x :: r) (i + 1 + (j : Int))) = (List.range n).map fun j : Nat => getG r (i + 1 + (j : Int)) := by
          refine List.map_congr_left fun j _ => ?_
          rw [getG_cons, if_neg (by omega)]
        rw [e2, legs_back n (i + 1) r hs.of_cons fun y hy => ?_]
        · obtain ⟨a, b⟩ := x
          simp only at hx
          subst hx
          rfl
        · have := List.rel_of_pairwise_cons hs hy
          have := h y (by simp [hy])
          omega
      · rw [getG_none (l := x :: r) (i := i) (fun y hy => by
          rcases List.mem_cons.1 hy with rfl | hy
          · exact hx
          · have := List.rel_of_pairwise_cons hs hy; omega), if_pos rfl, List.nil_append]
        refine legs_back n (i + 1) (x :: r) hs fun y hy => ?_
        have := h y hy
        rcases List.mem_cons.1 hy with rfl | hy2
        · omega
        · have := List.rel_of_pairwise_cons hs hy2
          omega
end Go.Proofs.Ytldnponbkhgijaa
end
