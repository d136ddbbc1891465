import Derived.Test.YtldnponbkhgijaaGN22
import Derived.Test.YtldnponbkhgijaaGN23
section
namespace Go.Proofs.Ytldnponbkhgijaa
open Go.ChangeShapes Go.WideShapes Go.ChangeAt Go.RowKit
set_option linter.unusedVariables false
set_option linter.unusedSimpArgs false

def sumAt (h : Lg → Int) : Int → List Int → Int
  | _, [] => 0
  | i, q :: r => h ⟨i, q⟩ + sumAt h (i + 1) r
theorem sum_legsF (h : Lg → Int) (h0 : ∀ t, h ⟨t, 0⟩ = 0) : ∀ (i : Int) (L : List Int), ((legsF i L).map h).sum = sumAt h i L
  | _, [] => rfl
  | i, q :: r => by
    have ih := sum_legsF h h0 (i + 1) r
    rw [legsF, sumAt, ← ih]
    by_cases hq : q = 0
    · rw [if_pos hq, hq, h0]; simp
    · rw [if_neg hq]; simp
theorem sumAt_add (h : Lg → Int) (ha : ∀ t p q, h ⟨t, p + q⟩ = h ⟨t, p⟩ + h ⟨t, q⟩) (f g : Nat → Int) : ∀ (R : List Nat) (i : Int), sumAt h i (R.map fun j => f j + g j) = sumAt h i (R.map f) + sumAt h i (R.map g)
  | [], _ => by simp [sumAt]
  | j :: R, i => by
    simp only [List.map_cons, sumAt]
    rw [sumAt_add h ha f g R (i + 1), ha]
    omega
theorem shk_zero (is : List Ins) (s t : Int) : shk is s ⟨t, 0⟩ = 0 := by
  unfold shk
  split
  · rfl
  · unfold shockZ
    split <;> simp
theorem shk_add (is : List Ins) (s t p q : Int) : shk is s ⟨t, p + q⟩ = shk is s ⟨t, p⟩ + shk is s ⟨t, q⟩ := by
  unfold shk
  simp only
  split
  · rfl
  · unfold shockZ
    split
    · rw [Int.add_mul, Int.add_mul]
    · rfl
theorem sum_shk {M : List Lg} (h : isG M = true) (is : List Ins) (s : Int) : (M.map (shk is s)).sum = sumAt (shk is s) 1 ((List.range 8).map fun j : Nat => getG M ((j : Int) + 1)) := by
  obtain ⟨a1, a2⟩ := (isG_iff M).1 h
  have e := legs_back 8 1 M a2 (fun x hx => ⟨(a1 x hx).1, by have := (a1 x hx).2.1; omega, (a1 x hx).2.2⟩)
  have e2 : ((List.range 8).map fun j : Nat => getG M (1 + (j : Int))) = (List.range 8).map fun j : Nat => getG M ((j : Int) + 1) := List.map_congr_left fun j _ => by rw [Int.add_comm]
  rw [e2] at e
  rw [← sum_legsF _ (shk_zero is s), e]
theorem two_facts {a b B : List Lg} (h : addL [a, b] = (0, B)) : isG a = true ∧ isG b = true ∧ isG B = true ∧ (∀ x ∈ B, In64 x.qty) ∧ B = legsF 1 ((List.range 8).map fun j : Nat => getG a ((j : Int) + 1) + getG b ((j : Int) + 1)) := by
  have hB : isG B = true := by have := addR_is ([a, b].map fun l => (⟨none, 0, l⟩ : RowS Lg)); unfold addL at h; rw [h] at this; exact this
  rw [sum_two] at h
  split at h
  · rename_i hg
    unfold ofR at h
    split at h
    · rename_i h6
      injection h with _ e
      refine ⟨hg.1, hg.2, hB, ?_, e.symm⟩
      have key : ∀ (l : List Int) (i : Int), ∀ x ∈ legsF i l, x.qty ∈ l := by
        intro l
        induction l with
        | nil => intro i x hx; simp [legsF] at hx
        | cons q r ih =>
          intro i x hx
          unfold legsF at hx
          rcases List.mem_append.1 hx with hx | hx
          · split at hx
            · cases hx
            · rw [List.mem_singleton.1 hx]; exact List.mem_cons_self
          · exact List.mem_cons_of_mem _ (ih _ x hx)
      intro x hx
      rw [← e] at hx
      exact h6 _ (key _ _ x hx)
    · injection h with h1; cases h1
  · injection h with h1; cases h1
theorem loss_two {a b B : List Lg} (h : addL [a, b] = (0, B)) (is : List Ins) (s : Int) : lossZ is s B = lossZ is s a + lossZ is s b := by
  obtain ⟨ha, hb, _, _, e⟩ := two_facts h
  unfold lossZ
  rw [e, sum_legsF _ (shk_zero is s), sumAt_add _ (shk_add is s), ← sum_shk ha, ← sum_shk hb]
  omega
theorem getG_has {M : List Lg} {t : Int} (h : getG M t ≠ 0) : ∃ y ∈ M, y.ins = t := by
  by_cases hh : ∃ y ∈ M, y.ins = t
  · exact hh
  · exact absurd (getG_none fun x hx hi => hh ⟨x, hx, hi⟩) h
theorem miss_has {is : List Ins} {M : List Lg} (h : missI is M = false) {t : Int} (hg : getG M t ≠ 0) : (fndI is t).isSome = true := by
  obtain ⟨y, hy, rfl⟩ := getG_has hg
  unfold missI at h
  rw [List.any_eq_false] at h
  have := h y hy
  cases hq : fndI is y.ins with
  | none => rw [hq] at this; simp at this
  | some i => rfl
theorem code_ok {is : List Ins} {M : List Lg} (h : codeI is M = 0) : isG M = true ∧ missI is M = false := by
  unfold codeI at h
  split at h
  · cases h
  · rename_i h1
    split at h
    · cases h
    · rename_i h2
      exact ⟨by simpa using h1, by simpa using h2⟩
theorem legs_at : ∀ (l : List Int) (i : Int), ∀ x ∈ legsF i l, ∃ k : Nat, ∃ h : k < l.length, x.ins = i + k ∧ x.qty = l[k] ∧ l[k] ≠ 0
  | [], _, x, hx => by simp [legsF] at hx
  | q :: r, i, x, hx => by
    unfold legsF at hx
    rcases List.mem_append.1 hx with hx | hx
    · split at hx
      · cases hx
      · rename_i hq
        rw [List.mem_singleton.1 hx]
        exact ⟨0, by simp, by simp, rfl, hq⟩
    · obtain ⟨k, hk, h1, h2, h3⟩ := legs_at r (i + 1) x hx
      exact ⟨k + 1, by simpa using hk, by rw [h1]; omega, h2, h3⟩
theorem code_two {is : List Ins} {a b B : List Lg} (h : addL [a, b] = (0, B)) (ha : codeI is a = 0) (hb : codeI is b = 0) : codeI is B = 0 := by
  obtain ⟨_, _, hB, _, e⟩ := two_facts h
  obtain ⟨_, ma⟩ := code_ok ha
  obtain ⟨_, mb⟩ := code_ok hb
  unfold codeI
  rw [if_neg (by simp [hB]), if_neg]
  rw [Bool.not_eq_true]
  unfold missI
  rw [List.any_eq_false]
  intro x hx
  rw [e] at hx
  obtain ⟨k, hk, h1, h2, h3⟩ := legs_at _ _ x hx
  simp only [List.getElem_map, List.getElem_range] at h3
  have hi : x.ins = (k : Int) + 1 := by omega
  have : (fndI is x.ins).isSome = true := by
    rw [hi]
    by_cases h4 : getG a ((k : Int) + 1) = 0
    · exact miss_has mb (by omega)
    · exact miss_has ma h4
  cases hq : fndI is x.ins with
  | none => rw [hq] at this; cases this
  | some i => simp
theorem most_nn (is : List Ins) (M : List Lg) : ∀ k, 0 ≤ (mostR is M k).1
  | 0 => Int.le_refl _
  | k + 1 => by
    have ih := most_nn is M k
    rw [mostR]
    split
    · simp only; omega
    · exact ih
theorem most_ge (is : List Ins) (M : List Lg) : ∀ (k j : Nat), j < k → lossZ is j M ≤ (mostR is M k).1
  | 0, j, h => by omega
  | k + 1, j, h => by
    rw [mostR]
    rcases Nat.lt_or_ge j k with hj | hj
    · have ih := most_ge is M k j hj
      split
      · simp only; omega
      · exact ih
    · obtain rfl : j = k := by omega
      split
      · simp
      · omega
theorem most_le {is : List Ins} {M : List Lg} {c : Int} (h0 : 0 ≤ c) : ∀ k : Nat, (∀ j : Nat, j < k → lossZ is j M ≤ c) → (mostR is M k).1 ≤ c
  | 0, _ => h0
  | k + 1, h => by
    have ih := most_le (is := is) (M := M) h0 k fun j hj => h j (by omega)
    rw [mostR]
    split
    · exact h k (by omega)
    · exact ih
theorem most_two {a b B : List Lg} (h : addL [a, b] = (0, B)) (is : List Ins) : (mostR is B 8).1 ≤ (mostR is a 8).1 + (mostR is b 8).1 := by
  have n1 := most_nn is a 8
  have n2 := most_nn is b 8
  refine most_le (by omega) 8 fun j hj => ?_
  rw [loss_two h]
  have := most_ge is a 8 j hj
  have := most_ge is b 8 j hj
  omega
theorem most_twice {a B : List Lg} (h : addL [a, a] = (0, B)) (is : List Ins) : ∀ k : Nat, (mostR is B k).1 = (mostR is a k).1 + (mostR is a k).1
  | 0 => rfl
  | k + 1 => by
    have ih := most_twice h is k
    rw [mostR, mostR, loss_two h]
    by_cases hc : (mostR is a k).1 < lossZ is k a
    · rw [if_pos hc, if_pos (by omega)]
    · rw [if_neg hc, if_neg (by omega)]; exact ih
theorem margin_of {is : List Ins} {M : List Lg} (h : codeI is M = 0) : marginR is M = (fV (mostR is M 8).1, fE (mostR is M 8).1) := by
  unfold marginR
  rw [worstR_ok h]; simp
theorem margin_nn (is : List Ins) (M : List Lg) : 0 ≤ (marginR is M).1 := by
  unfold marginR
  split
  · simp
  · simp only
    unfold fV
    split
    · unfold worstR
      split
      · exact most_nn is M 8
      · simp
    · simp
theorem margin_ok {is : List Ins} {M : List Lg} (h : (marginR is M).2 = 0) : codeI is M = 0 ∧ In64 (mostR is M 8).1 ∧ (marginR is M).1 = (mostR is M 8).1 := by
  by_cases hc : codeI is M = 0
  · rw [margin_of hc] at h ⊢
    simp only at h ⊢
    unfold fE at h
    split at h
    · rename_i h6; exact ⟨hc, h6, by unfold fV; rw [if_pos h6]⟩
    · cases h
  · unfold marginR at h
    rw [worstR_no hc] at h
    simp only at h
    rw [if_pos hc] at h
    exact absurd h hc
theorem margin_in (is : List Ins) (M : List Lg) : In64 (marginR is M).1 := by
  unfold marginR
  split
  · unfold In64; simp only; omega
  · simp only
    unfold fV
    split
    · rename_i h; exact h
    · unfold In64; omega
theorem nets {a b B : List Lg} {is : List Ins} (h : addL [a, b] = (0, B)) (ha : (marginR is a).2 = 0) (hb : (marginR is b).2 = 0) :
    ((marginR is B).2 = 7 ∧ 9223372036854775807 < (marginR is a).1 + (marginR is b).1) ∨ ((marginR is B).2 = 0 ∧ (marginR is B).1 ≤ (marginR is a).1 + (marginR is b).1) := by
  obtain ⟨c1, i1, e1⟩ := margin_ok ha
  obtain ⟨c2, i2, e2⟩ := margin_ok hb
  have hB := code_two h c1 c2
  have hm := most_two h is
  have hn := most_nn is B 8
  rw [margin_of hB, e1, e2]
  simp only
  unfold fV fE
  by_cases h6 : In64 (mostR is B 8).1
  · rw [if_pos h6, if_pos h6]; exact .inr ⟨rfl, hm⟩
  · rw [if_neg h6]
    refine .inl ⟨rfl, ?_⟩
    unfold In64 at h6
    omega
theorem twice {a B : List Lg} {is : List Ins} (h : addL [a, a] = (0, B)) (ha : (marginR is a).2 = 0) : marginR is B = (fV ((marginR is a).1 + (marginR is a).1), fE ((marginR is a).1 + (marginR is a).1)) := by
  obtain ⟨c1, i1, e1⟩ := margin_ok ha
  rw [margin_of (code_two h c1 c1), most_twice h is 8, e1]
end Go.Proofs.Ytldnponbkhgijaa
end
