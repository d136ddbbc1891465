/-
  Layer 16: plain mathematics of choices in their order.
-/
import Derived.Test.YtniapgcohihkhaaElect3
namespace Go.Proofs.Ytniapgcohihkhaa
set_option linter.unusedVariables false
set_option linter.unusedSimpArgs false

theorem ltU_iff (a c a' c' : Int) : ltU a c a' c' = true ↔ a < a' ∨ a = a' ∧ c < c' := by simp [ltU]
theorem ltU_not (a c a' c' : Int) : ltU a c a' c' = false ↔ ¬ (a < a' ∨ a = a' ∧ c < c') := by
  rw [← ltU_iff]; simp
theorem bool_ext {a b : Bool} (h : a = true ↔ b = true) : a = b := by cases a <;> cases b <;> simp_all
theorem ordC : Ord ahC where
  tr := fun a b c h1 h2 => by simp only [ahC, ltU_iff] at *; omega
  asy := fun a b h => by simp only [ahC, ltU_iff, ltU_not] at *; omega
  cong := fun a x b h1 h2 => bool_ext (by simp only [ahC, ltU_iff, ltU_not] at *; omega)
  cong2 := fun a x b h1 h2 => bool_ext (by simp only [ahC, ltU_iff, ltU_not] at *; omega)
theorem eqv_ofC (x y : Ch) : eqv ahC x y = ofC x.fa x.fc y := by
  apply bool_ext
  simp only [eqv, ofC, Bool.and_eq_true, Bool.not_eq_true', ahC, ltU_not, beq_iff_eq]
  omega
theorem isC_pairwise {l : List Ch} (h : isC l = true) : l.Pairwise (fun a b => ahC a b = true) := by
  simp only [isC, Bool.and_eq_true] at h
  exact (rising_pairwise ordC l).1 h.2
def setL (l : List Ch) (x : Ch) : List Ch :=
  (dropC l x.fa x.fc).take ((dropC l x.fa x.fc).findIdx fun y => !ahC y x) ++ x :: (dropC l x.fa x.fc).drop ((dropC l x.fa x.fc).findIdx fun y => !ahC y x)
theorem setL_eq {l : List Ch} (h : isC l = true) (x : Ch) : setL l x = putR ahC l x := by
  rw [← refPut_eq ordC x l (isC_pairwise h)]
  have e : dropC l x.fa x.fc = l.filter fun y => !eqv ahC x y := by
    unfold dropC
    congr 1
    funext y
    rw [eqv_ofC]
  unfold setL refPut
  rw [e]
/-- a choice that is told of lies where it is found -/
theorem ofC_iff (a c : Int) (x : Ch) : ofC a c x = true ↔ x.fa = a ∧ x.fc = c := by simp [ofC]
theorem agree_set {l : List Ch} (h : isC l = true) {k : Nat} (hk : k < l.length) (x : Ch) (ho : ofC x.fa x.fc l[k] = true) : l.set k x = putR ahC l x := by
  rw [ofC_iff] at ho
  refine set_putR ordC x l k hk (isC_pairwise h) ?_ ?_
  · simp only [ahC, ltU_not]; omega
  · simp only [ahC, ltU_not]; omega

def electR (l : List Ch) (a c ta tc : Int) : Int × List Ch :=
  if isC l = false then (3, []) else if a = ta ∧ c = tc then (24, []) else (0, putR ahC l ⟨a, c, ta, tc, false⟩)
def agreeR (l : List Ch) (a c ta tc : Int) : Int × List Ch :=
  if isC l = false then (3, []) else if hasC l a c = false then (19, []) else if (findC l a c).ta = ta ∧ (findC l a c).tc = tc then (0, putR ahC l ⟨a, c, ta, tc, true⟩) else (11, [])
def readyR (l : List Ch) (a c : Int) : Int × Int × Int :=
  if hasC l a c = true then (if (findC l a c).con = true then ((findC l a c).ta, (findC l a c).tc, 0) else (0, 0, 20)) else (0, 0, 19)
theorem find_cases (l : List Ch) (a c : Int) : (hasC l a c = false ∧ atL (ofC a c) l = -1) ∨ ∃ k : Nat, ∃ hk : k < l.length, hasC l a c = true ∧ atL (ofC a c) l = k ∧ findC l a c = l[k] ∧ ofC a c l[k] = true := by
  rcases atL_cases (ofC a c) l with ⟨h0, hno⟩ | ⟨k, hk, h0, hpk, hno⟩
  · exact .inl ⟨by rw [hasC, find_none hno]; rfl, h0⟩
  · have hf := find_some hk hno hpk
    exact .inr ⟨k, hk, by rw [hasC, hf]; rfl, h0, by rw [findC, pickL, hf]; rfl, hpk⟩
theorem found_of {l : List Ch} {a c : Int} (h : hasC l a c = true) : (findC l a c).fa = a ∧ (findC l a c).fc = c := by
  rcases find_cases l a c with ⟨h1, _⟩ | ⟨k, hk, _, _, h2, h3⟩
  · rw [h] at h1; cases h1
  · rw [h2]; exact (ofC_iff _ _ _).1 h3
end Go.Proofs.Ytniapgcohihkhaa
