/-
  Layer 16: plain mathematics of puts and drops, one behind the other.
-/
import Derived.Test.YtniapgcohihkhaaElect7
namespace Go.Proofs.Ytniapgcohihkhaa
set_option linter.unusedVariables false
set_option linter.unusedSimpArgs false

section
variable {α : Type}
theorem putR_comm {ah : α → α → Bool} (o : Ord ah) {A B : α} (h : ah A B = true) : ∀ l : List α, putR ah (putR ah l A) B = putR ah (putR ah l B) A
  | [] => by simp [putR, h, o.asy _ _ h]
  | r :: t => by
    have ih := putR_comm o h t
    have hBA := o.asy _ _ h
    cases h1 : ah r A with
    | true =>
      have h2 := o.tr _ _ _ h1 h
      simp [putR, h1, h2, ih]
    | false =>
      cases h3 : ah A r with
      | true =>
        cases h4 : ah r B with
        | true => simp [putR, h1, h3, h4, h]
        | false =>
          cases h5 : ah B r <;> simp [putR, h1, h3, h4, h5, h, hBA]
      | false =>
        have h4 : ah r B = true := by rw [o.cong r A B h1 h3]; exact h
        simp [putR, h1, h3, h4, h]
end
theorem keys_lt {x y : Ch} (h : ¬ (x.fa = y.fa ∧ x.fc = y.fc)) : ahC x y = true ∨ ahC y x = true := by
  simp only [ahC, ltU_iff]; omega
theorem putR_commC {x y : Ch} (h : ¬ (x.fa = y.fa ∧ x.fc = y.fc)) (l : List Ch) : putR ahC (putR ahC l x) y = putR ahC (putR ahC l y) x := by
  rcases keys_lt h with h | h
  · exact putR_comm ordC h l
  · exact (putR_comm ordC h l).symm
theorem isC_putR {l : List Ch} (h : isC l = true) {x : Ch} (hx : selfC x = false) : isC (putR ahC l x) = true := by
  have hp := isC_pairwise h
  simp only [isC, Bool.and_eq_true, List.all_eq_true] at h ⊢
  refine ⟨fun y hy => ?_, (rising_pairwise ordC _).2 (pairwise_putR ordC x l hp)⟩
  rcases mem_putR x l y hy with rfl | hy
  · rw [hx]; rfl
  · exact h.1 y hy
theorem isC_dropC {l : List Ch} (h : isC l = true) (a c : Int) : isC (dropC l a c) = true := by
  have hp := isC_pairwise h
  simp only [isC, Bool.and_eq_true, List.all_eq_true] at h ⊢
  exact ⟨fun y hy => h.1 y (List.mem_filter.1 hy).1, (rising_pairwise ordC _).2 (hp.filter _)⟩
theorem dropC_twice (l : List Ch) (a c : Int) : dropC (dropC l a c) a c = dropC l a c := by
  unfold dropC
  rw [List.filter_filter]
  congr 1
  funext y
  cases ofC a c y <;> rfl
theorem dropC_comm (l : List Ch) (a c b d : Int) : dropC (dropC l a c) b d = dropC (dropC l b d) a c := by
  unfold dropC
  rw [List.filter_filter, List.filter_filter]
  congr 1
  funext y
  rw [Bool.and_comm]
theorem find_putR_same (x : Ch) : ∀ l : List Ch, (putR ahC l x).find? (ofC x.fa x.fc) = some x
  | [] => by simp [putR, ofC]
  | r :: t => by
    have ih := find_putR_same x t
    unfold putR
    cases h1 : ahC r x with
    | true =>
      have hne : ofC x.fa x.fc r = false := by
        cases h2 : ofC x.fa x.fc r with
        | false => rfl
        | true =>
          rw [ofC_iff] at h2
          simp only [ahC, ltU_iff] at h1
          omega
      simp [hne, ih]
    | false => cases h2 : ahC x r <;> simp [ofC]
theorem find_putR_other (x : Ch) (a c : Int) (h : ¬ (x.fa = a ∧ x.fc = c)) : ∀ l : List Ch, (putR ahC l x).find? (ofC a c) = l.find? (ofC a c)
  | [] => by
    have hx : ofC a c x = false := by
      cases h2 : ofC a c x with
      | false => rfl
      | true => exact absurd ((ofC_iff _ _ _).1 h2) h
    simp [putR, hx]
  | r :: t => by
    have ih := find_putR_other x a c h t
    have hx : ofC a c x = false := by
      cases h2 : ofC a c x with
      | false => rfl
      | true => exact absurd ((ofC_iff _ _ _).1 h2) h
    unfold putR
    cases h1 : ahC r x with
    | true => simp [List.find?_cons, ih]
    | false =>
      cases h2 : ahC x r with
      | true => simp [List.find?_cons, hx]
      | false =>
        have hr : ofC a c r = false := by
          cases h3 : ofC a c r with
          | false => rfl
          | true =>
            rw [ofC_iff] at h3
            simp only [ahC, ltU_not] at h1 h2
            exact absurd (show x.fa = a ∧ x.fc = c by omega) h
        simp [List.find?_cons, hx, hr]
theorem find_drop_same (l : List Ch) (a c : Int) : (dropC l a c).find? (ofC a c) = none := by
  rw [List.find?_eq_none]
  intro x hx
  have := (List.mem_filter.1 hx).2
  simpa using this
theorem find_drop_other (a c b d : Int) (h : ¬ (a = b ∧ c = d)) : ∀ l : List Ch, (dropC l a c).find? (ofC b d) = l.find? (ofC b d)
  | [] => rfl
  | r :: t => by
    have ih := find_drop_other a c b d h t
    unfold dropC at ih ⊢
    rw [List.filter_cons]
    cases h1 : ofC a c r with
    | true =>
      have hr : ofC b d r = false := by
        cases h3 : ofC b d r with
        | false => rfl
        | true =>
          rw [ofC_iff] at h3 h1
          exact absurd (show a = b ∧ c = d by omega) h
      simp [List.find?_cons, hr, ih]
    | false => simp [List.find?_cons, ih]
theorem readyR_putR (l : List Ch) (x : Ch) : readyR (putR ahC l x) x.fa x.fc = if x.con = true then (x.ta, x.tc, 0) else (0, 0, 20) := by
  have h := find_putR_same x l
  unfold readyR findC hasC pickL
  rw [h]
  simp
theorem readyR_drop (l : List Ch) (a c : Int) : readyR (dropC l a c) a c = (0, 0, 19) := by
  unfold readyR hasC
  rw [find_drop_same]
  rfl
theorem find_same_of {l m : List Ch} {a c : Int} (h : m.find? (ofC a c) = l.find? (ofC a c)) : findC m a c = findC l a c ∧ hasC m a c = hasC l a c := by
  unfold findC hasC pickL
  rw [h]
  exact ⟨rfl, rfl⟩
theorem agree_self {l : List Ch} (h : isC l = true) {a c : Int} (hh : hasC l a c = true) {ta tc : Int} (h1 : (findC l a c).ta = ta) (h2 : (findC l a c).tc = tc) (b : Bool) : selfC ⟨a, c, ta, tc, b⟩ = false := by
  rcases find_cases l a c with ⟨h3, _⟩ | ⟨k, hk, _, _, hf, hof⟩
  · rw [hh] at h3; cases h3
  · rw [hf] at h1 h2
    simp only [isC, Bool.and_eq_true, List.all_eq_true] at h
    have hs := h.1 l[k] (List.getElem_mem hk)
    have ho := (ofC_iff _ _ _).1 hof
    simp only [selfC, Bool.not_eq_true', ← h1, ← h2, ← ho.1, ← ho.2] at hs ⊢
    exact hs
end Go.Proofs.Ytniapgcohihkhaa
