import Derived.Test.YtahdmomadbbhoaaGreatDk19
section
namespace Go.Proofs.YtahdmomadbbhoaaGreat
open Go.ChangeShapes Go.WideShapes Go.ChangeAt Go.RowKit
set_option linter.unusedVariables false
set_option linter.unusedSimpArgs false

theorem sumG_map (S : List (RowS Lg)) (i j : Nat) : sumG S i j = (((S.map RowS.l).take i).map fun l => getG l ((j : Int) + 1)).sum := by
  unfold sumG
  rw [← List.map_take, List.map_map]; rfl
theorem addR_eq {S U : List (RowS Lg)} (h : S.map RowS.l = U.map RowS.l) : addR S = addR U := by
  have hl : S.length = U.length := by have := congrArg List.length h; simpa using this
  have h1 : (∀ s ∈ S, isG s.l = true) ↔ ∀ s ∈ U, isG s.l = true := by
    have e : ∀ X : List (RowS Lg), (∀ s ∈ X, isG s.l = true) ↔ ∀ l ∈ X.map RowS.l, isG l = true := fun X => by
      constructor
      · intro hx l hl
        obtain ⟨s, hs, rfl⟩ := List.mem_map.1 hl
        exact hx s hs
      · intro hx s hs
        exact hx _ (List.mem_map.2 ⟨s, hs, rfl⟩)
    rw [e, e, h]
  have h2 : ((List.range 8).map fun j : Nat => sumG S S.length j) = (List.range 8).map fun j : Nat => sumG U U.length j := List.map_congr_left fun j _ => by rw [sumG_map, sumG_map, h, hl]
  unfold addR
  rw [h2]
  by_cases hs : ∀ s ∈ S, isG s.l = true
  · rw [if_pos hs, if_pos (h1.1 hs)]
  · rw [if_neg hs, if_neg (fun h => hs (h1.2 h))]
noncomputable def addL (L : List (List Lg)) : Int × List Lg := addR (L.map fun l => ⟨none, 0, l⟩)
theorem addR_L (S : List (RowS Lg)) : addR S = addL (S.map RowS.l) := addR_eq (by simp [List.map_map, Function.comp])
theorem sum_two (a b : List Lg) : addL [a, b] = if isG a = true ∧ isG b = true then ofR ((List.range 8).map fun j : Nat => getG a ((j : Int) + 1) + getG b ((j : Int) + 1)) else (3, []) := by
  unfold addL addR
  by_cases h : isG a = true ∧ isG b = true
  · rw [if_pos h, if_pos (by simp [h.1, h.2])]
    congr 1
    refine List.map_congr_left fun j _ => ?_
    rw [sumG_map]
    simp
  · rw [if_neg h, if_neg (by intro h2; exact h ⟨h2 ⟨none, 0, a⟩ (by simp), h2 ⟨none, 0, b⟩ (by simp)⟩)]
theorem legs_mem : ∀ (i : Int) (l : List Int), ∀ x ∈ legsF i l, i ≤ x.ins ∧ x.ins < i + l.length ∧ x.qty ≠ 0
  | _, [], x, h => by cases h
  | i, q :: r, x, h => by
    have ih := legs_mem (i + 1) r x
    unfold legsF at h
    simp only [List.length_cons]
    rcases List.mem_append.1 h with h | h
    · by_cases h0 : q = 0
      · rw [if_pos h0] at h; cases h
      · rw [if_neg h0] at h
        simp only [List.mem_singleton] at h
        subst h
        simp only
        exact ⟨by omega, by omega, h0⟩
    · have := ih h; omega
theorem legs_so : ∀ (i : Int) (l : List Int), SoG (legsF i l)
  | _, [] => List.Pairwise.nil
  | i, q :: r => by
    have ih := legs_so (i + 1) r
    unfold legsF
    by_cases h0 : q = 0
    · rw [if_pos h0]; exact ih
    · rw [if_neg h0, List.singleton_append]
      refine List.Pairwise.cons (fun x hx => ?_) ih
      have := legs_mem (i + 1) r x hx
      simp only
      omega
theorem ofR_is {l : List Int} (hl : l.length = 8) : isG (ofR l).2 = true := by
  unfold ofR
  split
  · refine (isG_iff _).2 ⟨fun x hx => ?_, legs_so _ _⟩
    have := legs_mem 1 l x hx
    omega
  · rfl
theorem addR_is (S : List (RowS Lg)) : isG (addR S).2 = true := by
  unfold addR
  split
  · exact ofR_is (by simp)
  · rfl
theorem addR_len (S : List (RowS Lg)) : (addR S).2.length ≤ 8 := by
  unfold addR
  split
  · unfold ofR
    split
    · have := legsF_len 1 ((List.range 8).map fun j : Nat => sumG S S.length j)
      simpa using this
    · simp
  · simp
theorem negR_len (l : List Lg) : (negR l).2.length ≤ l.length := by
  unfold negR
  split
  · simp
  · split
    · simp [negG]
    · simp
theorem negR_ok {l : List Lg} (h : (negR l).1 = 0) : isG l = true ∧ (negR l).2 = negG l ∧ ∀ x ∈ l, In64 (-x.qty) := by
  revert h
  unfold negR
  split
  · intro h; cases h
  · rename_i h1
    split
    · rename_i h2; intro _; exact ⟨by simpa using h1, rfl, h2⟩
    · intro h; cases h
theorem rows_2 {w : World} {A1 A2 : Option Addr} {c1 c2 : Nat} {D R : List Lg} (h1 : Sl w A1 (rc Lg.cells D)) (h2 : Sl w A2 (rc Lg.cells R)) : RowsOk w Lg.cells [(⟨A1, c1, D⟩ : RowS Lg), ⟨A2, c2, R⟩] := fun s hs => by
  rcases List.mem_cons.1 hs with rfl | hs
  · exact h1
  · rcases List.mem_cons.1 hs with rfl | hs
    · exact h2
    · cases hs
theorem vadd_2 (a b : List Lg) (ha : a.length ≤ 400000) (hb : b.length ≤ 400000) (a6 : ∀ y ∈ a, In64 y.qty) (b6 : ∀ y ∈ b, In64 y.qty) (A A1 A2 : Option Addr) (c1 c2 : Nat) (w : World) (h : Sl w A (rc RowS.cells [(⟨A1, c1, a⟩ : RowS Lg), ⟨A2, c2, b⟩])) (h1 : Sl w A1 (rc Lg.cells a)) (h2 : Sl w A2 (rc Lg.cells b)) :
    Calls Tryz.prog 91 #[.slice A 2 2] w fun e w' => GRes w.heap.size w' e (addL [a, b]) ∧ Below w.heap.size w w' := by
  have e := vadd_any A 2 [(⟨A1, c1, a⟩ : RowS Lg), ⟨A2, c2, b⟩] w (by simp) (by simp [RowS.all]; omega) (by simp only [RowS.all, List.map_cons, List.map_nil, List.flatten_cons, List.flatten_nil, List.append_nil]; intro y hy; rcases List.mem_append.1 hy with hy | hy; exact a6 y hy; exact b6 y hy) h (rows_2 h1 h2)
  rw [addR_L] at e
  exact e
end Go.Proofs.YtahdmomadbbhoaaGreat
end
