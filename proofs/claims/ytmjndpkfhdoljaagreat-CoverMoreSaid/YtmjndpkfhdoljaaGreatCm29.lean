import Derived.Test.YtmjndpkfhdoljaaGreatCm28
set_option maxHeartbeats 16000000
set_option maxRecDepth 100000
set_option linter.unusedVariables false
set_option linter.unusedSimpArgs false
namespace Go.Proofs.YtmjndpkfhdoljaaGreat
open Go.ChangeShapes Go.WideShapes Go.ChangeAt Go.RowKit
section
theorem ahL_iff (a b : Lt) : ahL a b = true ↔ ltL a b := by unfold ahL; simp
theorem ordL : Ord ahL where
  tr := by intro a b c h1 h2; rw [ahL_iff] at *; unfold ltL at *; omega
  asy := by intro a b h; rw [ahL_iff] at h; rw [← Bool.not_eq_true, ahL_iff]; unfold ltL at *; omega
  cong := by intro a x b h1 h2; rw [← Bool.not_eq_true, ahL_iff] at h1 h2; rw [Bool.eq_iff_iff, ahL_iff, ahL_iff]; unfold ltL at *; omega
  cong2 := by intro a x b h1 h2; rw [← Bool.not_eq_true, ahL_iff] at h1 h2; rw [Bool.eq_iff_iff, ahL_iff, ahL_iff]; unfold ltL at *; omega
theorem isLs_sorted {l : List Lt} (h : isLs l = true) : l.Pairwise (fun a b => ahL a b = true) := by
  unfold isLs at h
  simp only [Bool.and_eq_true] at h
  exact (rising_pairwise ordL l).1 h.2
theorem sameL_iff (a t : Int) (y : Lt) : sameL a t y = true ↔ y.ast = a ∧ y.tag = t := by unfold sameL; simp
theorem sameL_of {x a : Lt} (h1 : ahL a x = false) (h2 : ahL x a = false) : sameL x.ast x.tag a = true := by
  rw [← Bool.not_eq_true, ahL_iff] at h1 h2
  rw [sameL_iff]; unfold ltL at *; omega
theorem sameL_no {x a : Lt} (h : ahL a x = true ∨ ahL x a = true) : sameL x.ast x.tag a = false := by
  rw [← Bool.not_eq_true, sameL_iff]
  rw [ahL_iff, ahL_iff] at h
  unfold ltL at h; omega
theorem setF_true (x : Lt) : ∀ l : List Lt, setF x true l = l.filter fun y => !sameL x.ast x.tag y
  | [] => rfl
  | a :: r => by
    unfold setF
    rw [if_neg (by simp), setF_true x r, List.filter_cons]
    cases h : sameL x.ast x.tag a <;> simp
theorem setF_false (x : Lt) : ∀ {l : List Lt}, l.Pairwise (fun a b => ahL a b = true) → setF x false l = putR ahL l x
  | [], _ => rfl
  | a :: r, h => by
    obtain ⟨h1, h2⟩ := List.pairwise_cons.1 h
    unfold setF putR
    cases hax : ahL a x with
    | true =>
      rw [if_neg (by simp), sameL_no (.inl hax), if_neg (by simp), if_pos rfl, setF_false x h2]
    | false =>
      rw [if_pos ⟨rfl, rfl⟩, setF_true]
      have hr : (r.filter fun y => !sameL x.ast x.tag y) = r := by
        rw [List.filter_eq_self]
        intro y hy
        have hay := h1 y hy
        have : ahL x y = true := by
          rw [← Bool.not_eq_true, ahL_iff] at hax
          rw [ahL_iff] at hay ⊢
          unfold ltL at *; omega
        rw [sameL_no (.inr this)]; rfl
      rw [hr]
      cases hxa : ahL x a with
      | true => rw [sameL_no (.inr hxa)]; simp
      | false => rw [sameL_of hax hxa]; simp
theorem setF_put {l : List Lt} {x : Lt} (hl : isLs l = true) (h : x.qty ≠ 0) : setF x (x.qty == 0) l = putR ahL l x := by
  have : (x.qty == 0) = false := by simpa using h
  rw [this]; exact setF_false x (isLs_sorted hl)
theorem chkL_two {l : List Lt} {x : Lt} (h : chkL l x = 2) : isLs l = true ∧ okL x = false := by
  unfold chkL at h
  cases h1 : isLs l <;> cases h2 : okL x <;> simp_all
theorem chkL_three {l : List Lt} {x : Lt} (h : chkL l x = 3) : isLs l = false := by
  unfold chkL at h
  cases h1 : isLs l <;> cases h2 : okL x <;> simp_all
end
end Go.Proofs.YtmjndpkfhdoljaaGreat
