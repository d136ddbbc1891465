/-
  Layer 23, tenth part: what is over, turned one by one.
-/
import Derived.Test.YtaaknohoaijfhaaGive8
namespace Go.Proofs.Ytaaknohoaijfhaa
open Go.ChangeShapes Go.WideShapes Go.ChangeAt Go.RowKit
set_option linter.unusedVariables false
set_option linter.unusedSimpArgs false

def ovr (day : Int) (g : Gv) : Bool := g.st == 1 && decide (g.day < day)
def exG (day : Int) (S : List Int) (g : Gv) : Gv := if (ovr day g && S.contains g.id) = true then { g with st := 5 } else g
def exL (l : List Gv) (day : Int) (S : List Int) : List Gv := l.map (exG day S)
theorem exL_length (l : List Gv) (day : Int) (S : List Int) : (exL l day S).length = l.length := by simp [exL]
theorem exL_nil (l : List Gv) (day : Int) : exL l day [] = l := by
  unfold exL
  conv => rhs; rw [← List.map_id l]
  apply List.map_congr_left
  intro g _
  simp [exG]
theorem exG_id (day : Int) (S : List Int) (g : Gv) : (exG day S g).id = g.id := by unfold exG; split <;> rfl
theorem exL_get (l : List Gv) (day : Int) (S : List Int) (k : Nat) (h : k < (exL l day S).length) (h2 : k < l.length) : (exL l day S)[k] = exG day S l[k] := by simp [exL]
theorem exL_ids {l : List Gv} (h : Ids l) (day : Int) (S : List Int) : Ids (exL l day S) := by
  intro k hk
  have h2 : k < l.length := by rw [exL_length] at hk; exact hk
  rw [exL_get l day S k hk h2, exG_id]
  exact h k h2
theorem late_mem {l : List Gv} {day a : Int} (h : a ∈ lateL l day) : ∃ k, ∃ hk : k < l.length, ovr day l[k] = true ∧ l[k].id = a := by
  unfold lateL at h
  simp only [List.mem_map, List.mem_filter] at h
  obtain ⟨g, ⟨hg, ho⟩, rfl⟩ := h
  obtain ⟨k, hk, rfl⟩ := List.getElem_of_mem hg
  exact ⟨k, hk, ho, rfl⟩
theorem mem_late {l : List Gv} {day : Int} {k : Nat} (hk : k < l.length) (h : ovr day l[k] = true) : l[k].id ∈ lateL l day := by
  unfold lateL
  exact List.mem_map.2 ⟨l[k], List.mem_filter.2 ⟨List.getElem_mem hk, h⟩, rfl⟩
theorem late_nodup {l : List Gv} (h : Ids l) (day : Int) : (lateL l day).Nodup := by
  have h1 : (l.map (·.id)).Nodup := by
    rw [List.nodup_iff_pairwise_ne, List.pairwise_iff_getElem]
    intro i j hi hj hij
    simp at hi hj
    simp only [List.getElem_map]
    rw [h i hi, h j hj]
    omega
  exact h1.sublist (List.Sublist.map _ List.filter_sublist)
theorem late_id {l : List Gv} (h : Ids l) {day : Int} {i : Nat} (hi : i < (lateL l day).length) : ∃ k, ∃ hk : k < l.length, ovr day l[k] = true ∧ (lateL l day)[i] = k + 1 := by
  obtain ⟨k, hk, h1, h2⟩ := late_mem (List.getElem_mem hi)
  exact ⟨k, hk, h1, by rw [← h2, h k hk]⟩

/-- one more that is over is turned -/
theorem late_step {l : List Gv} (h : Ids l) (day : Int) (i : Nat) (hi : i < (lateL l day).length) :
    turnE (exL l day ((lateL l day).take i)) (lateL l day)[i] 5 = 0 ∧ turnL (exL l day ((lateL l day).take i)) (lateL l day)[i] 5 = exL l day ((lateL l day).take (i + 1)) := by
  obtain ⟨k, hk, ho, he⟩ := late_id h hi
  have hno : ((lateL l day).take i).contains (lateL l day)[i] = false := by
    have := late_nodup h day
    rw [List.nodup_iff_pairwise_ne, List.pairwise_iff_getElem] at this
    rw [← Bool.not_eq_true, List.contains_iff_mem]
    intro hm
    obtain ⟨j, hj, e⟩ := List.getElem_of_mem hm
    simp at hj
    rw [List.getElem_take] at e
    exact this j i (by omega) hi (by omega) e
  have hS := take_snoc (lateL l day) i hi
  generalize hS0 : (lateL l day).take i = S at *
  rw [hS]
  rw [he] at hno ⊢
  have hN := exL_ids h day S
  have hlen := exL_length l day S
  have hkN : k < (exL l day S).length := by omega
  have hgat : gAt (exL l day S) ((k : Int) + 1) = k := by
    rcases gAt_cases (exL l day S) ((k : Int) + 1) with ⟨_, hn⟩ | ⟨j, hj, e1, e2, _⟩
    · have := hn k hkN
      rw [hN k hkN] at this
      simp at this
    · rw [hN j hj] at e2
      have : j = k := by simp at e2; omega
      rw [e1, this]
  have hNk : (exL l day S)[k] = l[k] := by
    rw [exL_get l day S k hkN hk]
    unfold exG
    rw [h k hk, hno]
    simp
  have hgd : (exL l day S).getD (gAt (exL l day S) ((k : Int) + 1)).toNat ⟨0, 0, 0, 0, 0, 0, 0, 0, 0, 0, 0⟩ = l[k] := by
    rw [hgat, ← hNk]
    simp [List.getD, hkN]
  constructor
  · unfold turnE
    rw [hgd, hgat, if_neg (by omega), if_neg (by omega), if_neg]
    unfold ovr at ho
    simp at ho
    simp [ho.1]
  · unfold turnL
    rw [hgd, hgat]
    apply List.ext_getElem
    · simp [exL]
    · intro j h1 h2
      have hj : j < l.length := by simpa [exL] using h2
      rw [exL_get l day _ j h2 hj, List.getElem_set]
      simp only [Int.toNat_natCast]
      split
      · rename_i e
        subst e
        unfold exG
        rw [if_pos]
        rw [ho, h k hk]
        simp
      · rename_i e
        rw [exL_get l day S j (by simpa [exL] using hj) hj]
        unfold exG
        have : (S ++ [(k : Int) + 1]).contains l[j].id = S.contains l[j].id := by
          rw [List.contains_eq_any_beq, List.contains_eq_any_beq, List.any_append]
          rw [h j hj]
          have : ((j : Int) + 1 == (k : Int) + 1) = false := by simp; omega
          simp [this]
        rw [this]
theorem late_all {l : List Gv} (day : Int) (k : Nat) (hk : k < l.length) : exG day (lateL l day) l[k] = if ovr day l[k] = true then { l[k] with st := 5 } else l[k] := by
  unfold exG
  by_cases ho : ovr day l[k] = true
  · have : (lateL l day).contains l[k].id = true := List.contains_iff_mem.2 (mem_late hk ho)
    rw [ho, this]
    simp
  · simp [ho]
theorem late_none (l : List Gv) (day : Int) : lateL (exL l day (lateL l day)) day = [] := by
  unfold lateL
  rw [List.map_eq_nil_iff, List.filter_eq_nil_iff]
  intro g hg
  unfold exL at hg
  rw [List.mem_map] at hg
  obtain ⟨x, hx, rfl⟩ := hg
  obtain ⟨k, hk, rfl⟩ := List.getElem_of_mem hx
  have := late_all day k hk
  unfold lateL at this
  rw [this]
  split
  · simp
  · rename_i ho
    unfold ovr at ho
    exact ho
end Go.Proofs.Ytaaknohoaijfhaa
