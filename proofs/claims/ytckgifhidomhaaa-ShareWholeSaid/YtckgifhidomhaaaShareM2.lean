/-
  Layer 3: the claims, sorted: the order of who gets one more.
-/
import Derived.Test.YtckgifhidomhaaaShareM
import Derived.Shelf.SlSortCmp.WholeK
namespace Go.Proofs.Ytckgifhidomhaaa
open Go.ChangeShapes Go.WideShapes Go.ChangeAt Go.RowKit
open Go.Sort (PermIn SortedIn SWO)
set_option linter.unusedVariables false
set_option linter.unusedSimpArgs false

/-- a claim: a place, what is left over there -/
abbrev Clm : Type := Fin 64 × Int
instance : Inhabited Clm := ⟨(0, 0)⟩
def encC (x : Clm) : List Value := [.int .i64 (x.1.val : Int), .int .i64 x.2]
def cfC (x y : Clm) : Int := if y.2 < x.2 then -1 else if x.2 < y.2 then 1 else (x.1.val : Int) - (y.1.val : Int)
theorem lt_iff (x y : Clm) : ltOf cfC x y = decide (y.2 < x.2 ∨ x.2 = y.2 ∧ x.1.val < y.1.val) := by
  unfold ltOf cfC
  by_cases h1 : y.2 < x.2
  · simp [h1]
  · by_cases h2 : x.2 < y.2
    · simp [h1, h2]; omega
    · have : x.2 = y.2 := by omega
      simp [this]; omega
theorem swoC : SWO (ltOf cfC) where
  irrefl x := by rw [lt_iff]; simp
  trans x y z h1 h2 := by rw [lt_iff] at *; simp at *; omega
  ntrans x y z h1 h2 := by rw [lt_iff] at *; simp at *; omega

/-- the claims as they are laid -/
def clms (r : List Int) : Array Clm := ((List.range r.length).map fun i => ((⟨i % 64, Nat.mod_lt _ (by omega)⟩ : Fin 64), r.getD i 0)).toArray
theorem clms_size (r : List Int) : (clms r).size = r.length := by simp [clms]
theorem order_of (r : List Int) (h64 : r.length ≤ 64) (d' : Array Clm) (hp : PermIn 0 r.length (clms r) d') (hs : SortedIn (ltOf cfC) 0 r.length d') :
    d'.size = r.length ∧ Order r (d'.toList.map fun x => x.1.val) := by
  obtain ⟨h1, _, h3⟩ := hp
  rw [clms_size] at h1
  have e1 : (d'.extract 0 r.length).toList = d'.toList := by rw [← h1]; simp
  have e2 : ((clms r).extract 0 r.length).toList = (clms r).toList := by
    have := clms_size r
    rw [← this]; simp
  rw [e1, e2] at h3
  have hmem : ∀ x ∈ d'.toList, x.2 = r.getD x.1.val 0 := by
    intro x hx
    have := h3.mem_iff.1 hx
    simp only [clms, List.mem_map, List.mem_range] at this
    obtain ⟨i, hi, rfl⟩ := this
    show r.getD i 0 = r.getD (i % 64) 0
    rw [Nat.mod_eq_of_lt (by omega)]
  refine ⟨h1, ?_, ?_⟩
  · have := h3.map fun x : Clm => x.1.val
    refine this.trans ?_
    simp only [clms, List.map_map]
    have e : (List.range r.length).map ((fun x : Clm => x.1.val) ∘ fun i => ((⟨i % 64, Nat.mod_lt _ (by omega)⟩ : Fin 64), r.getD i 0)) = List.range r.length := by
      conv => rhs; rw [← List.map_id (List.range r.length)]
      apply List.map_congr_left
      intro i hi
      have := List.mem_range.1 hi
      show i % 64 = i
      exact Nat.mod_eq_of_lt (by omega)
    rw [e]
  · rw [List.pairwise_map, List.pairwise_iff_getElem]
    intro i j hi hj hij
    have h := hs i j (Nat.zero_le _) hij (by simpa [h1] using hj)
    have hi' : i < d'.size := by simpa using hi
    have hj' : j < d'.size := by simpa using hj
    rw [getElem!_pos d' i hi', getElem!_pos d' j hj', lt_iff] at h
    have m1 := hmem d'[i] (by simp)
    have m2 := hmem d'[j] (by simp)
    simp only [Array.getElem_toList]
    rw [Bool.eq_false_iff, Ne, ahd_iff, ← m1, ← m2]
    have := of_decide_eq_false h
    omega
end Go.Proofs.Ytckgifhidomhaaa
