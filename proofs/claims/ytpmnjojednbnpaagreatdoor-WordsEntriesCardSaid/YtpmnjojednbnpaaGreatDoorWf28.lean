import Derived.Test.YtpmnjojednbnpaaGreatDoorWf27
set_option maxHeartbeats 16000000
set_option maxRecDepth 100000
set_option linter.unusedVariables false
set_option linter.unusedSimpArgs false
namespace Go.Proofs.YtpmnjojednbnpaaGreatDoor
open Go.ChangeShapes Go.WideShapes Go.ChangeAt Go.RowKit
section
def restR (L : List Nat) (i : Nat) (d : Dz) : Option Dz :=
  match i with
  | 0 => match d.P with
    | [] => none
    | y :: r => match numD y with
      | none => none
      | some b => docF L ⟨d.z.set 1 b, d.nums, r⟩
  | j + 1 => docF (L.drop j) d
def endR (R : Option Dz) : Option Dz :=
  match R with
  | none => none
  | some d => if d.P = [] ∧ isZ d.z d.nums.length = true then some d else none
theorem docC_rest {l : List UInt8} {x : List UInt8} {r : List (List UInt8)} (h : splD 32 l = x :: r) : docC l = endR (restR (fldL (opB x)) 0 ⟨[opB x, 0, 0, 0, 0, 0, 0, 0, 0, 0, 0, 0, 0], [], r⟩) := by
 unfold docC;rw [h]
 cases r with
 | nil => rfl
 | cons y r =>
  simp only [restR]
  cases hy : numD y with
  | none => rfl
  | some b =>
   simp only [List.set_cons_succ, List.set_cons_zero]
   cases hf : docF (fldL (opB x)) ⟨[opB x, b, 0, 0, 0, 0, 0, 0, 0, 0, 0, 0, 0], [], r⟩ <;> rfl
theorem rest_nil {L : List Nat} {f j : Nat} {z nums : List Int} (hj : j < L.length) (hf : L[j] = f) (h78 : f ≠ 78) : restR L (j + 1) ⟨z, nums, []⟩ = none := by
 show docF (L.drop j) _ = none
 rw [List.drop_eq_getElem_cons hj, hf, docF, docS, if_neg h78];rfl
theorem rest_word {L : List Nat} {f j : Nat} {z nums : List Int} {w : List UInt8} {r : List (List UInt8)} (hj : j < L.length) (hf : L[j] = f) (h78 : f ≠ 78) : restR L (j + 1) ⟨z, nums, w :: r⟩ = (wordD (slotL f).length w).bind fun vs => restR L (j + 2) ⟨putV (slotL f) vs z, nums, r⟩ := by
 show docF (L.drop j) _ = _
 rw [List.drop_eq_getElem_cons hj, hf, docF, docS, if_neg h78];simp only
 cases hw : wordD (slotL f).length w <;> rfl
theorem rest_nums {L : List Nat} {j : Nat} {z nums : List Int} {P : List (List UInt8)} (hj : j < L.length) (hf : L[j] = 78) : restR L (j + 1) ⟨z, nums, P⟩ = (numsD P).bind fun ns => restR L (j + 2) ⟨z, nums ++ ns, []⟩ := by
 show docF (L.drop j) _ = _
 rw [List.drop_eq_getElem_cons hj, hf, docF, docS, if_pos rfl]
 cases hw : numsD P <;> rfl
def letR (L : List Nat) (k : Nat) : Nat := if k = 0 then 66 else L.getD (k - 1) 0
def slotG (F : Nat) : List (Nat × Int) := if F = 66 then [(1, 8)] else slotL F
theorem letR_at {L : List Nat} {j : Nat} (hj : j < L.length) : letR L (j + 1) = L[j] := by
 unfold letR;rw [if_neg (by omega), Nat.add_sub_cancel, List.getD_eq_getElem?_getD, List.getElem?_eq_getElem hj];rfl
theorem restG_nil {L : List Nat} {k F : Nat} {z nums : List Int} (hk : k ≤ L.length) (hF : letR L k = F) (h78 : F ≠ 78) : restR L k ⟨z, nums, []⟩ = none := by
 cases k with
 | zero => rfl
 | succ j =>
  rw [letR_at (by omega)] at hF;exact rest_nil (by omega) hF h78
theorem restG_word {L : List Nat} {k F : Nat} {z nums : List Int} {w : List UInt8} {r : List (List UInt8)} (hk : k ≤ L.length) (hF : letR L k = F) (h66 : F = 66 → k = 0) (h78 : F ≠ 78) : restR L k ⟨z, nums, w :: r⟩ = (wordD (slotG F).length w).bind fun vs => restR L (k + 1) ⟨putV (slotG F) vs z, nums, r⟩ := by
 cases k with
 | zero =>
  have e : F = 66 := hF.symm;subst e
  show (match numD w with | none => none | some b => docF L ⟨z.set 1 b, nums, r⟩) = _
  have e2 : wordD (slotG 66).length w = (numD w).map fun n => [n] := rfl;rw [e2]
  cases numD w <;> rfl
 | succ j =>
  have e : slotG F = slotL F := by
   unfold slotG;rw [if_neg (fun h => by have := h66 h; omega)]
  rw [letR_at (by omega)] at hF;rw [e];exact rest_word (by omega) hF h78
theorem restG_nums {L : List Nat} {k : Nat} {z nums : List Int} {P : List (List UInt8)} (hk : k ≤ L.length) (hF : letR L k = 78) : restR L k ⟨z, nums, P⟩ = (numsD P).bind fun ns => restR L (k + 1) ⟨z, nums ++ ns, []⟩ := by
 cases k with
 | zero => cases hF
 | succ j =>
  rw [letR_at (by omega)] at hF;exact rest_nums (by omega) hF
theorem slotG_one {F : Nat} (h : F = 66 ∨ F = 77 ∨ F = 85 ∨ F = 79 ∨ F = 73 ∨ F = 65 ∨ F = 84 ∨ F = 68 ∨ F = 81 ∨ F = 80 ∨ F = 78) (hU : ¬ (F = 85 ∨ F = 79)) (h78 : F ≠ 78) : ¬ (slotG F).length = 2 := by
 rcases h with rfl | rfl | rfl | rfl | rfl | rfl | rfl | rfl | rfl | rfl | rfl
 all_goals first | decide | exact absurd (.inl rfl) hU | exact absurd (.inr rfl) hU | exact absurd rfl h78
theorem lastN_at : ∀ (L : List Nat) (k : Nat), lastN L = true → (h : k < L.length) → L[k] = 78 → k + 1 = L.length
 | [f], k, _, h, _ => by simp at h; simp [h]
 | f :: g :: r, 0, hl, _, h0 => by
  simp only [lastN, Bool.and_eq_true, bne_iff_ne, ne_eq] at hl;exact absurd h0 hl.1
 | f :: g :: r, k + 1, hl, h, h0 => by
  simp only [lastN, Bool.and_eq_true] at hl;have := lastN_at (g :: r) k hl.2 (by simpa using h) (by simpa using h0);simp only [List.length_cons] at *;omega
theorem letR_last {L : List Nat} {k : Nat} (hl : lastN L = true) (hk : k ≤ L.length) (hF : letR L k = 78) : k = L.length := by
 cases k with
 | zero => cases hF
 | succ j =>
  have hj : j < L.length := by omega
  rw [letR_at hj] at hF;exact lastN_at L j hl hj hF
theorem restG_end {L : List Nat} {d : Dz} : restR L (L.length + 1) d = some d := by
 show docF (L.drop L.length) d = some d
 rw [List.drop_length];rfl
theorem numsD_app : ∀ (P Q : List (List UInt8)), numsD (P ++ Q) = match numsD P, numsD Q with
  | some a, some b => some (a ++ b)
  | _, _ => none
 | [], Q => by
  rw [List.nil_append];simp only [numsD]
  cases numsD Q <;> rfl
 | w :: P, Q => by
  rw [List.cons_append, numsD, numsD_app P Q, numsD]
  cases numD w <;> cases numsD P <;> cases numsD Q <;> rfl
theorem names_op {k : Nat} (hk : k < 31) (x : List UInt8) : opsW.getD k [] = x ↔ opB x = (k : Int) + 1 := by
 have hw : wordB ((k : Int) + 1) = opsW.getD k [] := by
  unfold wordB;rw [if_pos (by omega)]
  congr 1
  omega
 constructor
 ·rintro rfl;rw [← hw, op_word (by omega)]
 ·intro h;have := word_op (x := x) (by omega);rw [← hw, ← h, this]
def opK (x : List UInt8) (k : Nat) : Int := if opB x ≤ (k : Int) then opB x else 0
def DPR (w' : World) (e : Ending) (R : Option Dz) : Prop :=
  match R with
  | none => e = .returned (.tuple #[.agg #[.int .i64 0, .int .i64 0, .int .i64 0, .int .i64 0, .int .i64 0, .int .i64 0, .int .i64 0, .int .i64 0, .int .i64 0, .int .i64 0, .int .i64 0, .int .i64 0, .int .i64 0, .slice none 0 0], .int .i64 3])
  | some d => ∃ A c, e = .returned (.tuple #[.agg (cbox d.z (.slice A d.nums.length c)), .int .i64 0]) ∧ d.nums.length ≤ c ∧ c ≤ maxLen ∧ Sl w' A (ints .i64 d.nums)
def docR (l : List UInt8) : Option Dz := match splD 32 l with
  | [] => none
  | x :: r => restR (fldL (opB x)) 0 ⟨[opB x, 0, 0, 0, 0, 0, 0, 0, 0, 0, 0, 0, 0], [], r⟩
end
end Go.Proofs.YtpmnjojednbnpaaGreatDoor
