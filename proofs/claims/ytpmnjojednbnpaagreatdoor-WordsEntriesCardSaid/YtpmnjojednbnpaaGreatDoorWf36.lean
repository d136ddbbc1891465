import Derived.Test.YtpmnjojednbnpaaGreatDoorWf01
set_option maxHeartbeats 16000000
set_option maxRecDepth 100000
set_option linter.unusedVariables false
set_option linter.unusedSimpArgs false
namespace Go.Proofs.YtpmnjojednbnpaaGreatDoor
open Go.ChangeShapes Go.WideShapes Go.ChangeAt Go.RowKit
section
def lead : Nat → List Nat → Nat
  | 0, _ => 0
  | _ + 1, [] => 0
  | f + 1, c :: r => if 128 ≤ c then lead f r + 1 else 0
def val7 : List Nat → Nat
  | [] => 0
  | c :: r => c % 128 + 128 * val7 r
theorem lead_le : ∀ f l, lead f l ≤ f ∧ lead f l ≤ l.length
 | 0, l => by simp [lead]
 | f + 1, [] => by simp [lead]
 | f + 1, c :: r => by
  unfold lead
  split
  ·have := lead_le f r;rw [List.length_cons];omega
  ·omega
theorem grp_lead : ∀ (f acc : Nat) (bs : List Nat), f ≤ 9 →
  grp (f + 1) acc bs =
   if lead (f + 1) bs < f + 1 ∧ lead (f + 1) bs = bs.length then (4, (grp (f + 1) acc bs).2)
   else if lead (f + 1) bs = f + 1 ∨ (lead (f + 1) bs = f ∧ 1 < bs.getD (lead (f + 1) bs) 0) ∨ ((0 < lead (f + 1) bs ∨ f < 9) ∧ bs.getD (lead (f + 1) bs) 0 = 0) then (3, (grp (f + 1) acc bs).2)
   else (0, acc + val7 (bs.take (lead (f + 1) bs + 1)) * 2 ^ (7 * (9 - f)), bs.drop (lead (f + 1) bs + 1))
 | f, acc, [], hf => by
  have e : lead (f + 1) ([] : List Nat) = 0 := rfl;rw [if_pos ⟨by rw [e]; omega, by rw [e]; rfl⟩];rw [grp]
 | 0, acc, c :: r, hf => by
  by_cases h : 128 ≤ c
  ·have e : lead (0 + 1) (c :: r) = 1 := by simp [lead, h]
   rw [e];rw [if_neg (by simp), if_pos (.inl rfl)];rw [grp, if_pos (.inl ⟨rfl, by omega⟩)]
  ·have e : lead (0 + 1) (c :: r) = 0 := by simp [lead, h]
   rw [e];rw [if_neg (by simp)]
   by_cases h1 : 1 < c
   ·rw [if_pos (.inr (.inl ⟨rfl, by simpa using h1⟩)), grp, if_pos (.inl ⟨rfl, h1⟩)]
   ·by_cases h0 : c = 0
    ·rw [if_pos (.inr (.inr ⟨.inr (by omega), by simpa using h0⟩)), grp, if_pos (.inr ⟨by omega, h0⟩)]
    ·rw [if_neg (by simp; omega), grp, if_neg (by omega), if_pos (by omega)];simp [val7];omega
 | f + 1, acc, c :: r, hf => by
  have ih := grp_lead f (acc + (c % 128) * 2 ^ (7 * (9 - (f + 1)))) r (by omega);have hp := pow_step (f := f) hf
  by_cases h : 128 ≤ c
  ·have e : lead (f + 1 + 1) (c :: r) = lead (f + 1) r + 1 := by rw [lead, if_pos h]
   have eg : grp (f + 1 + 1) acc (c :: r) = grp (f + 1) (acc + (c % 128) * 2 ^ (7 * (9 - (f + 1)))) r := by
    rw [grp, if_neg (by omega), if_neg (by omega)]
   rw [e, eg];obtain ⟨n, hn⟩ : ∃ n, lead (f + 1) r = n := ⟨_, rfl⟩;rw [hn] at ih ⊢;have hg : (c :: r).getD (n + 1) 0 = r.getD n 0 := by simp
   rw [hg]
   by_cases h1 : n < f + 1 ∧ n = r.length
   ·rw [if_pos h1] at ih;rw [if_pos ⟨by omega, by rw [List.length_cons]; omega⟩];exact ih
   ·rw [if_neg h1] at ih;rw [if_neg (by rw [List.length_cons]; omega)]
    by_cases h2 : n = f + 1 ∨ (n = f ∧ 1 < r.getD n 0) ∨ ((0 < n ∨ f < 9) ∧ r.getD n 0 = 0)
    ·rw [if_pos h2] at ih;rw [if_pos (by omega)];exact ih
    ·rw [if_neg h2] at ih;rw [if_neg (by omega), ih]
     congr 2
     rw [List.take_succ_cons, val7, hp];rw [Nat.add_mul, Nat.add_assoc]
     congr 1
     congr 1
     rw [Nat.mul_comm 128, Nat.mul_assoc, Nat.mul_comm 128]
  ·have e : lead (f + 1 + 1) (c :: r) = 0 := by rw [lead, if_neg h]
   rw [e, if_neg (by simp)]
   by_cases h0 : c = 0 ∧ f + 1 < 9
   ·rw [if_pos (.inr (.inr ⟨.inr h0.2, by simpa using h0.1⟩)), grp, if_pos (.inr ⟨h0.2, h0.1⟩)]
   ·rw [if_neg (by simp; omega), grp, if_neg (by omega), if_pos (by omega)];simp [val7];rw [Nat.mod_eq_of_lt (by omega)]
theorem val7_lt : ∀ (l : List Nat), val7 l < 128 ^ l.length
 | [] => by simp [val7]
 | c :: r => by
  have := val7_lt r;rw [val7, List.length_cons, Nat.pow_succ];omega
theorem val7_snoc : ∀ (l : List Nat) (x : Nat), val7 (l ++ [x]) = val7 l + x % 128 * 128 ^ l.length
 | [], x => by simp [val7]
 | c :: r, x => by
  rw [List.cons_append, val7, val7_snoc r x, val7, List.length_cons, Nat.pow_succ, Nat.mul_add, ← Nat.add_assoc]
  congr 1
  rw [Nat.mul_comm 128, Nat.mul_assoc]
theorem val7_fits {B : List Nat} {n : Nat} (hn : n ≤ 9) (hl : n < B.length) (h9 : n = 9 → B.getD n 0 ≤ 1) (j : Nat) (hj : j ≤ n + 1) : val7 ((B.take (n + 1)).drop j) < 18446744073709551616 := by
 rcases Nat.lt_or_ge n 9 with h | h
 ·have h1 := val7_lt ((B.take (n + 1)).drop j);have h2 : ((B.take (n + 1)).drop j).length ≤ 9 := by rw [List.length_drop, List.length_take]; omega
  have h3 : (128 : Nat) ^ ((B.take (n + 1)).drop j).length ≤ 128 ^ 9 := Nat.pow_le_pow_right (by decide) h2;have h4 : (128 : Nat) ^ 9 = 9223372036854775808 := by decide
  omega
 ·have hn9 : n = 9 := by omega
  subst hn9;have hx := h9 rfl;have e : B.take (9 + 1) = B.take 9 ++ [B[9]] := List.take_succ_eq_append_getElem hl;have hg : B.getD 9 0 = B[9] := by rw [List.getD_eq_getElem?_getD, List.getElem?_eq_getElem hl]; rfl
  rw [hg] at hx
  rcases Nat.lt_or_ge j 10 with hj2 | hj2
  ·have h9l : (B.take 9).length = 9 := by rw [List.length_take]; omega
   rw [e, List.drop_append_of_le_length (by omega), val7_snoc];have h1 := val7_lt ((B.take 9).drop j);have h2 : ((B.take 9).drop j).length ≤ 9 := by rw [List.length_drop, List.length_take]; omega
   have h3 : (128 : Nat) ^ ((B.take 9).drop j).length ≤ 128 ^ 9 := Nat.pow_le_pow_right (by decide) h2;have h4 : (128 : Nat) ^ 9 = 9223372036854775808 := by decide
   have h5 : B[9] % 128 * 128 ^ ((B.take 9).drop j).length ≤ 1 * 128 ^ 9 := Nat.mul_le_mul (by omega) h3;omega
  ·have : (B.take (9 + 1)).drop j = [] := by
    apply List.drop_eq_nil_of_le
    rw [List.length_take]; omega
   rw [this];simp [val7]
theorem val7_step {l : List Nat} {j : Nat} (h : j < l.length) : val7 (l.drop j) = l[j] % 128 + 128 * val7 (l.drop (j + 1)) := by
 rw [List.drop_eq_getElem_cons h]; rfl
theorem lead_step {k : Nat} {B : List Nat} (hk : k < 10) (hl : k < B.length) (h : 128 ≤ B[k]) : lead (10 - k) (B.drop k) = lead (10 - (k + 1)) (B.drop (k + 1)) + 1 := by
 rw [List.drop_eq_getElem_cons hl, show 10 - k = (10 - (k + 1)) + 1 by omega, lead, if_pos h]
theorem lead_low {k : Nat} {B : List Nat} (hl : k < B.length) (h : ¬ 128 ≤ B[k]) : lead (10 - k) (B.drop k) = 0 := by
 rw [List.drop_eq_getElem_cons hl]
 cases 10 - k with
 | zero => rfl
 | succ f => rw [lead, if_neg h]
theorem lead_end {k : Nat} {B : List Nat} (h : ¬ k < B.length) : lead (10 - k) (B.drop k) = 0 := by
 rw [List.drop_eq_nil_of_le (by omega)]
 cases 10 - k <;> rfl
theorem rdI_lead (lo hi : Int) (B : List Nat) : rdI lo hi ⟨B, 0⟩ =
  if lead 10 B < 10 ∧ lead 10 B = B.length then (0, ⟨[], 4⟩)
  else if lead 10 B = 10 ∨ (lead 10 B = 9 ∧ 1 < B.getD (lead 10 B) 0) ∨ (0 < lead 10 B ∧ B.getD (lead 10 B) 0 = 0) then (0, ⟨[], 3⟩)
  else if uz (val7 (B.take (lead 10 B + 1))) < lo ∨ hi < uz (val7 (B.take (lead 10 B + 1))) then (0, ⟨[], 7⟩)
  else (uz (val7 (B.take (lead 10 B + 1))), ⟨B.drop (lead 10 B + 1), 0⟩) := by
 have h := grp_lead 9 0 B (Nat.le_refl _);have e10 : (9 : Nat) + 1 = 10 := rfl;rw [e10] at h;unfold rdI;rw [if_neg (by simp)];simp only
 by_cases h1 : lead 10 B < 10 ∧ lead 10 B = B.length
 ·rw [if_pos h1] at h;rw [if_pos h1, h, if_pos (by simp)]
 ·rw [if_neg h1] at h;rw [if_neg h1]
  by_cases h2 : lead 10 B = 10 ∨ (lead 10 B = 9 ∧ 1 < B.getD (lead 10 B) 0) ∨ (0 < lead 10 B ∧ B.getD (lead 10 B) 0 = 0)
  ·rw [if_pos (by omega)] at h;rw [if_pos h2, h, if_pos (by simp)]
  ·rw [if_neg (by omega)] at h;rw [if_neg h2, h, if_neg (by simp)];simp
end
end Go.Proofs.YtpmnjojednbnpaaGreatDoor
