import Derived.Test.YtpmnjojednbnpaaGreatDoorWf01
set_option maxHeartbeats 16000000
set_option maxRecDepth 100000
set_option linter.unusedVariables false
set_option linter.unusedSimpArgs false
namespace Go.Proofs.YtpmnjojednbnpaaGreatDoor
open Go.ChangeShapes Go.WideShapes Go.ChangeAt Go.RowKit
section
def fldL (op : Int) : List Nat :=
  if op = 1 ∨ op = 6 ∨ op = 21 then [77, 81] else if op = 2 then [73, 81, 80, 78] else if op = 3 then [65, 80, 81] else if op = 4 then [85, 77, 68]
  else if op = 5 ∨ op = 22 ∨ (26 ≤ op ∧ op ≤ 29) then [85] else if op = 7 ∨ op = 8 ∨ op = 24 then [85, 79, 73, 81, 80] else if 9 ≤ op ∧ op ≤ 11 then [68]
  else if op = 12 then [85, 73, 78] else if op = 13 then [68, 79, 81] else if op = 14 then [73, 80] else if op = 15 then [65, 80] else if op = 17 ∨ op = 18 then [85, 65, 84, 81]
  else if op = 19 ∨ op = 20 then [85, 79] else if op = 23 ∨ op = 25 ∨ op = 31 then [77] else []
def slotL (f : Nat) : List (Nat × Int) :=
  if f = 77 then [(2, 8)] else if f = 85 then [(3, 16), (4, 16)] else if f = 79 then [(5, 16), (6, 16)] else if f = 73 then [(7, 8)] else if f = 65 then [(8, 4)]
  else if f = 84 then [(9, 255)] else if f = 68 then [(10, 1048576)] else if f = 81 then [(11, -1)] else if f = 80 then [(12, -1)] else []
def fitS (z : List Int) (s : Nat × Int) : Bool := decide (s.2 < 0 ∨ (0 ≤ z.getD s.1 0 ∧ z.getD s.1 0 ≤ s.2))
def stpZ : List (Nat × Int) → List Int → Bool × List Int
  | [], z => (true, z)
  | s :: r, z => (fitS z s && (stpZ r (z.set s.1 0)).1, (stpZ r (z.set s.1 0)).2)
def chkZ : List Nat → List Int → Bool × List Int
  | [], z => (true, z)
  | f :: r, z => ((stpZ (slotL f) z).1 && (chkZ r (stpZ (slotL f) z).2).1, (chkZ r (stpZ (slotL f) z).2).2)
def sing : List Nat := [77, 85, 79, 73, 65, 84, 68, 81, 80]
def zeroZ (z : List Int) : Bool := sing.all fun f => (slotL f).all fun s => decide (z.getD s.1 0 = 0)
def okZ (z : List Int) (n : Nat) : Bool :=
  decide (1 ≤ z.getD 0 0 ∧ z.getD 0 0 ≤ 31 ∧ 0 ≤ z.getD 1 0 ∧ z.getD 1 0 ≤ 8 ∧ n ≤ 32) && (chkZ (fldL (z.getD 0 0)) z).1 && zeroZ (chkZ (fldL (z.getD 0 0)) z).2 && (decide (n = 0) || (fldL (z.getD 0 0)).contains 78)
def wthI (n t : Int) (b : Bool) : Bool := decide (n = 0) || (b && decide (0 < n ∧ n ≤ t))
def isZ (z : List Int) (n : Nat) : Bool :=
  let f := fldL (z.getD 0 0)
  decide (1 ≤ z.getD 0 0 ∧ z.getD 0 0 ≤ 31 ∧ 0 ≤ z.getD 1 0 ∧ z.getD 1 0 ≤ 8) &&
  (wthI (z.getD 2 0) 8 (f.contains 77) && wthI (z.getD 7 0) 8 (f.contains 73) && wthI (z.getD 8 0) 4 (f.contains 65) && wthI (z.getD 9 0) 255 (f.contains 84) && wthI (z.getD 10 0) 1048576 (f.contains 68)) &&
  (wthI (z.getD 3 0) 16 (f.contains 85) && wthI (z.getD 4 0) 16 (f.contains 85) && wthI (z.getD 5 0) 16 (f.contains 79) && wthI (z.getD 6 0) 16 (f.contains 79)) &&
  ((decide (z.getD 11 0 = 0) || f.contains 81) && (decide (z.getD 12 0 = 0) || f.contains 80)) &&
  (decide (n = 0) || (f.contains 78 && decide (n ≤ 32)))
theorem ok_isE (z0 z1 z2 z3 z4 z5 z6 z7 z8 z9 z10 z11 z12 : Int) (n : Nat) : okZ [z0, z1, z2, z3, z4, z5, z6, z7, z8, z9, z10, z11, z12] n = isZ [z0, z1, z2, z3, z4, z5, z6, z7, z8, z9, z10, z11, z12] n := by
 by_cases h : 1 ≤ z0 ∧ z0 ≤ 31
 ·have h2 : z0 = 1 ∨ z0 = 2 ∨ z0 = 3 ∨ z0 = 4 ∨ z0 = 5 ∨ z0 = 6 ∨ z0 = 7 ∨ z0 = 8 ∨ z0 = 9 ∨ z0 = 10 ∨ z0 = 11 ∨ z0 = 12 ∨ z0 = 13 ∨ z0 = 14 ∨ z0 = 15 ∨ z0 = 16 ∨ z0 = 17 ∨ z0 = 18 ∨ z0 = 19 ∨ z0 = 20 ∨ z0 = 21 ∨ z0 = 22 ∨ z0 = 23 ∨ z0 = 24 ∨ z0 = 25 ∨ z0 = 26 ∨ z0 = 27 ∨ z0 = 28 ∨ z0 = 29 ∨ z0 = 30 ∨ z0 = 31 := by omega
  rw [Bool.eq_iff_iff];clear h
  rcases h2 with rfl | rfl | rfl | rfl | rfl | rfl | rfl | rfl | rfl | rfl | rfl | rfl | rfl | rfl | rfl | rfl | rfl | rfl | rfl | rfl | rfl | rfl | rfl | rfl | rfl | rfl | rfl | rfl | rfl | rfl | rfl
  all_goals
   simp [okZ, isZ, fldL, chkZ, stpZ, slotL, fitS, zeroZ, sing, wthI];omega
 ·have e1 : okZ [z0, z1, z2, z3, z4, z5, z6, z7, z8, z9, z10, z11, z12] n = false := by
   rw [Bool.eq_false_iff];intro hc;simp only [okZ, Bool.and_eq_true, decide_eq_true_eq] at hc;exact h ⟨hc.1.1.1.1, hc.1.1.1.2.1⟩
  have e2 : isZ [z0, z1, z2, z3, z4, z5, z6, z7, z8, z9, z10, z11, z12] n = false := by
   rw [Bool.eq_false_iff];intro hc;simp only [isZ, Bool.and_eq_true, decide_eq_true_eq] at hc;exact h ⟨hc.1.1.1.1.1, hc.1.1.1.1.2.1⟩
  rw [e1, e2]
theorem ok_is {z : List Int} (h : z.length = 13) (n : Nat) : okZ z n = isZ z n := by
 match z, h with
 | [z0, z1, z2, z3, z4, z5, z6, z7, z8, z9, z10, z11, z12], _ => exact ok_isE ..
def encV (z nums : List Int) (f : Nat) : List Int := if f = 78 then (nums.length : Int) :: nums else (slotL f).map fun s => z.getD s.1 0
def encC (z nums : List Int) : List Int := z.getD 0 0 :: z.getD 1 0 :: (fldL (z.getD 0 0)).flatMap (encV z nums)
def rdM (s : Rs) : Int × Rs := rdI (-9223372036854775808) 9223372036854775807 s
def rdS : List (Nat × Int) → List Int → Rs → List Int × Rs
  | [], z, s => (z, s)
  | p :: r, z, s => rdS r (z.set p.1 (rdM s).1) (rdM s).2
def rdNs : Nat → Rs → List Int × Rs
  | 0, s => ([], s)
  | k + 1, s => ((rdM s).1 :: (rdNs k (rdM s).2).1, (rdNs k (rdM s).2).2)
structure Dc where
  z : List Int
  nums : List Int
  s : Rs
def rdF1 (f : Nat) (d : Dc) : Dc := if f = 78 then ⟨d.z, (rdNs (rdI 0 32 d.s).1.toNat (rdI 0 32 d.s).2).1, (rdNs (rdI 0 32 d.s).1.toNat (rdI 0 32 d.s).2).2⟩ else ⟨(rdS (slotL f) d.z d.s).1, d.nums, (rdS (slotL f) d.z d.s).2⟩
def rdF (l : List Nat) (d : Dc) : Dc := l.foldl (fun d f => rdF1 f d) d
def decC (bs : List Nat) : Dc := rdF (fldL (rdM ⟨bs, 0⟩).1) ⟨[(rdM ⟨bs, 0⟩).1, (rdM (rdM ⟨bs, 0⟩).2).1, 0, 0, 0, 0, 0, 0, 0, 0, 0, 0, 0], [], (rdM (rdM ⟨bs, 0⟩).2).2⟩
theorem rdM_pack {n : Int} (h : In64p n) (r : List Nat) : rdM ⟨packI n ++ r, 0⟩ = (n, ⟨r, 0⟩) := rdI_pack h h.1 h.2 r
theorem rdM_pack1 {n : Int} (h : In64p n) : rdM ⟨packI n, 0⟩ = (n, ⟨[], 0⟩) := by
 have := rdM_pack h []
 rwa [List.append_nil] at this
theorem rdNs_pack : ∀ (l : List Int), (∀ x ∈ l, In64p x) → ∀ r, rdNs l.length ⟨packL l ++ r, 0⟩ = (l, ⟨r, 0⟩)
 | [], _, r => by simp [rdNs, packL]
 | x :: l, h, r => by
  have e := rdNs_pack l (fun y hy => h y (by simp [hy])) r;have e2 := rdM_pack (h x (by simp)) (packL l ++ r);rw [packL_cons, List.append_assoc, List.length_cons, rdNs, e2, e]
theorem dec_encE (z0 z1 z2 z3 z4 z5 z6 z7 z8 z9 z10 z11 z12 : Int) (nums : List Int) (hn : ∀ x ∈ nums, In64p x)
  (h0 : In64p z0) (h1 : In64p z1) (h2 : In64p z2) (h3 : In64p z3) (h4 : In64p z4) (h5 : In64p z5) (h6 : In64p z6) (h7 : In64p z7) (h8 : In64p z8) (h9 : In64p z9) (h10 : In64p z10) (h11 : In64p z11) (h12 : In64p z12)
  (h : isZ [z0, z1, z2, z3, z4, z5, z6, z7, z8, z9, z10, z11, z12] nums.length = true) :
  decC (packL (encC [z0, z1, z2, z3, z4, z5, z6, z7, z8, z9, z10, z11, z12] nums)) = ⟨[z0, z1, z2, z3, z4, z5, z6, z7, z8, z9, z10, z11, z12], nums, ⟨[], 0⟩⟩ := by
 have hop : 1 ≤ z0 ∧ z0 ≤ 31 := by
  simp only [isZ, Bool.and_eq_true, decide_eq_true_eq] at h;exact ⟨h.1.1.1.1.1, h.1.1.1.1.2.1⟩
 have hq : z0 = 1 ∨ z0 = 2 ∨ z0 = 3 ∨ z0 = 4 ∨ z0 = 5 ∨ z0 = 6 ∨ z0 = 7 ∨ z0 = 8 ∨ z0 = 9 ∨ z0 = 10 ∨ z0 = 11 ∨ z0 = 12 ∨ z0 = 13 ∨ z0 = 14 ∨ z0 = 15 ∨ z0 = 16 ∨ z0 = 17 ∨ z0 = 18 ∨ z0 = 19 ∨ z0 = 20 ∨ z0 = 21 ∨ z0 = 22 ∨ z0 = 23 ∨ z0 = 24 ∨ z0 = 25 ∨ z0 = 26 ∨ z0 = 27 ∨ z0 = 28 ∨ z0 = 29 ∨ z0 = 30 ∨ z0 = 31 := by omega
 clear hop;have hNP : ∀ r, rdNs nums.length ⟨packL nums ++ r, 0⟩ = (nums, ⟨r, 0⟩) := rdNs_pack nums hn;have hNL : nums.length ≤ 32 → ∀ r, rdI 0 32 ⟨packI (nums.length : Int) ++ r, 0⟩ = ((nums.length : Int), ⟨r, 0⟩) := fun hl r => rdI_pack (by unfold In64p; omega) (by omega) (by omega) r
 have hNP1 : rdNs nums.length ⟨packL nums, 0⟩ = (nums, ⟨[], 0⟩) := by
  have := hNP []
  rwa [List.append_nil] at this
 have hN0 : packL [] = [] := rfl
 rcases hq with rfl | rfl | rfl | rfl | rfl | rfl | rfl | rfl | rfl | rfl | rfl | rfl | rfl | rfl | rfl | rfl | rfl | rfl | rfl | rfl | rfl | rfl | rfl | rfl | rfl | rfl | rfl | rfl | rfl | rfl | rfl
 all_goals
  simp [isZ, wthI, fldL] at h
  have hl : nums.length ≤ 32 := by
   first
    | (have := h.2; subst this; exact Nat.zero_le _)
    | (rcases h.2 with h | h <;> first | (subst h; exact Nat.zero_le _) | exact h)
  have hNI := hNL hl
  try rw [h.2] at hNI hNP hNP1 hn ⊢
  simp [decC, encC, fldL, encV, slotL, packL_cons, List.append_assoc, rdM_pack, rdM_pack1, hN0, rdF, rdF1, rdS, *]
def rdV : List (Nat × Int) → Rs → List Int
  | [], _ => []
  | _ :: r, s => (rdM s).1 :: rdV r (rdM s).2
theorem rdM_err {s : Rs} (h : s.err ≠ 0) : (rdM s).2.err ≠ 0 := by
 unfold rdM rdI;rw [if_pos h];exact h
theorem rdM_oct {s : Rs} (h : ∀ c ∈ s.B, c < 256) (h0 : s.err = 0) (he : (rdM s).2.err = 0) : s.B = packI (rdM s).1 ++ (rdM s).2.B ∧ In64p (rdM s).1 ∧ ∀ c ∈ (rdM s).2.B, c < 256 := by
 obtain ⟨h1, h2, _⟩ := rdI_back (lo := -9223372036854775808) (hi := 9223372036854775807) h (n := (rdM s).1) (s' := (rdM s).2) rfl he h0;refine ⟨h1, h2, fun c hc => h c ?_⟩;rw [h1];exact List.mem_append_right _ hc
theorem rdNs_err : ∀ k (s : Rs), s.err ≠ 0 → (rdNs k s).2.err ≠ 0
 | 0, s, h => h
 | k + 1, s, h => rdNs_err k _ (rdM_err h)
theorem rdNs_back : ∀ k (s : Rs), (∀ c ∈ s.B, c < 256) → s.err = 0 → (rdNs k s).2.err = 0 → s.B = packL (rdNs k s).1 ++ (rdNs k s).2.B ∧ (rdNs k s).1.length = k ∧ (∀ x ∈ (rdNs k s).1, In64p x) ∧ ∀ c ∈ (rdNs k s).2.B, c < 256
 | 0, s, h, h0, he => ⟨by simp [rdNs, packL], rfl, (fun x hx => by cases hx), h⟩
 | k + 1, s, h, h0, he => by
  have h1 : (rdM s).2.err = 0 := by
   rcases Classical.em ((rdM s).2.err = 0) with h1 | h1
   ·exact h1
   ·exact absurd he (rdNs_err k _ h1)
  obtain ⟨e1, e2, e3⟩ := rdM_oct h h0 h1;obtain ⟨e4, e5, e6, e7⟩ := rdNs_back k _ e3 h1 he
  refine ⟨?_, by simp [rdNs, e5], fun x hx => ?_, e7⟩
  ·rw [e1]
   show _ = packL ((rdM s).1 :: (rdNs k (rdM s).2).1) ++ (rdNs k (rdM s).2).2.B
   rw [packL_cons, List.append_assoc, ← e4]
  ·rcases List.mem_cons.1 hx with rfl | hx
   ·exact e2
   ·exact e6 x hx
def rdV1 (f : Nat) (s : Rs) : List Int := if f = 78 then ((rdNs (rdI 0 32 s).1.toNat (rdI 0 32 s).2).1.length : Int) :: (rdNs (rdI 0 32 s).1.toNat (rdI 0 32 s).2).1 else rdV (slotL f) s
def rdVF : List Nat → Dc → List Int
  | [], _ => []
  | f :: r, d => rdV1 f d.s ++ rdVF r (rdF1 f d)
theorem rdI_within {lo hi : Int} (s : Rs) (h1 : lo ≤ 0) (h2 : 0 ≤ hi) : lo ≤ (rdI lo hi s).1 ∧ (rdI lo hi s).1 ≤ hi := by
 unfold rdI
 split
 ·exact ⟨h1, h2⟩
 ·split
  ·exact ⟨h1, h2⟩
  ·split
   ·exact ⟨h1, h2⟩
   ·simp only; omega
theorem rdM_in (s : Rs) : In64p (rdM s).1 := rdI_within s (by decide) (by decide)
theorem rdI_errK {lo hi : Int} {s : Rs} (h : s.err ≠ 0) : (rdI lo hi s).2.err ≠ 0 := by
 unfold rdI;rw [if_pos h];exact h
theorem rdS_err : ∀ (l : List (Nat × Int)) (z : List Int) (s : Rs), s.err ≠ 0 → (rdS l z s).2.err ≠ 0
 | [], _, _, h => h
 | _ :: r, _, _, h => rdS_err r _ _ (rdM_err h)
theorem rdF1_err {f : Nat} {d : Dc} (h : d.s.err ≠ 0) : (rdF1 f d).s.err ≠ 0 := by
 unfold rdF1
 split
 ·exact rdNs_err _ _ (rdI_errK h)
 ·exact rdS_err _ _ _ h
theorem rdF_cons (f : Nat) (l : List Nat) (d : Dc) : rdF (f :: l) d = rdF l (rdF1 f d) := rfl
theorem rdF_err : ∀ (l : List Nat) (d : Dc), d.s.err ≠ 0 → (rdF l d).s.err ≠ 0
 | [], _, h => h
 | f :: r, d, h => by rw [rdF_cons]; exact rdF_err r _ (rdF1_err h)
theorem rdS_back : ∀ (l : List (Nat × Int)) (z : List Int) (s : Rs), (∀ c ∈ s.B, c < 256) → s.err = 0 → (rdS l z s).2.err = 0 → s.B = packL (rdV l s) ++ (rdS l z s).2.B ∧ ∀ c ∈ (rdS l z s).2.B, c < 256
 | [], z, s, h, _, _ => ⟨by simp [rdS, rdV, packL], h⟩
 | p :: r, z, s, h, h0, he => by
  have h1 : (rdM s).2.err = 0 := by
   rcases Classical.em ((rdM s).2.err = 0) with h1 | h1
   ·exact h1
   ·exact absurd he (rdS_err r _ _ h1)
  obtain ⟨e1, e2, e3⟩ := rdM_oct h h0 h1;obtain ⟨e4, e5⟩ := rdS_back r (z.set p.1 (rdM s).1) _ e3 h1 he;refine ⟨?_, e5⟩;rw [e1]
  show _ = packL ((rdM s).1 :: rdV r (rdM s).2) ++ (rdS r (z.set p.1 (rdM s).1) (rdM s).2).2.B
  rw [packL_cons, List.append_assoc, ← e4]
theorem rdF1_back {f : Nat} {d : Dc} (h : ∀ c ∈ d.s.B, c < 256) (h0 : d.s.err = 0) (he : (rdF1 f d).s.err = 0) : d.s.B = packL (rdV1 f d.s) ++ (rdF1 f d).s.B ∧ ∀ c ∈ (rdF1 f d).s.B, c < 256 := by
 unfold rdF1 rdV1 at *
 split at he
 ·rename_i hf
  rw [if_pos hf, if_pos hf];simp only at he ⊢
  have h1 : (rdI 0 32 d.s).2.err = 0 := by
   rcases Classical.em ((rdI 0 32 d.s).2.err = 0) with h1 | h1
   ·exact h1
   ·exact absurd he (rdNs_err _ _ h1)
  obtain ⟨e1, e2, _⟩ := rdI_back (lo := 0) (hi := 32) h (n := (rdI 0 32 d.s).1) (s' := (rdI 0 32 d.s).2) rfl h1 h0;have e3 : ∀ c ∈ (rdI 0 32 d.s).2.B, c < 256 := fun c hc => h c (by rw [e1]; exact List.mem_append_right _ hc);obtain ⟨e4, e5, e6, e7⟩ := rdNs_back (rdI 0 32 d.s).1.toNat (rdI 0 32 d.s).2 e3 h1 he;refine ⟨?_, e7⟩;have hw := rdI_within (lo := 0) (hi := 32) d.s (by decide) (by decide);have e8 : (((rdNs (rdI 0 32 d.s).1.toNat (rdI 0 32 d.s).2).1.length : Nat) : Int) = (rdI 0 32 d.s).1 := by rw [e5]; omega
  rw [packL_cons, e8, List.append_assoc, ← e4];exact e1
 ·rename_i hf
  rw [if_neg hf, if_neg hf];exact rdS_back _ _ _ h h0 he
theorem rdF_back : ∀ (l : List Nat) (d : Dc), (∀ c ∈ d.s.B, c < 256) → d.s.err = 0 → (rdF l d).s.err = 0 → d.s.B = packL (rdVF l d) ++ (rdF l d).s.B
 | [], d, h, _, _ => by simp [rdF, rdVF, packL]
 | f :: r, d, h, h0, he => by
  rw [rdF_cons] at he ⊢
  have h1 : (rdF1 f d).s.err = 0 := by
   rcases Classical.em ((rdF1 f d).s.err = 0) with h1 | h1
   ·exact h1
   ·exact absurd he (rdF_err r _ h1)
  obtain ⟨e1, e2⟩ := rdF1_back h h0 h1;have e3 := rdF_back r _ e2 h1 he;rw [rdVF, packL_append, List.append_assoc, ← e3];exact e1
theorem fldL_cases (op : Int) : fldL op = [77, 81] ∨ fldL op = [73, 81, 80, 78] ∨ fldL op = [65, 80, 81] ∨ fldL op = [85, 77, 68] ∨ fldL op = [85] ∨ fldL op = [85, 79, 73, 81, 80] ∨ fldL op = [68] ∨ fldL op = [85, 73, 78] ∨ fldL op = [68, 79, 81] ∨ fldL op = [73, 80] ∨ fldL op = [65, 80] ∨ fldL op = [85, 65, 84, 81] ∨ fldL op = [85, 79] ∨ fldL op = [77] ∨ fldL op = [] := by
 have aux : ∀ {p : Prop} [Decidable p] {a b : List Nat} {M : List Nat → Prop}, M a → M b → M (if p then a else b) := fun ha hb => by
  split
  ·exact ha
  ·exact hb
 unfold fldL;refine aux (M := fun l => l = _ ∨ l = _ ∨ l = _ ∨ l = _ ∨ l = _ ∨ l = _ ∨ l = _ ∨ l = _ ∨ l = _ ∨ l = _ ∨ l = _ ∨ l = _ ∨ l = _ ∨ l = _ ∨ l = _) (by simp) ?_
 iterate 13 refine aux (M := fun l => l = _ ∨ l = _ ∨ l = _ ∨ l = _ ∨ l = _ ∨ l = _ ∨ l = _ ∨ l = _ ∨ l = _ ∨ l = _ ∨ l = _ ∨ l = _ ∨ l = _ ∨ l = _ ∨ l = _) (by simp) ?_
 simp
theorem rdVF_enc (op b : Int) (s : Rs) : op :: b :: rdVF (fldL op) ⟨[op, b, 0, 0, 0, 0, 0, 0, 0, 0, 0, 0, 0], [], s⟩ = encC (rdF (fldL op) ⟨[op, b, 0, 0, 0, 0, 0, 0, 0, 0, 0, 0, 0], [], s⟩).z (rdF (fldL op) ⟨[op, b, 0, 0, 0, 0, 0, 0, 0, 0, 0, 0, 0], [], s⟩).nums := by
 have h := fldL_cases op
 rcases h with hl | hl | hl | hl | hl | hl | hl | hl | hl | hl | hl | hl | hl | hl | hl
 all_goals
  simp [hl, rdVF, rdV1, rdV, rdF, rdF1, rdS, encC, encV, slotL]
theorem enc_dec {bs : List Nat} (h : ∀ c ∈ bs, c < 256) (he : (decC bs).s.err = 0) (hB : (decC bs).s.B = []) : packL (encC (decC bs).z (decC bs).nums) = bs := by
 unfold decC at *;obtain ⟨s0, hs0⟩ : ∃ s0, s0 = (⟨bs, 0⟩ : Rs) := ⟨_, rfl⟩;rw [← hs0] at he hB ⊢;have h0 : ∀ c ∈ s0.B, c < 256 := by rw [hs0]; exact h
 have hz : s0.err = 0 := by rw [hs0]
 have hb : bs = s0.B := by rw [hs0]
 rw [← rdVF_enc]
 have h2 : (rdM (rdM s0).2).2.err = 0 := by
  rcases Classical.em ((rdM (rdM s0).2).2.err = 0) with h1 | h1
  ·exact h1
  ·exact absurd he (rdF_err _ _ h1)
 have h1 : (rdM s0).2.err = 0 := by
  rcases Classical.em ((rdM s0).2.err = 0) with h1 | h1
  ·exact h1
  ·exact absurd h2 (rdM_err h1)
 obtain ⟨a1, a2, a3⟩ := rdM_oct h0 hz h1;obtain ⟨b1, b2, b3⟩ := rdM_oct a3 h1 h2;have c1 := rdF_back _ _ b3 h2 he;rw [hB, List.append_nil] at c1;rw [packL_cons, packL_cons, hb, ← c1, ← b1];exact a1.symm
end
end Go.Proofs.YtpmnjojednbnpaaGreatDoor
