/-
  Layer 7: plain mathematics of frames: numbers in so many bytes, the highest first.
-/
import Derived.Test.YtfibpkbbpnjepaaRow
namespace Go.Proofs.Ytfibpkbbpnjepaa
open Go.ChangeShapes Go.WideShapes Go.ChangeAt Go.RowKit
set_option linter.unusedVariables false
set_option linter.unusedSimpArgs false

/-- a number in so many bytes -/
def bign : Nat → Nat → List Nat
  | 0, _ => []
  | s + 1, n => bign s (n / 256) ++ [n % 256]
/-- the bytes' number -/
def bnum (l : List Nat) : Nat := l.foldl (fun a c => 256 * a + c) 0
theorem bign_len : ∀ s n, (bign s n).length = s
  | 0, _ => rfl
  | s + 1, n => by rw [bign, List.length_append, bign_len s]; rfl
theorem bign_oct : ∀ s n, Oct (bign s n)
  | 0, _ => fun x hx => by cases hx
  | s + 1, n => (bign_oct s (n / 256)).app fun x hx => by simp at hx; omega
theorem bnum_snoc (l : List Nat) (c : Nat) : bnum (l ++ [c]) = 256 * bnum l + c := by simp [bnum]
theorem bnum_bign : ∀ s n, n < 256 ^ s → bnum (bign s n) = n
  | 0, n, h => by
    have : n = 0 := by simpa using h
    subst this
    rfl
  | s + 1, n, h => by
    rw [bign, bnum_snoc, bnum_bign s (n / 256) (by rw [Nat.pow_succ] at h; exact Nat.div_lt_of_lt_mul (by rw [Nat.mul_comm]; exact h))]
    omega
theorem bnum_lt {l : List Nat} (h : Oct l) : bnum l < 256 ^ l.length := by
  have key : ∀ m : List Nat, Oct m.reverse → bnum m.reverse < 256 ^ m.reverse.length := by
    intro m
    induction m with
    | nil => intro _; decide
    | cons c m ih =>
      intro h
      rw [List.reverse_cons] at h ⊢
      have h1 := ih fun x hx => h x (List.mem_append_left _ hx)
      have h2 := h c (by simp)
      rw [bnum_snoc, List.length_append, List.length_singleton, Nat.pow_succ]
      omega
  have := key l.reverse (by rw [List.reverse_reverse]; exact h)
  rwa [List.reverse_reverse] at this
theorem bign_bnum {l : List Nat} (h : Oct l) : bign l.length (bnum l) = l := by
  have key : ∀ m : List Nat, Oct m.reverse → bign m.reverse.length (bnum m.reverse) = m.reverse := by
    intro m
    induction m with
    | nil => intro _; rfl
    | cons c m ih =>
      intro h
      rw [List.reverse_cons] at h ⊢
      have h1 := ih fun x hx => h x (List.mem_append_left _ hx)
      have h2 := h c (by simp)
      rw [bnum_snoc, List.length_append, List.length_singleton, bign]
      have e1 : (256 * bnum m.reverse + c) / 256 = bnum m.reverse := by omega
      have e2 : (256 * bnum m.reverse + c) % 256 = c := by omega
      rw [e1, e2, h1]
  have := key l.reverse (by rw [List.reverse_reverse]; exact h)
  rwa [List.reverse_reverse] at this
theorem bign_at : ∀ (s n j : Nat) (h : j < (bign s n).length), (bign s n)[j] = n / 256 ^ (s - 1 - j) % 256
  | 0, _, _, h => absurd h (by simp [bign])
  | s + 1, n, j, h => by
    simp only [bign]
    by_cases hj : j < (bign s (n / 256)).length
    · rw [List.getElem_append_left hj, bign_at s (n / 256) j hj]
      rw [bign_len] at hj
      rw [Nat.div_div_eq_div_mul, show s + 1 - 1 - j = (s - 1 - j) + 1 by omega, Nat.pow_succ, Nat.mul_comm 256]
    · have hj2 : j = s := by
        rw [bign_len] at hj h
        omega
      subst hj2
      rw [List.getElem_append_right (by rw [bign_len]; exact Nat.le_refl _)]
      simp
/-- a frame -/
structure Fr where
  life : Int
  era : Int
  seq : Int
  part : Int
  parts : Int
  data : List Nat
def Fr.ok (f : Fr) : Bool := decide (1 ≤ f.life) && decide (f.life ≤ 16777215) && decide (0 ≤ f.era) && decide (f.era ≤ 16777215) && decide (1 ≤ f.seq) && decide (f.seq ≤ 4294967295) && decide (1 ≤ f.parts) && decide (f.parts ≤ 255) && decide (0 ≤ f.part) && decide (f.part < f.parts) && decide (f.data.length ≤ 80)
theorem Fr.ok_iff (f : Fr) : f.ok = true ↔ 1 ≤ f.life ∧ f.life ≤ 16777215 ∧ 0 ≤ f.era ∧ f.era ≤ 16777215 ∧ 1 ≤ f.seq ∧ f.seq ≤ 4294967295 ∧ 1 ≤ f.parts ∧ f.parts ≤ 255 ∧ 0 ≤ f.part ∧ f.part < f.parts ∧ f.data.length ≤ 80 := by
  simp [Fr.ok, and_assoc]
/-- a frame's bytes, ahead of the sum -/
def Fr.body (f : Fr) : List Nat := bign 3 f.life.toNat ++ bign 3 f.era.toNat ++ bign 4 f.seq.toNat ++ [f.part.toNat, f.parts.toNat, f.data.length] ++ f.data ++ List.replicate (80 - f.data.length) 0
theorem Fr.body_len {f : Fr} (h : f.data.length ≤ 80) : f.body.length = 93 := by
  simp [Fr.body, bign_len]; omega
end Go.Proofs.Ytfibpkbbpnjepaa
