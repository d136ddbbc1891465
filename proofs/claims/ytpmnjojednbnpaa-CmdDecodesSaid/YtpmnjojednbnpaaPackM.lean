/-
  Layer 4: plain mathematics of numbers as bytes, in one way alone.
-/
import Derived.Test.YtpmnjojednbnpaaRow
namespace Go.Proofs.Ytpmnjojednbnpaa
open Go.ChangeShapes Go.WideShapes Go.ChangeAt Go.RowKit
set_option linter.unusedVariables false
set_option linter.unusedSimpArgs false

def In64p (z : Int) : Prop := -9223372036854775808 ≤ z ∧ z ≤ 9223372036854775807
/-- a number with its sign at its end -/
def zz (n : Int) : Nat := if 0 ≤ n then 2 * n.toNat else 2 * (-(n + 1)).toNat + 1
def uz (u : Nat) : Int := if u % 2 = 0 then ((u / 2 : Nat) : Int) else -((u / 2 : Nat) : Int) - 1
theorem uz_zz (n : Int) : uz (zz n) = n := by
  unfold uz zz
  by_cases h : 0 ≤ n
  · rw [if_pos h, if_pos (by omega)]; omega
  · rw [if_neg h, if_neg (by omega)]; omega
theorem zz_uz (u : Nat) : zz (uz u) = u := by
  unfold uz zz
  by_cases h : u % 2 = 0
  · rw [if_pos h, if_pos (by omega)]; omega
  · rw [if_neg h, if_neg (by omega)]; omega
theorem zz_lt {n : Int} (h : In64p n) : zz n < 18446744073709551616 := by
  unfold In64p at h
  unfold zz
  split <;> omega
theorem uz_in {u : Nat} (h : u < 18446744073709551616) : In64p (uz u) := by
  unfold In64p uz
  split <;> omega
/-- groups of seven bits -/
def vb (u : Nat) : List Nat := if h : u < 128 then [u] else (u % 128 + 128) :: vb (u / 128)
termination_by u
decreasing_by omega
theorem vb_low {u : Nat} (h : u < 128) : vb u = [u] := by rw [vb, dif_pos h]
theorem vb_high {u : Nat} (h : ¬ u < 128) : vb u = (u % 128 + 128) :: vb (u / 128) := by rw [vb, dif_neg h]
theorem vb_byte : ∀ u, ∀ c ∈ vb u, c < 256 := by
  intro u
  induction u using Nat.strongRecOn with
  | _ u ih =>
    intro c hc
    by_cases h : u < 128
    · rw [vb_low h] at hc; simp at hc; omega
    · rw [vb_high h] at hc
      rcases List.mem_cons.1 hc with rfl | hc
      · omega
      · exact ih (u / 128) (by omega) c hc
theorem vb_ne (u : Nat) : vb u ≠ [] := by
  by_cases h : u < 128
  · rw [vb_low h]; simp
  · rw [vb_high h]; simp
def packI (n : Int) : List Nat := vb (zz n)
def packL (l : List Int) : List Nat := (l.map packI).flatten
theorem packL_cons (n : Int) (l : List Int) : packL (n :: l) = packI n ++ packL l := by simp [packL]
theorem packL_append (l m : List Int) : packL (l ++ m) = packL l ++ packL m := by simp [packL]
theorem packL_byte (l : List Int) : ∀ c ∈ packL l, c < 256 := by
  intro c hc
  unfold packL at hc
  rw [List.mem_flatten] at hc
  obtain ⟨m, hm, hc⟩ := hc
  obtain ⟨n, _, rfl⟩ := List.mem_map.1 hm
  exact vb_byte _ c hc
def packT (s : List Nat) : List Nat := packI (s.length : Int) ++ s
/-- how long a number's bytes are -/
theorem vb_len : ∀ k u, u < 128 ^ (k + 1) → (vb u).length ≤ k + 1 := by
  intro k
  induction k with
  | zero => intro u h; rw [vb_low (by omega)]; simp
  | succ k ih =>
    intro u h
    by_cases h1 : u < 128
    · rw [vb_low h1]; simp
    · rw [vb_high h1, List.length_cons]
      have := ih (u / 128) (by rw [Nat.pow_succ] at h; exact Nat.div_lt_of_lt_mul (by rw [Nat.mul_comm]; exact h))
      omega
theorem vb_len10 {u : Nat} (h : u < 18446744073709551616) : (vb u).length ≤ 10 := by
  refine vb_len 9 u ?_
  have e : (128 : Nat) ^ (9 + 1) = 1180591620717411303424 := by decide
  rw [e]
  omega
/-- a number's groups, read: what went wrong, the number, what is left -/
def grp : Nat → Nat → List Nat → Int × Nat × List Nat
  | 0, acc, bs => (0, acc, bs)
  | _ + 1, _, [] => (4, 0, [])
  | f + 1, acc, c :: r => if (f = 0 ∧ 1 < c) ∨ (f < 9 ∧ c = 0) then (3, 0, r) else if c < 128 then (0, acc + c * 2 ^ (7 * (9 - f)), r) else grp f (acc + (c % 128) * 2 ^ (7 * (9 - f))) r
theorem pow_step {f : Nat} (h : f + 1 ≤ 9) : 2 ^ (7 * (9 - f)) = 2 ^ (7 * (9 - (f + 1))) * 128 := by
  have e : 7 * (9 - f) = 7 * (9 - (f + 1)) + 7 := by omega
  rw [e, Nat.pow_add]
theorem grp_vb : ∀ (f acc u : Nat) (r : List Nat), f ≤ 9 → u * 2 ^ (7 * (9 - f)) < 18446744073709551616 → (f = 9 ∨ u ≠ 0) → grp (f + 1) acc (vb u ++ r) = (0, acc + u * 2 ^ (7 * (9 - f)), r) := by
  intro f
  induction f with
  | zero =>
    intro acc u r _ hu h0
    have e : (2 : Nat) ^ (7 * (9 - 0)) = 9223372036854775808 := by decide
    rw [e] at hu
    have h1 : u < 2 := by omega
    rw [vb_low (by omega), List.singleton_append, grp, if_neg (by omega), if_pos (by omega)]
  | succ f ih =>
    intro acc u r hf hu h0
    by_cases h : u < 128
    · rw [vb_low h, List.singleton_append, grp, if_neg (by omega), if_pos h]
    · rw [vb_high h, List.cons_append, grp, if_neg (by omega), if_neg (by omega)]
      have hp := pow_step hf
      have hd : u = u / 128 * 128 + u % 128 := by omega
      obtain ⟨P, hP⟩ : ∃ P, 2 ^ (7 * (9 - (f + 1))) = P := ⟨_, rfl⟩
      rw [hP] at hp hu ⊢
      rw [ih _ (u / 128) r (by omega) (by
        rw [hp, ← Nat.mul_assoc, Nat.mul_right_comm]
        exact Nat.lt_of_le_of_lt (Nat.mul_le_mul_right _ (by omega)) hu) (.inr (by omega)), hp]
      have e1 : (u % 128 + 128) % 128 = u % 128 := by omega
      rw [e1]
      congr 2
      have e2 : u * P = (u / 128 * 128 + u % 128) * P := by rw [← hd]
      rw [e2, Nat.add_mul, Nat.mul_right_comm, ← Nat.mul_assoc, Nat.mul_right_comm (u / 128) P 128]
      omega
theorem grp_pack {n : Int} (h : In64p n) (r : List Nat) : grp 10 0 (packI n ++ r) = (0, zz n, r) := by
  have := grp_vb 9 0 (zz n) r (Nat.le_refl _) (by simpa using zz_lt h) (.inl rfl)
  simpa [packI] using this
theorem vb_grp : ∀ (f acc v : Nat) (bs r : List Nat), (∀ c ∈ bs, c < 256) → f ≤ 9 → acc < 2 ^ (7 * (9 - f)) → grp (f + 1) acc bs = (0, v, r) → ∃ u, v = acc + u * 2 ^ (7 * (9 - f)) ∧ bs = vb u ++ r ∧ (f = 9 ∨ u ≠ 0) ∧ v < 18446744073709551616 := by
  intro f
  induction f with
  | zero =>
    intro acc v bs r hby _ ha h
    cases bs with
    | nil => rw [grp] at h; injection h with h; cases h
    | cons c bs =>
      rw [grp] at h
      have e : (2 : Nat) ^ (7 * (9 - 0)) = 9223372036854775808 := by decide
      rw [e] at ha h ⊢
      by_cases h1 : (0 = 0 ∧ 1 < c) ∨ (0 < 9 ∧ c = 0)
      · rw [if_pos h1] at h; injection h with h; cases h
      · rw [if_neg h1, if_pos (by omega)] at h
        injection h with _ h
        injection h with h2 h3
        subst h3
        exact ⟨c, h2.symm, by rw [vb_low (by omega)]; rfl, .inr (by omega), by omega⟩
  | succ f ih =>
    intro acc v bs r hby hf ha h
    cases bs with
    | nil => rw [grp] at h; injection h with h; cases h
    | cons c bs =>
      rw [grp] at h
      have hp := pow_step hf
      have hm : 2 ^ (7 * (9 - f)) ≤ 9223372036854775808 := by
        have : (2 : Nat) ^ (7 * (9 - f)) ≤ 2 ^ 63 := Nat.pow_le_pow_right (by omega) (by omega)
        simpa using this
      obtain ⟨P, hP⟩ : ∃ P, 2 ^ (7 * (9 - (f + 1))) = P := ⟨_, rfl⟩
      rw [hP] at hp ha h ⊢
      by_cases h1 : (f + 1 = 0 ∧ 1 < c) ∨ (f + 1 < 9 ∧ c = 0)
      · rw [if_pos h1] at h; injection h with h; cases h
      rw [if_neg h1] at h
      by_cases h2 : c < 128
      · rw [if_pos h2] at h
        injection h with _ h
        injection h with h2' h3
        subst h3
        refine ⟨c, h2'.symm, by rw [vb_low h2]; rfl, by omega, ?_⟩
        rw [← h2']
        have : c * P ≤ 127 * P := Nat.mul_le_mul_right _ (by omega)
        omega
      · rw [if_neg h2] at h
        have hlt : acc + c % 128 * P < 2 ^ (7 * (9 - f)) := by
          rw [hp]
          have : c % 128 * P ≤ 127 * P := Nat.mul_le_mul_right _ (by omega)
          omega
        obtain ⟨u, hv, hb, hu, hl⟩ := ih (acc + c % 128 * P) v bs r (fun x hx => hby x (by simp [hx])) (by omega) hlt h
        have hc := hby c (by simp)
        have hu0 : u ≠ 0 := by omega
        refine ⟨u * 128 + c % 128, ?_, ?_, by omega, hl⟩
        · rw [hv, hp, Nat.add_mul, ← Nat.mul_assoc, Nat.mul_right_comm u P 128]; omega
        · rw [vb_high (by omega), show (u * 128 + c % 128) % 128 + 128 = c by omega, show (u * 128 + c % 128) / 128 = u by omega, hb]; rfl
/-- a reader's state: what is left, and the first error -/
structure Rs where
  B : List Nat
  err : Int
def rdI (lo hi : Int) (s : Rs) : Int × Rs :=
  if s.err ≠ 0 then (0, s) else if (grp 10 0 s.B).1 ≠ 0 then (0, ⟨[], (grp 10 0 s.B).1⟩)
  else if uz (grp 10 0 s.B).2.1 < lo ∨ hi < uz (grp 10 0 s.B).2.1 then (0, ⟨[], 7⟩) else (uz (grp 10 0 s.B).2.1, ⟨(grp 10 0 s.B).2.2, 0⟩)
def rdT (most : Int) (s : Rs) : List Nat × Rs :=
  if (rdI 0 most s).2.err ≠ 0 then ([], (rdI 0 most s).2) else if ((rdI 0 most s).2.B.length : Int) < (rdI 0 most s).1 then ([], ⟨[], 4⟩)
  else ((rdI 0 most s).2.B.take (rdI 0 most s).1.toNat, ⟨(rdI 0 most s).2.B.drop (rdI 0 most s).1.toNat, 0⟩)
theorem rdI_pack {n lo hi : Int} (h : In64p n) (h1 : lo ≤ n) (h2 : n ≤ hi) (r : List Nat) : rdI lo hi ⟨packI n ++ r, 0⟩ = (n, ⟨r, 0⟩) := by
  unfold rdI
  simp only
  rw [grp_pack h]
  simp only [uz_zz]
  rw [if_neg (by decide), if_neg (by decide), if_neg (by omega)]
theorem rdT_pack {s r : List Nat} {most : Int} (h : (s.length : Int) ≤ most) (hm : (s.length : Int) ≤ 9223372036854775807) : rdT most ⟨packT s ++ r, 0⟩ = (s, ⟨r, 0⟩) := by
  unfold rdT packT
  rw [List.append_assoc, rdI_pack (n := (s.length : Int)) (by unfold In64p; omega) (by omega) h]
  simp only
  rw [if_neg (by decide), if_neg (by simp; omega)]
  have e : ((s.length : Int)).toNat = s.length := by omega
  rw [e, List.take_left', List.drop_left'] <;> rfl
/-- what was read as a number are that number's bytes -/
theorem rdI_back {lo hi n : Int} {s s' : Rs} (hb : ∀ c ∈ s.B, c < 256) (h : rdI lo hi s = (n, s')) (he : s'.err = 0) (h0 : s.err = 0) : s.B = packI n ++ s'.B ∧ In64p n ∧ s'.B.length < s.B.length := by
  unfold rdI at h
  rw [if_neg (by simp [h0])] at h
  obtain ⟨e, u, r, hg⟩ : ∃ e u r, grp 10 0 s.B = (e, u, r) := ⟨_, _, _, rfl⟩
  rw [hg] at h
  simp only at h
  split at h
  · rename_i h1
    injection h with _ h
    subst h
    exact absurd he h1
  · rename_i h1
    split at h
    · injection h with _ h
      subst h
      simp at he
    · injection h with h2 h3
      subst h3; subst h2
      have h1 : e = 0 := by simpa using h1
      subst h1
      obtain ⟨u', hv, hb2, _, hl⟩ := vb_grp 9 0 u s.B r hb (Nat.le_refl _) (by simp) hg
      have e1 : u' = u := by simpa using hv.symm
      subst e1
      refine ⟨by rw [hb2, packI, zz_uz], uz_in hl, ?_⟩
      rw [hb2, List.length_append]
      have := vb_ne u'
      have := List.length_pos_iff.2 this
      simp only
      omega
theorem rdI_err {lo hi : Int} {s : Rs} (h : (rdI lo hi s).2.err ≠ 0) (h0 : s.err = 0) : (rdI lo hi s).2.B = [] := by
  revert h
  unfold rdI
  rw [if_neg (by simp [h0])]
  split
  · intro _; rfl
  · split
    · intro _; rfl
    · intro h; exact absurd rfl h
theorem grp_sub : ∀ (f acc : Nat) (bs : List Nat), ∃ p, bs = p ++ (grp f acc bs).2.2 ∨ (grp f acc bs).2.2 = []
  | 0, acc, bs => ⟨[], .inl rfl⟩
  | f + 1, acc, [] => ⟨[], .inl rfl⟩
  | f + 1, acc, c :: r => by
    rw [grp]
    split
    · exact ⟨[c], .inl rfl⟩
    · split
      · exact ⟨[c], .inl rfl⟩
      · obtain ⟨p, hp⟩ := grp_sub f (acc + (c % 128) * 2 ^ (7 * (9 - f))) r
        rcases hp with hp | hp
        · exact ⟨c :: p, .inl (by rw [List.cons_append, ← hp])⟩
        · exact ⟨[], .inr hp⟩
end Go.Proofs.Ytpmnjojednbnpaa
