/-
  Layer 3, the plain mathematics: a whole number in parts by weights: quotas, then one more each by what is left over.
-/
import Derived.Test.YtckgifhidomhaaaShape
namespace Go.Proofs.Ytckgifhidomhaaa
open Go.ChangeShapes Go.WideShapes Go.ChangeAt Go.RowKit
set_option linter.unusedVariables false
set_option linter.unusedSimpArgs false

/-- who of two is first to get one more: j ahead of i -/
def ahd (r : List Int) (j i : Nat) : Bool := decide (r.getD i 0 < r.getD j 0 ∨ r.getD j 0 = r.getD i 0 ∧ j < i)
/-- how many are ahead -/
def rk (r : List Int) (i : Nat) : Nat := (List.range r.length).countP fun j => ahd r j i
theorem ahd_iff {r : List Int} {j i : Nat} : ahd r j i = true ↔ (r.getD i 0 < r.getD j 0 ∨ r.getD j 0 = r.getD i 0 ∧ j < i) := by unfold ahd; exact decide_eq_true_iff
theorem ahd_irr (r : List Int) (i : Nat) : ahd r i i = false := by
  rw [Bool.eq_false_iff]; intro h; rw [ahd_iff] at h; omega
theorem ahd_total {r : List Int} {j i : Nat} (hne : j ≠ i) (h : ahd r j i = false) : ahd r i j = true := by
  rw [Bool.eq_false_iff, Ne, ahd_iff] at h
  rw [ahd_iff]
  omega
theorem ahd_trans {r : List Int} {a b c : Nat} (h : ahd r a b = true) (k : ahd r b c = true) : ahd r a c = true := by
  rw [ahd_iff] at *
  omega

/-- s: all places, those first that are first to get one more -/
structure Order (r : List Int) (s : List Nat) : Prop where
  perm : s.Perm (List.range r.length)
  asc : s.Pairwise fun a b => ahd r b a = false

theorem countP_zero {α : Type} {p : α → Bool} {l : List α} (h : ∀ x ∈ l, p x = false) : l.countP p = 0 := by
  induction l with
  | nil => rfl
  | cons a l ih => rw [List.countP_cons_of_neg (by rw [h a (by simp)]; decide)]; exact ih fun x hx => h x (by simp [hx])
theorem countP_len {α : Type} {p : α → Bool} {l : List α} (h : ∀ x ∈ l, p x = true) : l.countP p = l.length := by
  induction l with
  | nil => rfl
  | cons a l ih => rw [List.countP_cons_of_pos (h a (by simp)), ih fun x hx => h x (by simp [hx]), List.length_cons]

theorem Order.len {r : List Int} {s : List Nat} (h : Order r s) : s.length = r.length := by rw [h.perm.length_eq, List.length_range]
theorem Order.nodup {r : List Int} {s : List Nat} (h : Order r s) : s.Nodup := h.perm.nodup_iff.2 List.nodup_range
theorem Order.rk_at {r : List Int} {s : List Nat} (h : Order r s) {k : Nat} (hk : k < s.length) : rk r s[k] = k := by
  have hs : s = s.take k ++ s[k] :: s.drop (k + 1) := by
    rw [← List.drop_eq_getElem_cons hk, List.take_append_drop]
  have ha := h.asc
  have hn := h.nodup
  generalize hx : s[k] = x at *
  unfold rk
  rw [← h.perm.countP_eq, hs, List.countP_append, List.countP_cons_of_neg (by rw [ahd_irr]; decide)]
  rw [hs] at ha hn
  rw [List.pairwise_append] at ha
  obtain ⟨_, h2, h3⟩ := ha
  rw [List.nodup_append] at hn
  obtain ⟨_, _, n3⟩ := hn
  rw [List.pairwise_cons] at h2
  rw [countP_zero fun y hy => h2.1 y hy, countP_len fun y hy => ahd_total (fun e => n3 y hy x (by simp) e.symm |>.elim) (h3 y hy x (by simp))]
  rw [List.length_take]
  omega
theorem Order.uniq {r : List Int} {s : List Nat} (h : Order r s) {i : Nat} (hi : i < r.length) : ∃ k, ∃ hk : k < s.length, s[k] = i ∧ rk r i = k := by
  have hm : i ∈ s := h.perm.mem_iff.2 (List.mem_range.2 hi)
  obtain ⟨k, hk, he⟩ := List.getElem_of_mem hm
  exact ⟨k, hk, he, by rw [← he]; exact h.rk_at hk⟩
theorem Order.mem_lt {r : List Int} {s : List Nat} (h : Order r s) {k : Nat} (hk : k < s.length) : s[k] < r.length := List.mem_range.1 (h.perm.mem_iff.1 (List.getElem_mem hk))
theorem order_ex (r : List Int) : ∃ s, Order r s := by
  refine ⟨(List.range r.length).mergeSort fun a b => !ahd r b a, List.mergeSort_perm _ _, ?_⟩
  have := List.pairwise_mergeSort (le := fun a b => !ahd r b a) (fun a b c h1 h2 => by
    simp only [Bool.not_eq_true'] at *
    rw [Bool.eq_false_iff] at h1 h2 ⊢
    intro h
    rw [Ne, ahd_iff] at h1 h2
    rw [ahd_iff] at h
    omega) (fun a b => by
    simp only [Bool.or_eq_true, Bool.not_eq_true']
    by_cases e : a = b
    · subst e; exact Or.inl (ahd_irr r a)
    · cases hab : ahd r b a with
      | false => exact Or.inl rfl
      | true =>
        refine Or.inr ?_
        rw [Bool.eq_false_iff]; intro h
        rw [ahd_iff] at *; omega) (List.range r.length)
  exact this.imp fun h => by simpa using h
theorem rk_inj {r : List Int} {i j : Nat} (hi : i < r.length) (hj : j < r.length) (h : rk r i = rk r j) : i = j := by
  obtain ⟨s, hs⟩ := order_ex r
  obtain ⟨a, ha, e1, e2⟩ := hs.uniq hi
  obtain ⟨b, hb, f1, f2⟩ := hs.uniq hj
  have : a = b := by omega
  subst this
  rw [← e1, ← f1]
theorem rk_lt {r : List Int} {i : Nat} (hi : i < r.length) : rk r i < r.length := by
  obtain ⟨s, hs⟩ := order_ex r
  obtain ⟨a, ha, e1, e2⟩ := hs.uniq hi
  have := hs.len
  omega
theorem rk_of_ahd {r : List Int} {i j : Nat} (hi : i < r.length) (hj : j < r.length) (h : ahd r j i = true) : rk r j < rk r i := by
  obtain ⟨s, hs⟩ := order_ex r
  obtain ⟨a, ha, e1, e2⟩ := hs.uniq hi
  obtain ⟨b, hb, f1, f2⟩ := hs.uniq hj
  rw [e2, f2]
  have hne : a ≠ b := by intro e; subst e; rw [e1] at f1; subst f1; rw [ahd_irr] at h; cases h
  rcases Nat.lt_or_gt_of_ne hne with hl | hl
  · have := List.pairwise_iff_getElem.1 hs.asc a b ha hb hl
    rw [e1, f1, h] at this
    cases this
  · exact hl
theorem ahd_of_rk {r : List Int} {i j : Nat} (hi : i < r.length) (hj : j < r.length) (h : rk r j < rk r i) : ahd r j i = true := by
  cases e : ahd r j i with
  | true => rfl
  | false =>
    have hne : j ≠ i := by intro e; subst e; omega
    have := rk_of_ahd hj hi (ahd_total hne e)
    omega
theorem rk_ex {r : List Int} {k : Nat} (hk : k < r.length) : ∃ i, i < r.length ∧ rk r i = k := by
  obtain ⟨s, hs⟩ := order_ex r
  have hl := hs.len
  exact ⟨s[k]'(by omega), hs.mem_lt _, hs.rk_at _⟩

/-- how many have something left -/
def posL (r : List Int) : Nat := (List.range r.length).countP fun j => decide (0 < r.getD j 0)
theorem rk_pos {r : List Int} {i : Nat} (hr : ∀ j, 0 ≤ r.getD j 0) (hi : i < r.length) (h : rk r i < posL r) : 0 < r.getD i 0 := by
  rcases Int.lt_or_le 0 (r.getD i 0) with h1 | h1
  · exact h1
  · exfalso
    have h2 : posL r ≤ rk r i := by
      unfold posL rk
      refine List.countP_mono_left fun j _ hj => ?_
      have := of_decide_eq_true hj
      rw [ahd_iff]
      exact Or.inl (by omega)
    omega
theorem rk_nonpos {r : List Int} {i : Nat} (hr : ∀ j, 0 ≤ r.getD j 0) (h : r.getD i 0 = 0) : posL r ≤ rk r i := by
  unfold posL rk
  refine List.countP_mono_left fun j _ hj => ?_
  have := of_decide_eq_true hj
  rw [ahd_iff]
  exact Or.inl (by omega)

/-- the first t of the order got one more -/
def bump (q r : List Int) (t : Nat) : List Int := (List.range q.length).map fun i => q.getD i 0 + if rk r i < t then 1 else 0
/-- .. and have nothing left -/
def goneL (r : List Int) (t : Nat) : List Int := (List.range r.length).map fun i => if rk r i < t then 0 else r.getD i 0
theorem bump_length (q r : List Int) (t : Nat) : (bump q r t).length = q.length := by simp [bump]
theorem gone_length (r : List Int) (t : Nat) : (goneL r t).length = r.length := by simp [goneL]
theorem bump_at (q r : List Int) (t : Nat) {i : Nat} (hi : i < (bump q r t).length) : (bump q r t)[i] = q.getD i 0 + if rk r i < t then 1 else 0 := by simp [bump]
theorem gone_at (r : List Int) (t : Nat) {i : Nat} (hi : i < (goneL r t).length) : (goneL r t)[i] = if rk r i < t then 0 else r.getD i 0 := by simp [goneL]
theorem range_getD (q : List Int) : (List.range q.length).map (fun i => q.getD i 0) = q := by
  apply List.ext_getElem
  · simp
  · intro i h1 h2; simp [List.getElem?_eq_getElem h2]
theorem bump_zero (q r : List Int) : bump q r 0 = q := by
  unfold bump; simp only [Nat.not_lt_zero, if_false, Int.add_zero]; exact range_getD q
theorem gone_zero (r : List Int) : goneL r 0 = r := by
  unfold goneL; simp only [Nat.not_lt_zero, if_false]; exact range_getD r
theorem bump_set {q r : List Int} {t p : Nat} (hl : q.length = r.length) (hp : p < (bump q r t).length) (hr : rk r p = t) : (bump q r t).set p ((bump q r t)[p] + 1) = bump q r (t + 1) := by
  have hq := bump_length q r t
  have hq1 := bump_length q r (t + 1)
  apply List.ext_getElem
  · rw [List.length_set, hq, hq1]
  · intro i h1 h2
    rw [List.getElem_set]
    split
    · rename_i e
      subst e
      rw [bump_at, bump_at, hr, if_neg (by omega), if_pos (by omega)]
      omega
    · rename_i e
      rw [bump_at, bump_at]
      have : rk r i ≠ t := fun h => e (rk_inj (r := r) (by omega) (by omega) (by omega))
      by_cases h3 : rk r i < t
      · rw [if_pos h3, if_pos (by omega)]
      · rw [if_neg h3, if_neg (by omega)]
theorem gone_set {r : List Int} {t p : Nat} (hp : p < (goneL r t).length) (hr : rk r p = t) : (goneL r t).set p 0 = goneL r (t + 1) := by
  have hq := gone_length r t
  have hq1 := gone_length r (t + 1)
  apply List.ext_getElem
  · rw [List.length_set, hq, hq1]
  · intro i h1 h2
    rw [List.getElem_set]
    split
    · rename_i e
      subst e
      rw [gone_at, if_pos (by omega)]
    · rename_i e
      rw [gone_at, gone_at]
      have : rk r i ≠ t := fun h => e (rk_inj (r := r) (by omega) (by omega) (by omega))
      by_cases h3 : rk r i < t
      · rw [if_pos h3, if_pos (by omega)]
      · rw [if_neg h3, if_neg (by omega)]
/-- the first greatest of what is left is the next of the order -/
theorem best_rk {r : List Int} {k b : Nat} (hr : ∀ j, 0 ≤ r.getD j 0) (hk : k < posL r) (hb : b < (goneL r k).length) (hmax : ∀ j, (hj : j < (goneL r k).length) → (goneL r k)[j] ≤ (goneL r k)[b])
    (hfst : ∀ j, (hj : j < b) → (goneL r k)[j] < (goneL r k)[b]) : rk r b = k := by
  have hl := gone_length r k
  have hkl : k < r.length := by
    refine Nat.lt_of_lt_of_le hk ?_
    unfold posL
    exact Nat.le_trans List.countP_le_length (by simp)
  obtain ⟨p, hp, hpk⟩ := rk_ex hkl
  have h0 := rk_pos hr hp (by omega)
  have h1 := hmax p (by omega)
  simp only [gone_at] at h1 hfst
  rw [if_neg (show ¬ rk r p < k by omega)] at h1
  have hbk : ¬ rk r b < k := by
    intro h
    rw [if_pos h] at h1
    omega
  rw [if_neg hbk] at h1
  by_cases e : b = p
  · subst e; exact hpk
  · exfalso
    have h2 : rk r p < rk r b := by
      rcases Nat.lt_or_ge (rk r p) (rk r b) with h | h
      · exact h
      · exact absurd (rk_inj (by omega) hp (by omega)) e
    have h3 := ahd_of_rk (by omega) hp h2
    rw [ahd_iff] at h3
    have h4 := hfst p (by omega)
    rw [if_neg (show ¬ rk r p < k by omega), if_neg hbk] at h4
    omega

/-! what is left over of quotas -/
def quoL (total S : Int) (l : List Int) : List Int := l.map fun x => total * x / S
def remL (total S : Int) (l : List Int) : List Int := l.map fun x => total * x % S
theorem quo_length (t S : Int) (l : List Int) : (quoL t S l).length = l.length := by simp [quoL]
theorem rem_length (t S : Int) (l : List Int) : (remL t S l).length = l.length := by simp [remL]
theorem getD_quo (t S : Int) (l : List Int) (i : Nat) : (quoL t S l).getD i 0 = t * l.getD i 0 / S := by
  unfold quoL
  rw [List.getD_eq_getElem?_getD, List.getD_eq_getElem?_getD, List.getElem?_map]
  cases l[i]? <;> simp
theorem getD_rem (t S : Int) (l : List Int) (i : Nat) : (remL t S l).getD i 0 = t * l.getD i 0 % S := by
  unfold remL
  rw [List.getD_eq_getElem?_getD, List.getD_eq_getElem?_getD, List.getElem?_map]
  cases l[i]? <;> simp
theorem sums (t S : Int) (l : List Int) : t * l.sum = S * (quoL t S l).sum + (remL t S l).sum := by
  induction l with
  | nil => simp [quoL, remL]
  | cons a l ih =>
    have e : t * (a :: l).sum = t * a + t * l.sum := by rw [List.sum_cons, Int.mul_add]
    have h := Int.mul_ediv_add_emod (t * a) S
    simp only [quoL, remL, List.map_cons, List.sum_cons] at ih ⊢
    rw [Int.mul_add, Int.mul_add, ih]
    omega
theorem rem_nn {t S : Int} (hS : S ≠ 0) (l : List Int) (j : Nat) : 0 ≤ (remL t S l).getD j 0 := by
  rw [getD_rem]; exact Int.emod_nonneg _ hS
theorem rem_sum_le {S : Int} (r : List Int) (hr : ∀ x ∈ r, 0 ≤ x ∧ x ≤ S - 1) : r.sum ≤ ((r.countP fun x => decide (0 < x)) : Int) * (S - 1) := by
  induction r with
  | nil => simp
  | cons a r ih =>
    have h1 := ih fun x hx => hr x (by simp [hx])
    have h2 := hr a (by simp)
    rw [List.sum_cons]
    by_cases h : 0 < a
    · rw [List.countP_cons_of_pos (by simpa using h)]
      have : (((List.countP (fun x => decide (0 < x)) r + 1 : Nat)) : Int) * (S - 1) = ((List.countP (fun x => decide (0 < x)) r : Nat) : Int) * (S - 1) + (S - 1) := by
        rw [Int.natCast_add, Int.add_mul]; simp
      rw [this]
      omega
    · rw [List.countP_cons_of_neg (by simpa using h)]
      omega
theorem pos_eq (r : List Int) : posL r = r.countP fun x => decide (0 < x) := by
  have h : (List.range r.length).countP (fun j => decide (0 < r.getD j 0)) = ((List.range r.length).map fun i => r.getD i 0).countP (fun x => decide (0 < x)) := by
    rw [List.countP_map]; rfl
  rw [posL, h, range_getD]
/-- fewer are to get one more than have something left -/
theorem left_lt {t S : Int} (l : List Int) (hS : 0 < S) (hl : l.sum = S) : 0 ≤ t - (quoL t S l).sum ∧ (0 < t - (quoL t S l).sum → t - (quoL t S l).sum < (posL (remL t S l) : Int)) := by
  have h1 := sums t S l
  have hr : ∀ x ∈ remL t S l, 0 ≤ x ∧ x ≤ S - 1 := by
    intro x hx
    simp only [remL, List.mem_map] at hx
    obtain ⟨y, _, rfl⟩ := hx
    have := Int.emod_nonneg (t * y) (show S ≠ 0 by omega)
    have := Int.emod_lt_of_pos (t * y) hS
    omega
  have h2 := rem_sum_le _ hr
  rw [← pos_eq] at h2
  have h0 : 0 ≤ (remL t S l).sum := by
    have key : ∀ m : List Int, (∀ x ∈ m, 0 ≤ x ∧ x ≤ S - 1) → 0 ≤ m.sum := by
      intro m
      induction m with
      | nil => intro _; simp
      | cons a m ih => intro h; have := ih fun x hx => h x (by simp [hx]); have := h a (by simp); rw [List.sum_cons]; omega
    exact key _ hr
  rw [hl] at h1
  generalize (quoL t S l).sum = Q at *
  generalize (remL t S l).sum = R at *
  generalize (posL (remL t S l)) = p at *
  have h3 : S * (t - Q) = R := by rw [Int.mul_sub, Int.mul_comm S t]; omega
  constructor
  · refine Decidable.byContradiction fun h => ?_
    have : S * (t - Q) < 0 := Int.mul_neg_of_pos_of_neg hS (by omega)
    omega
  · intro h
    refine Decidable.byContradiction fun hn => ?_
    have h5 : (p : Int) * (S - 1) ≤ (t - Q) * (S - 1) := Int.mul_le_mul_of_nonneg_right (by omega) (by omega)
    have h6 : (t - Q) * (S - 1) = S * (t - Q) - (t - Q) := by rw [Int.mul_sub, Int.mul_comm]; omega
    omega

theorem sum_set_succ (l : List Int) (p : Nat) (hp : p < l.length) : (l.set p (l[p] + 1)).sum = l.sum + 1 := by
  induction l generalizing p with
  | nil => simp at hp
  | cons a l ih =>
    cases p with
    | zero => simp only [List.set_cons_zero, List.sum_cons, List.getElem_cons_zero]; omega
    | succ p =>
      simp only [List.set_cons_succ, List.sum_cons, List.getElem_cons_succ]
      rw [ih p (by simpa using hp)]
      omega
theorem bump_sum {q r : List Int} (hl : q.length = r.length) (t : Nat) (ht : t ≤ r.length) : (bump q r t).sum = q.sum + t := by
  induction t with
  | zero => rw [bump_zero]; simp
  | succ t ih =>
    obtain ⟨p, hp, hpk⟩ := rk_ex (r := r) (k := t) (by omega)
    have hb : p < (bump q r t).length := by rw [bump_length]; omega
    rw [← bump_set hl hb hpk, sum_set_succ _ _ hb, ih (by omega)]
    omega
theorem mem_le_sum (l : List Int) (h : ∀ x ∈ l, 0 ≤ x) : 0 ≤ l.sum ∧ ∀ x ∈ l, x ≤ l.sum := by
  induction l with
  | nil => simp
  | cons a l ih =>
    have h1 := ih fun x hx => h x (by simp [hx])
    have h2 := h a (by simp)
    rw [List.sum_cons]
    refine ⟨by omega, fun x hx => ?_⟩
    rcases List.mem_cons.1 hx with rfl | hx
    · omega
    · have := h1.2 x hx; omega
theorem sum_take_le (l : List Int) (h : ∀ x ∈ l, 0 ≤ x) (k : Nat) : 0 ≤ (l.take k).sum ∧ (l.take k).sum ≤ l.sum := by
  refine ⟨(mem_le_sum _ fun x hx => h x (List.mem_of_mem_take hx)).1, ?_⟩
  have e : l.sum = (l.take k).sum + (l.drop k).sum := by rw [← List.sum_append, List.take_append_drop]
  have := (mem_le_sum (l.drop k) fun x hx => h x (List.mem_of_mem_drop hx)).1
  omega
theorem quo_nn {t S : Int} {l : List Int} (ht : 0 ≤ t) (hS : 0 ≤ S) (h : ∀ x ∈ l, 0 ≤ x) : ∀ x ∈ quoL t S l, 0 ≤ x := by
  intro x hx
  simp only [quoL, List.mem_map] at hx
  obtain ⟨y, hy, rfl⟩ := hx
  exact Int.ediv_nonneg (Int.mul_nonneg ht (h y hy)) hS

/-- the parts -/
def partsV (t : Int) (l : List Int) : List Int := bump (quoL t l.sum l) (remL t l.sum l) (t - (quoL t l.sum l).sum).toNat
theorem partsV_length (t : Int) (l : List Int) : (partsV t l).length = l.length := by rw [partsV, bump_length, quo_length]
theorem getD_nn {l : List Int} (h : ∀ x ∈ l, 0 ≤ x) (i : Nat) : 0 ≤ l.getD i 0 := by
  rw [List.getD_eq_getElem?_getD]
  cases e : l[i]? with
  | none => simp
  | some x => exact h x (List.mem_of_getElem? e)
theorem partsV_at (t : Int) (l : List Int) {i : Nat} (hi : i < (partsV t l).length) :
    (partsV t l)[i] = t * l.getD i 0 / l.sum + if rk (remL t l.sum l) i < (t - (quoL t l.sum l).sum).toNat then 1 else 0 := by
  unfold partsV at hi ⊢
  rw [bump_at, getD_quo]
theorem left_le {t : Int} {l : List Int} (hS : 0 < l.sum) : (t - (quoL t l.sum l).sum).toNat ≤ (remL t l.sum l).length := by
  have h := left_lt (t := t) l hS rfl
  have : posL (remL t l.sum l) ≤ (remL t l.sum l).length := by
    unfold posL
    exact Nat.le_trans List.countP_le_length (by simp)
  by_cases h0 : 0 < t - (quoL t l.sum l).sum
  · have := h.2 h0; omega
  · omega
/-- none is lost -/
theorem partsV_sum {t : Int} {l : List Int} (hS : 0 < l.sum) : (partsV t l).sum = t := by
  unfold partsV
  rw [bump_sum (by rw [quo_length, rem_length]) _ (left_le hS)]
  have h := left_lt (t := t) l hS rfl
  omega
/-- who gets one more has something left -/
theorem got_pos {t : Int} {l : List Int} (hS : 0 < l.sum) {i : Nat} (hi : i < l.length) (h : rk (remL t l.sum l) i < (t - (quoL t l.sum l).sum).toNat) : 0 < t * l.getD i 0 % l.sum := by
  have h1 := left_lt (t := t) l hS rfl
  have := rk_pos (rem_nn (t := t) (show l.sum ≠ 0 by omega) l) (i := i) (by rw [rem_length]; exact hi) (by have := h1.2 (by omega); omega)
  rwa [getD_rem] at this
theorem partsV_room {t : Int} {l : List Int} (ht : 0 ≤ t) (hl : ∀ x ∈ l, 0 ≤ x) (hS : 0 < l.sum) {i : Nat} (hi : i < (partsV t l).length) :
    0 ≤ (partsV t l)[i] ∧ (l.getD i 0 = 0 → (partsV t l)[i] = 0) ∧ (t ≤ l.sum → (partsV t l)[i] ≤ l.getD i 0) ∧ (partsV t l)[i] * l.sum - t * l.getD i 0 < l.sum ∧ t * l.getD i 0 - (partsV t l)[i] * l.sum < l.sum := by
  have hil : i < l.length := by rw [partsV_length] at hi; exact hi
  rw [partsV_at]
  have hx := getD_nn hl i
  have gp := got_pos (t := t) hS hil
  generalize l.getD i 0 = x at *
  generalize l.sum = S at *
  have h1 := Int.mul_ediv_add_emod (t * x) S
  have h2 := Int.emod_nonneg (t * x) (show S ≠ 0 by omega)
  have h3 := Int.emod_lt_of_pos (t * x) hS
  have h4 : 0 ≤ t * x / S := Int.ediv_nonneg (Int.mul_nonneg ht hx) (by omega)
  generalize hR : t * x % S = R at *
  generalize hQ : t * x / S = Q at *
  rw [Int.mul_comm S Q] at h1
  have key : t ≤ S → Q ≤ x ∧ (0 < R → Q + 1 ≤ x) := by
    intro hle
    have h5 : t * x ≤ S * x := Int.mul_le_mul_of_nonneg_right hle hx
    rw [Int.mul_comm S x] at h5
    have a : ∀ m : Int, m * S + R ≤ x * S → 0 ≤ R → m ≤ x ∧ (0 < R → m + 1 ≤ x) := by
      intro m hm hr
      constructor
      · exact Int.le_of_mul_le_mul_right (show m * S ≤ x * S by omega) hS
      · intro hp
        refine Decidable.byContradiction fun hn => ?_
        have : x * S ≤ m * S := Int.mul_le_mul_of_nonneg_right (by omega) (by omega)
        omega
    exact a Q (by omega) h2
  have e1 : (Q + 1) * S = Q * S + S := by rw [Int.add_mul]; omega
  by_cases hg : rk (remL t S l) i < (t - (quoL t S l).sum).toNat
  · have g := gp hg
    rw [if_pos hg]
    refine ⟨by omega, ?_, fun h => (key h).2 g, ?_, ?_⟩
    · intro h0; subst h0; simp at hR; omega
    · rw [e1]; omega
    · rw [e1]; omega
  · rw [if_neg hg, Int.add_zero]
    refine ⟨h4, ?_, fun h => (key h).1, by omega, by omega⟩
    intro h0; subst h0; simp at hQ; omega
theorem partsV_zero {l : List Int} (hS : l.sum = 0) : partsV 0 l = l.map fun _ => 0 := by
  unfold partsV quoL remL
  rw [hS]
  simp only [Int.zero_mul]
  have e : (l.map fun _ => (0 : Int) / 0) = l.map fun _ => 0 := by simp
  have e2 : ∀ m : List Int, (m.map fun _ => (0 : Int)).sum = 0 := by
    intro m
    induction m with
    | nil => rfl
    | cons a m ih => rw [List.map_cons, List.sum_cons, ih]; rfl
  rw [e, e2 l]
  exact bump_zero _ _
/-- FAIR -/
theorem partsV_fair {t : Int} {l : List Int} (ht : 0 ≤ t) (hl : ∀ x ∈ l, 0 ≤ x) (hS : 0 < l.sum) {i k : Nat} (hi : i < (partsV t l).length) (hk : k < (partsV t l).length)
    (h : l.getD k 0 < l.getD i 0 ∨ l.getD i 0 = l.getD k 0 ∧ i < k) : (partsV t l)[k] ≤ (partsV t l)[i] := by
  have hil : i < l.length := by rw [partsV_length] at hi; exact hi
  have hkl : k < l.length := by rw [partsV_length] at hk; exact hk
  rw [partsV_at, partsV_at]
  have hx := getD_nn hl i
  have hy := getD_nn hl k
  have hle : t * l.getD k 0 ≤ t * l.getD i 0 := Int.mul_le_mul_of_nonneg_left (by omega) ht
  have gp := got_pos (t := t) hS hkl
  have ha : ∀ hq : t * l.getD i 0 / l.sum = t * l.getD k 0 / l.sum, 0 < t → ahd (remL t l.sum l) i k = true := by
    intro hq h0
    rw [ahd_iff, getD_rem, getD_rem]
    have a1 := Int.mul_ediv_add_emod (t * l.getD i 0) l.sum
    have a2 := Int.mul_ediv_add_emod (t * l.getD k 0) l.sum
    rw [hq] at a1
    rcases h with h | ⟨h, hik⟩
    · have := Int.mul_lt_mul_of_pos_left h h0
      left; omega
    · rw [h] at a1 ⊢
      right; exact ⟨rfl, hik⟩
  have hqle : t * l.getD k 0 / l.sum ≤ t * l.getD i 0 / l.sum := Int.ediv_le_ediv hS hle
  have t0 : t = 0 → t * l.getD k 0 % l.sum = 0 := by rintro rfl; simp
  generalize t * l.getD i 0 / l.sum = A at *
  generalize t * l.getD k 0 / l.sum = B at *
  by_cases hg : rk (remL t l.sum l) k < (t - (quoL t l.sum l).sum).toNat
  · have g := gp hg
    rw [if_pos hg]
    by_cases he : A = B
    · have := ha he (by omega)
      have := rk_of_ahd (by rw [rem_length]; exact hkl) (by rw [rem_length]; exact hil) this
      rw [if_pos (by omega)]
      omega
    · split <;> omega
  · rw [if_neg hg]
    split <;> omega

end Go.Proofs.Ytckgifhidomhaaa
