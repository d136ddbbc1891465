/-
  Layer 18, twelfth part: plain mathematics of lots that are put one behind the other, of what is drawn and left.
-/
import Derived.Test.YtfagpdnckmaomaaLots11
namespace Go.Proofs.Ytfagpdnckmaomaa
open Go.ChangeShapes Go.WideShapes Go.ChangeAt Go.RowKit
set_option linter.unusedVariables false
set_option linter.unusedSimpArgs false

/-- what a key has in all -/
def totL : List Lt → Int → Int → Int
  | [], _, _ => 0
  | x :: r, a, t => (if sameL a t x = true then x.qty else 0) + totL r a t
theorem totL_append (l m : List Lt) (a t : Int) : totL (l ++ m) a t = totL l a t + totL m a t := by
  induction l with
  | nil => simp [totL]
  | cons x r ih => simp only [List.cons_append, totL, ih]; omega
theorem totL_none {l : List Lt} {a t : Int} (h : ∀ y ∈ l, sameL a t y = false) : totL l a t = 0 := by
  induction l with
  | nil => rfl
  | cons x r ih => rw [totL, h x (by simp), ih (fun y hy => h y (by simp [hy]))]; simp
theorem totL_nn {l : List Lt} (h : ∀ y ∈ l, 0 < y.qty) (a t : Int) : 0 ≤ totL l a t := by
  induction l with
  | nil => exact Int.le_refl 0
  | cons x r ih =>
    have h1 := h x (by simp)
    have h2 := ih (fun y hy => h y (by simp [hy]))
    rw [totL]; split <;> omega
theorem totL_has {l : List Lt} (h : ∀ y ∈ l, 0 < y.qty) {a t : Int} (hp : 0 < totL l a t) : ∃ y ∈ l, sameL a t y = true := by
  by_cases hc : ∃ y ∈ l, sameL a t y = true
  · exact hc
  · rw [totL_none (fun y hy => by cases hs : sameL a t y with
      | false => rfl
      | true => exact absurd ⟨y, hy, hs⟩ hc)] at hp
    omega
theorem totL_ge {l : List Lt} (h : ∀ y ∈ l, 0 < y.qty) {x : Lt} (hx : x ∈ l) : x.qty ≤ totL l x.ast x.tag := by
  induction l with
  | nil => simp at hx
  | cons y r ih =>
    have h1 := h y (by simp)
    have h2 := totL_nn (fun y hy => h y (by simp [hy]) : ∀ y ∈ r, 0 < y.qty) x.ast x.tag
    rw [totL]
    rcases List.mem_cons.1 hx with rfl | hx
    · rw [if_pos (by simp [sameL])]; omega
    · have := ih (fun y hy => h y (by simp [hy])) hx
      split <;> omega
theorem same_after {x y : Lt} (h : ahL x y = true) : sameL x.ast x.tag y = false := by
  rw [ahL_iff] at h
  cases hs : sameL x.ast x.tag y with
  | false => rfl
  | true => rw [sameL_iff] at hs; unfold ltL at h; omega
theorem same_swap {x y : Lt} : sameL x.ast x.tag y = sameL y.ast y.tag x := by
  cases h1 : sameL x.ast x.tag y <;> cases h2 : sameL y.ast y.tag x <;> try rfl
  · rw [sameL_iff] at h2
    have : sameL x.ast x.tag y = true := by rw [sameL_iff]; omega
    rw [h1] at this; cases this
  · rw [sameL_iff] at h1
    have : sameL y.ast y.tag x = true := by rw [sameL_iff]; omega
    rw [h2] at this; cases this
abbrev SoL (l : List Lt) : Prop := l.Pairwise (fun a b => ahL a b = true)
theorem so_none {x : Lt} {r : List Lt} (h : SoL (x :: r)) : ∀ y ∈ r, sameL x.ast x.tag y = false := fun y hy => same_after (List.rel_of_pairwise_cons h hy)
theorem getL_cons (x : Lt) (r : List Lt) (a t : Int) : getL (x :: r) a t = if sameL a t x = true then x.qty else getL r a t := by
  unfold getL pickL
  rw [List.find?_cons]
  cases sameL a t x <;> simp
theorem getL_nil (a t : Int) : getL [] a t = 0 := rfl
theorem key_of {a t : Int} {x : Lt} (h : sameL a t x = true) : x.ast = a ∧ x.tag = t := by rw [sameL_iff] at h; exact h
theorem getL_tot {l : List Lt} (h : SoL l) (a t : Int) : getL l a t = totL l a t := by
  induction l with
  | nil => rfl
  | cons x r ih =>
    rw [getL_cons, totL, ih h.of_cons]
    split
    · rename_i hs
      obtain ⟨rfl, rfl⟩ := key_of hs
      rw [totL_none (so_none h)]; omega
    · omega
theorem isLs_iff (l : List Lt) : isLs l = true ↔ (∀ x ∈ l, okL x = true) ∧ l.length ≤ 16 ∧ SoL l := by
  unfold isLs
  rw [Bool.and_eq_true, Bool.and_eq_true, List.all_eq_true, decide_eq_true_eq, rising_pairwise ordL]
  exact ⟨fun h => ⟨h.1.1, h.1.2, h.2⟩, fun h => ⟨⟨h.1, h.2.1⟩, h.2.2⟩⟩
theorem isLs_pos {l : List Lt} (h : isLs l = true) : ∀ y ∈ l, 0 < y.qty := fun y hy => okL_pos (((isLs_iff l).1 h).1 y hy)
/-- two rows of lots of which each key has as much are the same -/
theorem lots_ext : ∀ {A B : List Lt}, SoL A → SoL B → (∀ y ∈ A, 0 < y.qty) → (∀ y ∈ B, 0 < y.qty) → (∀ a t, totL A a t = totL B a t) → A = B
  | [], [], _, _, _, _, _ => rfl
  | [], b :: B, _, _, _, hb, h => by
    have h1 := h b.ast b.tag
    have h2 := totL_ge hb (show b ∈ b :: B by simp)
    have h3 := hb b (by simp)
    rw [totL] at h1
    omega
  | a :: A, [], _, _, ha, _, h => by
    have h1 := h a.ast a.tag
    have h2 := totL_ge ha (show a ∈ a :: A by simp)
    have h3 := ha a (by simp)
    rw [show totL [] a.ast a.tag = 0 from rfl] at h1
    omega
  | a :: A, b :: B, sa, sb, ha, hb, h => by
    have pa := ha a (by simp)
    have pb := hb b (by simp)
    cases h1 : ahL a b with
    | true =>
      have h2 : totL (b :: B) a.ast a.tag = 0 := totL_none fun y hy => by
        rcases List.mem_cons.1 hy with rfl | hy
        · exact same_after h1
        · exact same_after (ordL.tr _ _ _ h1 (List.rel_of_pairwise_cons sb hy))
      have h3 := h a.ast a.tag
      have h4 := totL_ge ha (show a ∈ a :: A by simp)
      omega
    | false =>
      cases h2 : ahL b a with
      | true =>
        have h2 : totL (a :: A) b.ast b.tag = 0 := totL_none fun y hy => by
          rcases List.mem_cons.1 hy with rfl | hy
          · exact same_after h2
          · exact same_after (ordL.tr _ _ _ h2 (List.rel_of_pairwise_cons sa hy))
        have h3 := h b.ast b.tag
        have h4 := totL_ge hb (show b ∈ b :: B by simp)
        omega
      | false =>
        have hk := key_of (sameL_of h2 h1)
        obtain ⟨aa, at_, aq⟩ := a
        obtain ⟨ba, bt, bq⟩ := b
        simp only at hk
        obtain ⟨rfl, rfl⟩ := hk
        have h3 := h ba bt
        have e1 := totL_none (so_none sa)
        have e2 := totL_none (so_none sb)
        simp only at e1 e2
        simp only [totL, sameL, BEq.rfl, Bool.and_self, if_true, e1, e2] at h3
        obtain rfl : aq = bq := by omega
        rw [lots_ext sa.of_cons sb.of_cons (fun y hy => ha y (by simp [hy])) (fun y hy => hb y (by simp [hy])) (fun a t => by have := h a t; simp only [totL] at this; omega)]
/-- a row whose keys all stand in another one is no longer -/
theorem lots_len : ∀ {B A : List Lt}, SoL A → SoL B → (∀ x ∈ A, ∃ y ∈ B, sameL x.ast x.tag y = true) → A.length ≤ B.length
  | [], [], _, _, _ => Nat.le_refl _
  | [], a :: A, _, _, h => by obtain ⟨y, hy, _⟩ := h a (by simp); simp at hy
  | b :: B, [], _, _, _ => by simp
  | b :: B, a :: A, sa, sb, h => by
    cases hk : sameL a.ast a.tag b with
    | true =>
      have : A.length ≤ B.length := lots_len sa.of_cons sb.of_cons fun x hx => by
        obtain ⟨y, hy, hs⟩ := h x (by simp [hx])
        rcases List.mem_cons.1 hy with rfl | hy
        · have h1 := key_of hk
          have h2 := key_of hs
          have h3 := so_none sa x hx
          have : sameL a.ast a.tag x = true := by rw [sameL_iff]; omega
          rw [h3] at this; cases this
        · exact ⟨y, hy, hs⟩
      simpa using this
    | false =>
      have hba : ahL b a = true := by
        obtain ⟨y, hy, hs⟩ := h a (by simp)
        rcases List.mem_cons.1 hy with rfl | hy
        · rw [hk] at hs; cases hs
        · have h1 := List.rel_of_pairwise_cons sb hy
          have h2 := key_of hs
          rw [ahL_iff] at h1 ⊢
          unfold ltL at h1 ⊢
          omega
      have : (a :: A).length ≤ B.length := lots_len sa sb.of_cons fun x hx => by
        obtain ⟨y, hy, hs⟩ := h x hx
        rcases List.mem_cons.1 hy with rfl | hy
        · exfalso
          have h1 : ahL y x = true := by
            rcases List.mem_cons.1 hx with rfl | hx
            · exact hba
            · exact ordL.tr _ _ _ hba (List.rel_of_pairwise_cons sa hx)
          have h2 := same_after h1
          rw [same_swap, hs] at h2; cases h2
        · exact ⟨y, hy, hs⟩
      simp at this ⊢
      omega
theorem totL_put {l : List Lt} (h : SoL l) (x : Lt) (a t : Int) : totL (putR ahL l x) a t = if sameL a t x = true then x.qty else totL l a t := by
  induction l with
  | nil => simp only [putR, totL]; split <;> omega
  | cons y r ih =>
    unfold putR
    cases h1 : ahL y x with
    | true =>
      rw [if_pos rfl, totL, ih h.of_cons, totL]
      by_cases hs : sameL a t x = true
      · rw [if_pos hs, if_pos hs]
        obtain ⟨rfl, rfl⟩ := key_of hs
        have := same_after h1
        rw [same_swap] at this
        rw [this]; simp
      · rw [if_neg hs, if_neg hs]
    | false =>
      rw [if_neg (by simp)]
      cases h2 : ahL x y with
      | true =>
        rw [if_pos rfl, totL]
        by_cases hs : sameL a t x = true
        · rw [if_pos hs, if_pos hs]
          obtain ⟨rfl, rfl⟩ := key_of hs
          rw [totL_none fun z hz => by
            rcases List.mem_cons.1 hz with rfl | hz
            · exact same_after h2
            · exact same_after (ordL.tr _ _ _ h2 (List.rel_of_pairwise_cons h hz))]
          omega
        · rw [if_neg hs, if_neg hs]; omega
      | false =>
        rw [if_neg (by simp), totL]
        have hk := key_of (sameL_of h1 h2)
        by_cases hs : sameL a t x = true
        · rw [if_pos hs, if_pos hs]
          obtain ⟨rfl, rfl⟩ := key_of hs
          have := totL_none (so_none h)
          rw [hk.1, hk.2] at this
          omega
        · rw [if_neg hs, if_neg hs, totL, if_neg (fun e => hs (by rw [sameL_iff] at e ⊢; omega))]
theorem len_put_has {l : List Lt} (h : SoL l) (x : Lt) (hh : ∃ y ∈ l, sameL x.ast x.tag y = true) : (putR ahL l x).length = l.length := by
  induction l with
  | nil => obtain ⟨y, hy, _⟩ := hh; simp at hy
  | cons y r ih =>
    unfold putR
    cases h1 : ahL y x with
    | true =>
      rw [if_pos rfl, List.length_cons, List.length_cons, ih h.of_cons]
      obtain ⟨z, hz, hs⟩ := hh
      rcases List.mem_cons.1 hz with rfl | hz
      · have := same_after h1; rw [same_swap, hs] at this; cases this
      · exact ⟨z, hz, hs⟩
    | false =>
      rw [if_neg (by simp)]
      cases h2 : ahL x y with
      | true =>
        obtain ⟨z, hz, hs⟩ := hh
        rcases List.mem_cons.1 hz with rfl | hz
        · have := same_after h2; rw [hs] at this; cases this
        · have := same_after (ordL.tr _ _ _ h2 (List.rel_of_pairwise_cons h hz)); rw [hs] at this; cases this
      | false => rw [if_neg (by simp)]; simp
theorem len_put_no {l : List Lt} (x : Lt) (hh : ∀ y ∈ l, sameL x.ast x.tag y = false) : (putR ahL l x).length = l.length + 1 := by
  induction l with
  | nil => rfl
  | cons y r ih =>
    unfold putR
    split
    · rw [List.length_cons, ih (fun z hz => hh z (by simp [hz]))]; simp
    · split
      · simp
      · rename_i h1 h2
        have := sameL_of (x := x) (a := y) (by simpa using h1) (by simpa using h2)
        rw [hh y (by simp)] at this; cases this
abbrev qsum (l : List Lt) (i : Int) : Int := (qsL l i).sum
theorem qsum_cons (x : Lt) (r : List Lt) (i : Int) : qsum (x :: r) i = (if x.ast = i then x.qty else 0) + qsum r i := by
  unfold qsum qsL
  rw [List.filter_cons]
  by_cases h : x.ast = i
  · rw [if_pos (by simpa using h), if_pos h]; simp
  · rw [if_neg (by simpa using h), if_neg h]; simp
theorem qsum_append (l m : List Lt) (i : Int) : qsum (l ++ m) i = qsum l i + qsum m i := by
  unfold qsum qsL; simp
theorem qsum_put {l : List Lt} (h : SoL l) (a t q : Int) (i : Int) : qsum (putR ahL l ⟨a, t, getL l a t + q⟩) i = qsum l i + if a = i then q else 0 := by
  induction l with
  | nil => rw [putR, getL_nil, qsum_cons]; simp [qsum, qsL]
  | cons y r ih =>
    have ih := ih h.of_cons
    unfold putR
    rw [getL_cons]
    cases h1 : ahL y ⟨a, t, (if sameL a t y = true then y.qty else getL r a t) + q⟩ with
    | true =>
      have hn : sameL a t y = false := by
        have := same_after h1
        rw [same_swap] at this
        exact this
      simp only [hn, Bool.false_eq_true, if_false]
      rw [if_pos trivial, qsum_cons, qsum_cons, ih]; omega
    | false =>
      rw [if_neg (by simp)]
      cases h2 : ahL ⟨a, t, (if sameL a t y = true then y.qty else getL r a t) + q⟩ y with
      | true =>
        have hn : sameL a t y = false := same_after h2
        have hz : getL r a t = 0 := by
          rw [getL_tot h.of_cons, totL_none]
          exact fun z hz => same_after (x := ⟨a, t, _⟩) (ordL.tr _ _ _ h2 (List.rel_of_pairwise_cons h hz))
        simp only [hn, Bool.false_eq_true, if_false]
        rw [if_pos trivial, qsum_cons, hz]
        simp only
        split <;> omega
      | false =>
        have hs : sameL a t y = true := sameL_of h1 h2
        rw [if_neg (by simp), qsum_cons, qsum_cons, if_pos hs, (key_of hs).1]
        simp only
        split <;> omega
theorem put_ok {m m' : List Lt} {x : Lt} (h : putLR m x = (0, m')) : isLs m = true ∧ okL x = true ∧ In64 (getL m x.ast x.tag + x.qty) ∧ ¬ (getL m x.ast x.tag = 0 ∧ m.length = 16) ∧ m' = putR ahL m ⟨x.ast, x.tag, getL m x.ast x.tag + x.qty⟩ := by
  unfold putLR at h
  split at h
  · rename_i hc; injection h with h1; exact absurd h1 hc
  · rename_i hc
    have hc : chkL m x = 0 := by simpa using hc
    split at h
    · injection h with h1; cases h1
    · rename_i h64
      split at h
      · injection h with h1; cases h1
      · rename_i hl
        injection h with h1 h2
        exact ⟨(chkL_ok hc).1, (chkL_ok hc).2, by simpa using h64, hl, h2.symm⟩
theorem put_can {m : List Lt} {x : Lt} (h1 : isLs m = true) (h2 : okL x = true) (h3 : In64 (getL m x.ast x.tag + x.qty)) (h4 : ¬ (getL m x.ast x.tag = 0 ∧ m.length = 16)) : putLR m x = (0, putR ahL m ⟨x.ast, x.tag, getL m x.ast x.tag + x.qty⟩) := by
  have hc : chkL m x = 0 := by unfold chkL; rw [if_neg (by rw [h1]; simp), if_neg (by rw [h2]; simp)]
  unfold putLR
  rw [if_neg (by rw [hc]; simp), if_neg (by simpa using h3), if_neg h4]
theorem put_err (m : List Lt) (x : Lt) (h : (putLR m x).1 ≠ 0) : (putLR m x).2 = [] := by
  revert h
  unfold putLR
  split
  · intro _; rfl
  · split
    · intro _; rfl
    · split
      · intro _; rfl
      · intro h; exact absurd rfl h
theorem get_has {m : List Lt} (h : isLs m = true) {a t : Int} (hg : getL m a t ≠ 0) : ∃ y ∈ m, sameL a t y = true := by
  obtain ⟨h1, h2, h3⟩ := (isLs_iff m).1 h
  rw [getL_tot h3] at hg
  exact totL_has (isLs_pos h) (by have := totL_nn (isLs_pos h) a t; omega)
theorem get_no {m : List Lt} (h : isLs m = true) {a t : Int} (hg : getL m a t = 0) : ∀ y ∈ m, sameL a t y = false := fun y hy => by
  obtain ⟨h1, h2, h3⟩ := (isLs_iff m).1 h
  cases hs : sameL a t y with
  | false => rfl
  | true =>
    obtain ⟨rfl, rfl⟩ := key_of hs
    rw [getL_tot h3] at hg
    have := totL_ge (isLs_pos h) hy
    have := isLs_pos h y hy
    omega
theorem okL_qty {x : Lt} (h : okL x = true) {q : Int} (hq : 0 < q) : okL ⟨x.ast, x.tag, q⟩ = true := by
  unfold okL at h ⊢
  simp only [Bool.and_eq_true, decide_eq_true_eq] at h ⊢
  exact ⟨h.1, hq⟩
/-- lots with one more are lots -/
theorem put_is {m m' : List Lt} {x : Lt} (h : putLR m x = (0, m')) : isLs m' = true ∧ (∀ a t, totL m' a t = totL m a t + if sameL a t x = true then x.qty else 0) ∧ (∀ i, qsum m' i = qsum m i + if x.ast = i then x.qty else 0) ∧ ((∀ y ∈ m, In64 y.qty) → ∀ y ∈ m', In64 y.qty) := by
  obtain ⟨h1, h2, h3, h4, rfl⟩ := put_ok h
  obtain ⟨m1, m2, m3⟩ := (isLs_iff m).1 h1
  have hp := okL_pos h2
  have hg := getL_nn h1 x.ast x.tag
  refine ⟨(isLs_iff _).2 ⟨fun y hy => ?_, ?_, pairwise_putR ordL _ _ m3⟩, fun a t => ?_, fun i => qsum_put m3 _ _ _ _, fun h6 y hy => ?_⟩
  · rcases mem_putR _ _ _ hy with rfl | hy
    · exact okL_qty h2 (by omega)
    · exact m1 y hy
  · by_cases hz : getL m x.ast x.tag = 0
    · have := length_putR (ah := ahL) ⟨x.ast, x.tag, getL m x.ast x.tag + x.qty⟩ m
      omega
    · rw [len_put_has m3 ⟨x.ast, x.tag, getL m x.ast x.tag + x.qty⟩ (get_has h1 hz)]; exact m2
  · rw [totL_put m3]
    have e : sameL a t ⟨x.ast, x.tag, getL m x.ast x.tag + x.qty⟩ = sameL a t x := rfl
    rw [e]
    split
    · rename_i hs
      obtain ⟨rfl, rfl⟩ := key_of hs
      rw [getL_tot m3]
    · omega
  · rcases mem_putR _ _ _ hy with rfl | hy
    · exact h3
    · exact h6 y hy
open Classical in
/-- lots put one behind the other -/
noncomputable def joinF : List Lt → List Lt → Int × List Lt
  | m, [] => (0, m)
  | m, x :: r => if (putLR m x).1 = 0 then joinF (putLR m x).2 r else ((putLR m x).1, [])
theorem join_ok : ∀ {L m m' : List Lt}, joinF m L = (0, m') → isLs m = true → isLs m' = true ∧ (∀ a t, totL m' a t = totL m a t + totL L a t) ∧ (∀ i, qsum m' i = qsum m i + qsum L i) ∧ (∀ x ∈ L, okL x = true) ∧ ((∀ y ∈ m, In64 y.qty) → ∀ y ∈ m', In64 y.qty)
  | [], m, m', h, hm => by
    injection h with h1 h2
    subst h2
    exact ⟨hm, fun a t => by simp [totL], fun i => by simp [qsum, qsL], fun x hx => by simp at hx, id⟩
  | x :: r, m, m', h, hm => by
    rw [joinF] at h
    split at h
    · rename_i h0
      obtain ⟨e, m1⟩ : ∃ m1, putLR m x = (0, m1) := ⟨_, Prod.ext h0 rfl⟩
      rw [m1] at h
      simp only at h
      obtain ⟨p1, p2, p3, p4⟩ := put_is m1
      obtain ⟨j1, j2, j3, j4, j5⟩ := join_ok h p1
      refine ⟨j1, fun a t => by rw [j2, p2, totL]; omega, fun i => by rw [j3, p3, qsum_cons]; omega, fun y hy => ?_, fun h6 => j5 (p4 h6)⟩
      rcases List.mem_cons.1 hy with rfl | hy
      · exact (put_ok m1).2.1
      · exact j4 y hy
    · rename_i h0
      injection h with h1
      exact absurd h1 h0
theorem join_err : ∀ {L m : List Lt}, (joinF m L).1 ≠ 0 → (joinF m L).2 = []
  | [], m, h => absurd rfl h
  | x :: r, m, h => by
    rw [joinF] at h ⊢
    split
    · rename_i h0; rw [if_pos h0] at h; exact join_err h
    · rfl
theorem join_to : ∀ {L m m' : List Lt}, isLs m = true → isLs m' = true → (∀ x ∈ L, okL x = true) → (∀ y ∈ m', In64 y.qty) → (∀ a t, totL m' a t = totL m a t + totL L a t) → joinF m L = (0, m')
  | [], m, m', h1, h2, _, _, h => by
    rw [joinF, lots_ext ((isLs_iff m).1 h1).2.2 ((isLs_iff m').1 h2).2.2 (isLs_pos h1) (isLs_pos h2) (fun a t => by have := h a t; rw [totL] at this; omega)]
  | x :: r, m, m', h1, h2, hx, h6, h => by
    obtain ⟨a1, a2, a3⟩ := (isLs_iff m).1 h1
    obtain ⟨b1, b2, b3⟩ := (isLs_iff m').1 h2
    have hok := hx x (by simp)
    have hp := okL_pos hok
    have hg := getL_nn h1 x.ast x.tag
    have hr : ∀ y ∈ r, okL y = true := fun y hy => hx y (by simp [hy])
    have hrn := totL_nn (fun y hy => okL_pos (hr y hy)) x.ast x.tag
    have hk := h x.ast x.tag
    rw [totL, if_pos (by simp [sameL]), ← getL_tot a3, ← getL_tot b3] at hk
    have h64 : In64 (getL m x.ast x.tag + x.qty) := by
      have := getL_in h6 x.ast x.tag
      unfold In64 at *
      omega
    have hlim : ¬ (getL m x.ast x.tag = 0 ∧ m.length = 16) := by
      rintro ⟨hz, hl⟩
      have e1 := len_put_no x (get_no h1 hz)
      have e2 := lots_len (pairwise_putR ordL x m a3) b3 fun y hy => by
        have hyp : 0 < totL m' y.ast y.tag := by
          rw [h]
          have q1 := totL_nn (isLs_pos h1) y.ast y.tag
          have q2 := totL_nn (fun y hy => okL_pos (hx y hy)) y.ast y.tag
          rcases mem_putR _ _ _ hy with rfl | hy
          · have := totL_ge (fun y hy => okL_pos (hx y hy)) (show y ∈ y :: r by simp)
            omega
          · have := totL_ge (isLs_pos h1) hy
            have := isLs_pos h1 y hy
            omega
        exact totL_has (isLs_pos h2) hyp
      omega
    have hpc := put_can h1 hok h64 hlim
    obtain ⟨p1, p2, _, _⟩ := put_is hpc
    rw [joinF, hpc, if_pos rfl]
    exact join_to p1 h2 hr h6 fun a t => by rw [h, p2, totL]; omega
/-- any order makes the same -/
theorem join_swap {A B m : List Lt} (h : joinF [] (A ++ B) = (0, m)) : joinF [] (B ++ A) = (0, m) := by
  obtain ⟨h1, h2, _, h4, h5⟩ := join_ok h rfl
  refine join_to rfl h1 (fun x hx => h4 x (by simp at hx ⊢; exact hx.symm)) (h5 (by simp)) fun a t => ?_
  rw [h2, totL_append, totL_append]; omega
/-- what was put can be taken -/
theorem put_take {l a : List Lt} {x : Lt} (h : putLR l x = (0, a)) : takeLR a x = (0, l) ∧ isLs a = true := by
  obtain ⟨p1, p2, _, _⟩ := put_is h
  obtain ⟨h1, h2, h3, h4, e⟩ := put_ok h
  obtain ⟨a1, a2, a3⟩ := (isLs_iff l).1 h1
  obtain ⟨b1, b2, b3⟩ := (isLs_iff a).1 p1
  have hp := okL_pos h2
  have hg := getL_nn h1 x.ast x.tag
  have hga : getL a x.ast x.tag = getL l x.ast x.tag + x.qty := by
    rw [getL_tot b3, p2, if_pos (by simp [sameL]), getL_tot a3]
  have hc : chkL a x = 0 := by unfold chkL; rw [if_neg (by rw [p1]; simp), if_neg (by rw [h2]; simp)]
  refine ⟨?_, p1⟩
  unfold takeLR
  rw [if_neg (by rw [hc]; simp), if_neg (by omega)]
  by_cases hz : getL l x.ast x.tag = 0
  · rw [if_pos (by omega)]
    congr 1
    refine lots_ext (List.Pairwise.filter _ b3) a3 (fun y hy => isLs_pos p1 y (List.mem_filter.1 hy).1) (isLs_pos h1) fun s t => ?_
    by_cases hs : sameL s t x = true
    · obtain ⟨rfl, rfl⟩ := key_of hs
      rw [totL_none (fun y hy => by have := (List.mem_filter.1 hy).2; simpa using this), ← getL_tot a3, hz]
    · have : ∀ b : List Lt, totL (b.filter fun y => !sameL x.ast x.tag y) s t = totL b s t := by
        intro b
        induction b with
        | nil => rfl
        | cons y r ih =>
          rw [List.filter_cons, totL]
          cases hy : sameL x.ast x.tag y with
          | true =>
            have h1 := key_of hy
            rw [if_neg (by simp), ih, if_neg (fun e => hs (by have h2 := key_of e; rw [sameL_iff]; omega))]; omega
          | false => rw [if_pos (by simp), totL, ih]
      rw [this, p2, if_neg hs]; omega
  · rw [if_neg (by omega)]
    congr 1
    refine lots_ext (pairwise_putR ordL _ _ b3) a3 (fun y hy => ?_) (isLs_pos h1) fun s t => ?_
    · rcases mem_putR _ _ _ hy with rfl | hy
      · show 0 < getL a x.ast x.tag - x.qty
        omega
      · exact isLs_pos p1 y hy
    · rw [totL_put b3]
      have e : sameL s t ⟨x.ast, x.tag, getL a x.ast x.tag - x.qty⟩ = sameL s t x := rfl
      rw [e, p2]
      split
      · rename_i hs
        obtain ⟨rfl, rfl⟩ := key_of hs
        rw [← getL_tot a3]
        show getL a x.ast x.tag - x.qty = _
        omega
      · omega
/-- what is drawn and what is left, key by key -/
theorem draw_tot (a : Int) : ∀ (q : Int) (l : List Lt) (s t : Int), totL (drawF a q l).1 s t + totL (drawF a q l).2 s t = totL l s t
  | q, [], s, t => rfl
  | q, x :: r, s, t => by
    have ih := draw_tot a (q - if x.ast = a then min x.qty q else 0) r s t
    obtain ⟨p, hp⟩ : ∃ p, (if x.ast = a then min x.qty q else 0) = p := ⟨_, rfl⟩
    have e1 : ∀ q, sameL s t ⟨x.ast, x.tag, q⟩ = sameL s t x := fun _ => rfl
    simp only [drawF, totL, e1] at ih ⊢
    rw [hp] at ih ⊢
    by_cases hs : sameL s t x = true
    · rw [if_pos hs, if_pos hs, if_pos hs]; omega
    · rw [if_neg hs, if_neg hs, if_neg hs]; omega
theorem tot_some (l : List Lt) (s t : Int) : totL (someL l) s t = totL l s t := by
  unfold someL
  induction l with
  | nil => rfl
  | cons x r ih =>
    rw [List.filter_cons, totL]
    cases h : (x.qty == 0) with
    | true => rw [if_neg (by simp), ih]; have : x.qty = 0 := by simpa using h
              rw [this]; simp
    | false => rw [if_pos (by simp), totL, ih]
theorem draw_nn (a : Int) : ∀ (q : Int) (l : List Lt), 0 ≤ q → (∀ y ∈ l, 0 < y.qty) → (∀ y ∈ (drawF a q l).1, 0 ≤ y.qty) ∧ (∀ y ∈ (drawF a q l).2, 0 ≤ y.qty)
  | q, [], _, _ => ⟨fun y hy => by simp [drawF] at hy, fun y hy => by simp [drawF] at hy⟩
  | q, x :: r, hq, h => by
    have hx := h x (by simp)
    obtain ⟨i1, i2⟩ := draw_nn a (q - if x.ast = a then min x.qty q else 0) r (by split <;> omega) (fun y hy => h y (by simp [hy]))
    simp only [drawF]
    refine ⟨fun y hy => ?_, fun y hy => ?_⟩
    · rcases List.mem_cons.1 hy with rfl | hy
      · simp only; split <;> omega
      · exact i1 y hy
    · rcases List.mem_cons.1 hy with rfl | hy
      · simp only; split <;> omega
      · exact i2 y hy
def keyL (x : Lt) : Int × Int := (x.ast, x.tag)
theorem draw_keys (a : Int) : ∀ (q : Int) (l : List Lt), (drawF a q l).1.map keyL = l.map keyL ∧ (drawF a q l).2.map keyL = l.map keyL
  | q, [] => ⟨rfl, rfl⟩
  | q, x :: r => by
    obtain ⟨i1, i2⟩ := draw_keys a (q - if x.ast = a then min x.qty q else 0) r
    simp only [drawF, List.map_cons, i1, i2, keyL, and_self]
theorem so_keys {l : List Lt} : SoL l ↔ (l.map keyL).Pairwise fun u v => u.1 < v.1 ∨ (u.1 = v.1 ∧ u.2 < v.2) := by
  rw [List.pairwise_map]
  exact ⟨fun h => h.imp fun h => (ahL_iff _ _).1 h, fun h => h.imp fun h => (ahL_iff _ _).2 h⟩
theorem ok_key {x : Lt} (h : 0 < x.qty) {y : Lt} (hy : okL y = true) (hk : keyL x = keyL y) : okL x = true := by
  unfold keyL at hk
  injection hk with h1 h2
  have := okL_qty hy h
  rw [← h1, ← h2] at this
  exact this
theorem draw_is {l m : List Lt} (h : isLs l = true) (hk : m.map keyL = l.map keyL) (hn : ∀ y ∈ m, 0 ≤ y.qty) : isLs (someL m) = true := by
  obtain ⟨a1, a2, a3⟩ := (isLs_iff l).1 h
  have hl : m.length = l.length := by have := congrArg List.length hk; simpa using this
  refine (isLs_iff _).2 ⟨fun x hx => ?_, ?_, ?_⟩
  · obtain ⟨h1, h2⟩ := List.mem_filter.1 hx
    have hq := hn x h1
    have hz : x.qty ≠ 0 := by simpa using h2
    have : keyL x ∈ l.map keyL := by rw [← hk]; exact List.mem_map.2 ⟨x, h1, rfl⟩
    obtain ⟨y, hy, he⟩ := List.mem_map.1 this
    exact ok_key (by omega) (a1 y hy) he.symm
  · have := List.length_filter_le (fun y : Lt => !(y.qty == 0)) m
    unfold someL
    omega
  · unfold someL
    exact List.Pairwise.filter _ (so_keys.2 (by rw [hk]; exact so_keys.1 a3))
theorem qsum_nn {l : List Lt} (h : ∀ y ∈ l, 0 ≤ y.qty) (i : Int) : 0 ≤ qsum l i := by
  induction l with
  | nil => exact Int.le_refl 0
  | cons x r ih =>
    have h1 := h x (by simp)
    have h2 := ih (fun y hy => h y (by simp [hy]))
    rw [qsum_cons]; split <;> omega
theorem qsum_some (l : List Lt) (i : Int) : qsum (someL l) i = qsum l i := by
  unfold someL
  induction l with
  | nil => rfl
  | cons x r ih =>
    rw [List.filter_cons, qsum_cons]
    cases h : (x.qty == 0) with
    | true => rw [if_neg (by simp), ih]; have : x.qty = 0 := by simpa using h
              rw [this]; simp
    | false => rw [if_pos (by simp), qsum_cons, ih]
theorem draw_sum (a : Int) : ∀ (q : Int) (l : List Lt), 0 ≤ q → (∀ y ∈ l, 0 < y.qty) → qsum (drawF a q l).1 a = min q (qsum l a)
  | q, [], hq, _ => by simp [drawF, qsum, qsL]; omega
  | q, x :: r, hq, h => by
    have hx := h x (by simp)
    have hr := qsum_nn (fun y hy => by have := h y (by simp [hy]); omega : ∀ y ∈ r, 0 ≤ y.qty) a
    have ih := draw_sum a (q - if x.ast = a then min x.qty q else 0) r (by split <;> omega) (fun y hy => h y (by simp [hy]))
    simp only [drawF]
    rw [qsum_cons, qsum_cons, ih]
    simp only
    split <;> omega
theorem draw_back {l t r : List Lt} {a q : Int} (h6 : ∀ y ∈ l, In64 y.qty) (h : drawR l a q = (0, t, r)) : joinF [] (t ++ r) = (0, l) ∧ isLs t = true ∧ isLs r = true ∧ qsum t a = q := by
  unfold drawR at h
  split at h
  · injection h with h1; cases h1
  · rename_i hl
    have hl : isLs l = true := by simpa using hl
    split at h
    · injection h with h1; cases h1
    · split at h
      · injection h with h1; cases h1
      · rename_i hq hs
        injection h with h1 h2
        injection h2 with h2 h3
        subst h2; subst h3
        obtain ⟨k1, k2⟩ := draw_keys a q l
        obtain ⟨n1, n2⟩ := draw_nn a q l (by omega) (isLs_pos hl)
        have i1 := draw_is hl k1 n1
        have i2 := draw_is hl k2 n2
        refine ⟨join_to rfl hl (fun x hx => ?_) h6 fun s t => ?_, i1, i2, ?_⟩
        · rcases List.mem_append.1 hx with hx | hx
          · exact ((isLs_iff _).1 i1).1 x hx
          · exact ((isLs_iff _).1 i2).1 x hx
        · rw [totL_append, tot_some, tot_some, draw_tot]; simp [totL]
        · rw [qsum_some, draw_sum a q l (by omega) (isLs_pos hl)]
          unfold qsum
          omega
theorem draw_err {l : List Lt} {a q : Int} (h : (drawR l a q).1 ≠ 0) : (drawR l a q).2 = ([], []) := by
  revert h
  unfold drawR
  split
  · intro _; rfl
  · split
    · intro _; rfl
    · split
      · intro _; rfl
      · intro h; exact absurd rfl h
end Go.Proofs.Ytfagpdnckmaomaa
