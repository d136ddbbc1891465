import Derived.Test.YtahdmomadbbhoaaGreatDk03
import Derived.Test.YtahdmomadbbhoaaGreatDk04
import Derived.Test.YtahdmomadbbhoaaGreatDk26
section
namespace Go.Proofs.YtahdmomadbbhoaaGreat
open Go.ChangeShapes Go.WideShapes Go.ChangeAt Go.RowKit
set_option linter.unusedVariables false
set_option linter.unusedSimpArgs false

def keyLt (a c a' c' : Int) : Bool := decide (a < a' ∨ a = a' ∧ c < c')
theorem keyLt_iff (a c a' c' : Int) : keyLt a c a' c' = true ↔ a < a' ∨ a = a' ∧ c < c' := by simp [keyLt]
theorem keyLt_not (a c a' c' : Int) : keyLt a c a' c' = false ↔ ¬ (a < a' ∨ a = a' ∧ c < c') := by rw [← keyLt_iff]; simp
theorem bext {a b : Bool} (h : a = true ↔ b = true) : a = b := by cases a <;> cases b <;> simp_all
theorem ord_key {α : Type} (f g : α → Int) : Ord (fun x y : α => keyLt (f x) (g x) (f y) (g y)) where
  tr := fun a b c h1 h2 => by simp only [keyLt_iff] at *; omega
  asy := fun a b h => by simp only [keyLt_iff, keyLt_not] at *; omega
  cong := fun a x b h1 h2 => bext (by simp only [keyLt_iff, keyLt_not] at *; omega)
  cong2 := fun a x b h1 h2 => bext (by simp only [keyLt_iff, keyLt_not] at *; omega)
def ahF (x y : Fw) : Bool := keyLt x.ac x.cl y.ac y.cl
theorem ordF : Ord ahF := ord_key Fw.ac Fw.cl
def ahUn (x y : Un) : Bool := keyLt x.ac x.cl y.ac y.cl
theorem ordUn : Ord ahUn := ord_key Un.ac Un.cl
def unF (a c : Int) (x : Fw) : Bool := x.ac == a && x.cl == c
theorem unF_iff (a c : Int) (x : Fw) : unF a c x = true ↔ x.ac = a ∧ x.cl = c := by simp [unF]
def isF (l : List Fw) : Bool := l.all (fun x => x.amt != 0) && risingL ahF l
def getF (l : List Fw) (a c : Int) : Int := (pickL (unF a c) Fw.zero l).amt
def totF (l : List Fw) : Int := (l.map Fw.amt).sum
def sumU (l : List Fw) (a c : Int) : Int := ((l.filter (unF a c)).map Fw.amt).sum
def unitsU (l : List Fw) : List Un := l.foldl (fun us x => putR ahUn us ⟨x.ac, x.cl⟩) []
def purseOf (all : List Fw) : List Fw := ((unitsU all).map fun u => (⟨u.ac, u.cl, sumU all u.ac u.cl⟩ : Fw)).filter fun x => x.amt != 0
def fitI (z : Int) : Bool := decide (-9223372036854775808 ≤ z) && decide (z ≤ 9223372036854775807)
theorem fitI_iff (z : Int) : fitI z = true ↔ In64 z := by simp [fitI, In64]
def fitsU (all : List Fw) : Bool := (unitsU all).all fun u => fitI (sumU all u.ac u.cl)
def payR (l fs : List Fw) : Int × List Fw := if isF l = false then (3, []) else if fitsU (l ++ fs) = false then (7, []) else (0, purseOf (l ++ fs))
theorem sorted_ext {α : Type} {ah : α → α → Bool} (o : Ord ah) : ∀ (A B : List α), A.Pairwise (fun a b => ah a b = true) → B.Pairwise (fun a b => ah a b = true) → (∀ x, x ∈ A ↔ x ∈ B) → A = B
  | [], [], _, _, _ => rfl
  | [], b :: B, _, _, h => by have := (h b).2 (by simp); cases this
  | a :: A, [], _, _, h => by have := (h a).1 (by simp); cases this
  | a :: A, b :: B, hA, hB, h => by
    have irr : ∀ x, ah x x = false := fun x => by
      cases e : ah x x with
      | false => rfl
      | true => have := o.asy _ _ e; rw [e] at this; cases this
    have e : a = b := by
      rcases List.mem_cons.1 ((h a).1 (by simp)) with e | h1
      · exact e
      · rcases List.mem_cons.1 ((h b).2 (by simp)) with e | h2
        · exact e.symm
        · have h3 := List.rel_of_pairwise_cons hA h2
          have h4 := List.rel_of_pairwise_cons hB h1
          rw [o.asy _ _ h3] at h4; cases h4
    subst e
    have hx : ∀ x, x ∈ A ↔ x ∈ B := fun x => by
      constructor
      · intro hx
        rcases List.mem_cons.1 ((h x).1 (by simp [hx])) with e | h1
        · subst e
          have := List.rel_of_pairwise_cons hA hx
          rw [irr] at this; cases this
        · exact h1
      · intro hx
        rcases List.mem_cons.1 ((h x).2 (by simp [hx])) with e | h1
        · subst e
          have := List.rel_of_pairwise_cons hB hx
          rw [irr] at this; cases this
        · exact h1
    rw [sorted_ext o A B hA.of_cons hB.of_cons hx]
theorem mem_putUn (u : Un) : ∀ (us : List Un) (v : Un), v ∈ putR ahUn us u ↔ v = u ∨ v ∈ us
  | [], v => by simp [putR]
  | a :: r, v => by
    have ih := mem_putUn u r v
    unfold putR
    split
    · simp only [List.mem_cons, ih]
      constructor
      · rintro (h | h | h) <;> simp [h]
      · rintro (h | h | h) <;> simp [h]
    · split
      · simp
      · rename_i h1 h2
        have e : a = u := by
          simp only [ahUn, Bool.not_eq_true, keyLt_not] at h1 h2
          cases a; cases u
          simp only [Un.mk.injEq] at *
          omega
        subst e
        simp
theorem fold_units (l : List Fw) : ∀ us : List Un, us.Pairwise (fun a b => ahUn a b = true) → (l.foldl (fun us x => putR ahUn us ⟨x.ac, x.cl⟩) us).Pairwise (fun a b => ahUn a b = true) ∧ ∀ u, u ∈ l.foldl (fun us x => putR ahUn us ⟨x.ac, x.cl⟩) us ↔ u ∈ us ∨ ∃ x ∈ l, x.ac = u.ac ∧ x.cl = u.cl := by
  induction l with
  | nil => intro us h; exact ⟨h, fun u => by simp⟩
  | cons a r ih =>
    intro us h
    obtain ⟨h1, h2⟩ := ih _ (pairwise_putR ordUn ⟨a.ac, a.cl⟩ us h)
    refine ⟨h1, fun u => ?_⟩
    rw [List.foldl_cons, h2, mem_putUn]
    constructor
    · rintro ((h | h) | ⟨x, hx, hu⟩)
      · subst h; exact .inr ⟨a, by simp, rfl, rfl⟩
      · exact .inl h
      · exact .inr ⟨x, by simp [hx], hu⟩
    · rintro (h | ⟨x, hx, h3, h4⟩)
      · exact .inl (.inr h)
      · rcases List.mem_cons.1 hx with rfl | hx
        · exact .inl (.inl (by cases u; simp only at h3 h4; rw [h3, h4]))
        · exact .inr ⟨x, hx, h3, h4⟩
theorem unitsU_sorted (l : List Fw) : (unitsU l).Pairwise (fun a b => ahUn a b = true) := (fold_units l [] List.Pairwise.nil).1
theorem mem_unitsU (l : List Fw) (u : Un) : u ∈ unitsU l ↔ ∃ x ∈ l, x.ac = u.ac ∧ x.cl = u.cl := by
  have := (fold_units l [] List.Pairwise.nil).2 u
  simpa [unitsU] using this
theorem purseOf_sorted (all : List Fw) : (purseOf all).Pairwise (fun a b => ahF a b = true) := by
  unfold purseOf
  refine List.Pairwise.filter _ ?_
  rw [List.pairwise_map]
  exact (unitsU_sorted all).imp fun h => h
theorem mem_purseOf (all : List Fw) (x : Fw) : x ∈ purseOf all ↔ (∃ y ∈ all, y.ac = x.ac ∧ y.cl = x.cl) ∧ x.amt = sumU all x.ac x.cl ∧ x.amt ≠ 0 := by
  unfold purseOf
  rw [List.mem_filter, List.mem_map]
  constructor
  · rintro ⟨⟨u, hu, rfl⟩, h⟩
    exact ⟨(mem_unitsU all u).1 hu, rfl, by simpa using h⟩
  · rintro ⟨h1, h2, h3⟩
    refine ⟨⟨⟨x.ac, x.cl⟩, (mem_unitsU all _).2 h1, ?_⟩, by simpa using h3⟩
    cases x
    simp only at h2 ⊢
    rw [← h2]
theorem isF_sorted {l : List Fw} (h : isF l = true) : l.Pairwise (fun a b => ahF a b = true) := by
  simp only [isF, Bool.and_eq_true] at h
  exact (rising_pairwise ordF l).1 h.2
theorem isF_amt {l : List Fw} (h : isF l = true) : ∀ x ∈ l, x.amt ≠ 0 := by
  simp only [isF, Bool.and_eq_true, List.all_eq_true] at h
  intro x hx
  simpa using h.1 x hx
theorem isF_of {l : List Fw} (h1 : l.Pairwise (fun a b => ahF a b = true)) (h2 : ∀ x ∈ l, x.amt ≠ 0) : isF l = true := by
  simp only [isF, Bool.and_eq_true, List.all_eq_true]
  exact ⟨fun x hx => by simpa using h2 x hx, (rising_pairwise ordF l).2 h1⟩
theorem purseOf_is (all : List Fw) : isF (purseOf all) = true := isF_of (purseOf_sorted all) fun x hx => ((mem_purseOf all x).1 hx).2.2
theorem purse_unique {all out : List Fw} (h1 : out.Pairwise (fun a b => ahF a b = true)) (h2 : ∀ x, x ∈ out ↔ (∃ y ∈ all, y.ac = x.ac ∧ y.cl = x.cl) ∧ x.amt = sumU all x.ac x.cl ∧ x.amt ≠ 0) : out = purseOf all :=
  sorted_ext ordF _ _ h1 (purseOf_sorted all) fun x => by rw [h2, mem_purseOf]
theorem sumU_cons (x : Fw) (l : List Fw) (a c : Int) : sumU (x :: l) a c = (if unF a c x = true then x.amt else 0) + sumU l a c := by
  unfold sumU
  rw [List.filter_cons]
  split <;> simp
theorem sumU_append (l m : List Fw) (a c : Int) : sumU (l ++ m) a c = sumU l a c + sumU m a c := by
  simp [sumU]
theorem sumU_none {l : List Fw} {a c : Int} (h : ∀ x ∈ l, unF a c x = false) : sumU l a c = 0 := by
  unfold sumU
  rw [List.filter_eq_nil_iff.2 (fun x hx => by rw [h x hx]; decide)]
  rfl
theorem getF_purse : ∀ {l : List Fw}, l.Pairwise (fun a b => ahF a b = true) → ∀ a c, getF l a c = sumU l a c
  | [], _, a, c => rfl
  | x :: l, h, a, c => by
    have ih := getF_purse h.of_cons a c
    rw [sumU_cons]
    unfold getF pickL at *
    rw [List.find?_cons]
    cases hx : unF a c x with
    | true =>
      rw [sumU_none]
      · simp
      · intro y hy
        have h1 := List.rel_of_pairwise_cons h hy
        rw [← Bool.not_eq_true]
        intro h2
        rw [unF_iff] at hx h2
        simp only [ahF, keyLt_iff] at h1
        omega
    | false => rw [ih]; simp
theorem sumU_purseOf (all : List Fw) (a c : Int) : sumU (purseOf all) a c = sumU all a c := by
  have h := getF_purse (purseOf_sorted all) a c
  rw [← h]
  unfold getF pickL
  cases hf : (purseOf all).find? (unF a c) with
  | some x =>
    have h1 := List.mem_of_find?_eq_some hf
    have h2 := List.find?_some hf
    rw [unF_iff] at h2
    obtain ⟨_, h3, _⟩ := (mem_purseOf all x).1 h1
    rw [h2.1, h2.2] at h3
    exact h3
  | none =>
    show (0 : Int) = _
    rw [List.find?_eq_none] at hf
    by_cases hk : ∃ y ∈ all, y.ac = a ∧ y.cl = c
    · by_cases h0 : sumU all a c = 0
      · exact h0.symm
      · have := hf ⟨a, c, sumU all a c⟩ ((mem_purseOf all _).2 ⟨hk, rfl, h0⟩)
        simp [unF] at this
    · rw [sumU_none]
      intro x hx
      rw [← Bool.not_eq_true]
      intro h
      rw [unF_iff] at h
      exact hk ⟨x, hx, h⟩
theorem sum_units (us : List Un) (hu : us.Pairwise (fun a b => ahUn a b = true)) : ∀ all : List Fw, (∀ x ∈ all, (⟨x.ac, x.cl⟩ : Un) ∈ us) → (us.map fun u => sumU all u.ac u.cl).sum = totF all
  | [], _ => by
    have h0 : ∀ vs : List Un, (vs.map fun u => sumU [] u.ac u.cl).sum = 0 := fun vs => by
      induction vs with
      | nil => rfl
      | cons u vs ih => rw [List.map_cons, List.sum_cons, ih]; rfl
    exact h0 us
  | x :: all, h => by
    have ih := sum_units us hu all fun y hy => h y (by simp [hy])
    have hx := h x (by simp)
    have e : (us.map fun u => sumU (x :: all) u.ac u.cl).sum = (us.map fun u => if unF u.ac u.cl x = true then x.amt else 0).sum + (us.map fun u => sumU all u.ac u.cl).sum := by
      clear ih hu hx h
      induction us with
      | nil => simp
      | cons u us ih => simp only [List.map_cons, List.sum_cons]; rw [ih, sumU_cons]; omega
    rw [e, ih]
    have key : ∀ vs : List Un, vs.Pairwise (fun a b => ahUn a b = true) → (vs.map fun u => if unF u.ac u.cl x = true then x.amt else 0).sum = if (⟨x.ac, x.cl⟩ : Un) ∈ vs then x.amt else 0 := by
      intro vs
      induction vs with
      | nil => intro _; simp
      | cons u vs ih2 =>
        intro hp
        have h2 := ih2 hp.of_cons
        simp only [List.map_cons, List.sum_cons, h2]
        by_cases he : unF u.ac u.cl x = true
        · rw [if_pos he]
          rw [unF_iff] at he
          have hu : (⟨x.ac, x.cl⟩ : Un) = u := by cases u; simp only at he ⊢; rw [he.1, he.2]
          rw [hu]
          have hn : u ∉ vs := fun hm => by
            have := List.rel_of_pairwise_cons hp hm
            simp only [ahUn, keyLt_iff] at this
            omega
          rw [if_neg hn, if_pos (by simp)]; omega
        · rw [if_neg he]
          have hu : ¬ (⟨x.ac, x.cl⟩ : Un) = u := fun hu => he (by rw [unF_iff, ← hu]; exact ⟨rfl, rfl⟩)
          simp only [List.mem_cons, hu, false_or]
          omega
    rw [key us hu, if_pos hx]
    simp [totF]
theorem totF_purseOf (all : List Fw) : totF (purseOf all) = totF all := by
  rw [← sum_units (unitsU all) (unitsU_sorted all) all fun x hx => (mem_unitsU all _).2 ⟨x, hx, rfl, rfl⟩]
  unfold totF purseOf
  generalize unitsU all = us
  induction us with
  | nil => rfl
  | cons u us ih =>
    simp only [List.map_cons, List.sum_cons]
    rw [List.filter_cons]
    split
    · simp only [List.map_cons, List.sum_cons]
      rw [ih]
    · rename_i h
      have h0 : sumU all u.ac u.cl = 0 := by simpa using h
      rw [ih, h0]; omega
end Go.Proofs.YtahdmomadbbhoaaGreat
end
