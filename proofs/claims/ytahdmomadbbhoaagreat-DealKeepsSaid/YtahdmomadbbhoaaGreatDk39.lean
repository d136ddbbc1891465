import Derived.Test.YtahdmomadbbhoaaGreatDk13
import Derived.Test.YtahdmomadbbhoaaGreatDk14
import Derived.Test.YtahdmomadbbhoaaGreatDk18
import Derived.Test.YtahdmomadbbhoaaGreatDk20
import Derived.Test.YtahdmomadbbhoaaGreatDk33
import Derived.Test.YtahdmomadbbhoaaGreatDk38
import Derived.Test.YtahdmomadbbhoaaGreatDk17
section
namespace Go.Proofs.YtahdmomadbbhoaaGreat
open Go.ChangeShapes Go.WideShapes Go.ChangeAt Go.RowKit
set_option linter.unusedVariables false
set_option linter.unusedSimpArgs false

theorem ok_pr {i : Ins} (h : okB i = true) : prB i.price = true ∧ prB i.nxt = true := by
  unfold okB headB at h
  simp only [Bool.and_eq_true] at h
  exact ⟨h.1.1.1.2, h.1.1.2⟩
theorem payR_facts {p O Q : List Fw} (h : payR p O = (0, Q)) : isF p = true ∧ Q = purseOf (p ++ O) := by
  unfold payR at h
  split at h
  · cases h
  · rename_i hp
    split at h
    · cases h
    · injection h with _ h
      exact ⟨by simpa using hp, h.symm⟩
-- OF A BALANCED BOOK NOTHING
-- THERE AND BACK
theorem sumU_has {l : List Fw} {a c : Int} (h : sumU l a c ≠ 0) : ∃ y ∈ l, y.ac = a ∧ y.cl = c := by
  by_cases he : ∃ y ∈ l, y.ac = a ∧ y.cl = c
  · exact he
  · refine absurd (sumU_none fun x hx => ?_) h
    rw [← Bool.not_eq_true, unF_iff]
    exact fun hk => he ⟨x, hx, hk⟩
theorem purseOf_ext {l m : List Fw} (h : ∀ a c, sumU l a c = sumU m a c) : purseOf l = purseOf m :=
  sorted_ext ordF _ _ (purseOf_sorted l) (purseOf_sorted m) fun x => by
    rw [mem_purseOf, mem_purseOf, h]
    constructor
    · rintro ⟨_, h1, h2⟩
      exact ⟨sumU_has (by rw [← h1]; exact h2), h1, h2⟩
    · rintro ⟨_, h1, h2⟩
      exact ⟨sumU_has (by rw [h, ← h1]; exact h2), h1, h2⟩
theorem sumU_mem : ∀ {l : List Fw}, l.Pairwise (fun a b => ahF a b = true) → ∀ x ∈ l, sumU l x.ac x.cl = x.amt
  | [], _, x, hx => by cases hx
  | y :: l, h, x, hx => by
    rw [sumU_cons]
    have hno : ∀ z ∈ l, ¬ (z.ac = y.ac ∧ z.cl = y.cl) := fun z hz hk => by
      have h1 := List.rel_of_pairwise_cons h hz
      simp only [ahF, keyLt_iff] at h1
      omega
    rcases List.mem_cons.1 hx with rfl | hx
    · rw [if_pos ((unF_iff _ _ _).2 ⟨rfl, rfl⟩), sumU_none]
      · simp
      · intro z hz
        rw [← Bool.not_eq_true, unF_iff]
        exact hno z hz
    · rw [if_neg, sumU_mem h.of_cons x hx]
      · simp
      · rw [unF_iff]
        rintro ⟨h1, h2⟩
        exact hno x hx ⟨h1.symm, h2.symm⟩
theorem purseOf_self {p : List Fw} (h : isF p = true) : purseOf p = p := by
  symm
  refine purse_unique (isF_sorted h) fun x => ?_
  constructor
  · intro hx
    exact ⟨⟨x, hx, rfl, rfl⟩, (sumU_mem (isF_sorted h) x hx).symm, isF_amt h x hx⟩
  · rintro ⟨⟨y, hy, h1, h2⟩, h3, h4⟩
    have h5 := sumU_mem (isF_sorted h) y hy
    rw [h1, h2, ← h3] at h5
    obtain ⟨xa, xc, xm⟩ := x
    obtain ⟨ya, yc, ym⟩ := y
    simp only at h1 h2 h5
    subst h1 h2 h5
    exact hy
theorem purseOf_in {l : List Fw} (h : ∀ x ∈ l, In64 x.ac ∧ In64 x.cl) (hf : fitsU l = true) : ∀ x ∈ purseOf l, Fw.in_ x := by
  intro x hx
  obtain ⟨⟨y, hy, h1, h2⟩, h3, h4⟩ := (mem_purseOf l x).1 hx
  refine ⟨h1 ▸ (h y hy).1, h2 ▸ (h y hy).2, ?_⟩
  unfold fitsU at hf
  rw [List.all_eq_true] at hf
  have := hf ⟨x.ac, x.cl⟩ ((mem_unitsU l ⟨x.ac, x.cl⟩).2 ⟨y, hy, h1, h2⟩)
  rw [h3]
  exact (fitI_iff _).1 this
theorem payR_in {p O : List Fw} (h : ∀ x ∈ p ++ O, Fw.in_ x) : ∀ x ∈ (payR p O).2, Fw.in_ x := by
  unfold payR
  split
  · intro x hx; cases hx
  · split
    · intro x hx; cases hx
    · rename_i hf
      exact purseOf_in (fun x hx => ⟨(h x hx).1, (h x hx).2.1⟩) (by simpa using hf)
end Go.Proofs.YtahdmomadbbhoaaGreat
end
section
namespace Go.Proofs.YtahdmomadbbhoaaGreat
open Go.ChangeShapes Go.WideShapes Go.ChangeAt Go.RowKit
set_option linter.unusedVariables false
set_option linter.unusedSimpArgs false

structure AtIs (u : Un) (US : List Un) (k a : Nat) : Prop where
  le : a ≤ k
  low : ∀ i, (hi : i < US.length) → i < a → ahUn US[i] u = true
  high : ∀ i, (hi : i < US.length) → a ≤ i → i < k → ahUn US[i] u = false
theorem AtIs.start (u : Un) (US : List Un) : AtIs u US 0 0 := ⟨Nat.le_refl _, fun i _ h => absurd h (by omega), fun i _ _ h => absurd h (by omega)⟩
theorem unitsU_len (l : List Fw) : (unitsU l).length ≤ l.length := by
  have key : ∀ (l : List Fw) (us : List Un), (l.foldl (fun us x => putR ahUn us ⟨x.ac, x.cl⟩) us).length ≤ us.length + l.length := by
    intro l
    induction l with
    | nil => intro us; simp
    | cons a r ih =>
      intro us
      have h1 := ih (putR ahUn us ⟨a.ac, a.cl⟩)
      have h2 := length_putR (ah := ahUn) ⟨a.ac, a.cl⟩ us
      simp only [List.foldl_cons, List.length_cons]
      omega
  have := key l []
  simpa [unitsU] using this
end Go.Proofs.YtahdmomadbbhoaaGreat
end
section
namespace Go.Proofs.YtahdmomadbbhoaaGreat
open Go.ChangeShapes Go.WideShapes Go.ChangeAt Go.RowKit
set_option linter.unusedVariables false
set_option linter.unusedSimpArgs false

def outU (all : List Fw) (us : List Un) : List Fw := (us.map fun u => (⟨u.ac, u.cl, sumU all u.ac u.cl⟩ : Fw)).filter fun x => x.amt != 0
theorem outU_len (all : List Fw) (us : List Un) : (outU all us).length ≤ us.length := by
  unfold outU
  have := List.length_filter_le (fun x : Fw => x.amt != 0) (us.map fun u => (⟨u.ac, u.cl, sumU all u.ac u.cl⟩ : Fw))
  simpa using this
theorem BB.grown {w w' : World} {g : Nat} {s : Bool} {A : Option Addr} {n c : Nat} {row : Option Nat} (h : BB w g s A n c) (hg : w.grownBy w' row) (hne : some g ≠ row) : BB w' g s A n c := by
  have e := hg.block g h.1 hne
  obtain ⟨h0, h1, h2, f1, f2⟩ := h
  refine ⟨Nat.lt_of_lt_of_le h0 hg.size, ?_, ?_, ?_, ?_⟩
  · rw [← h1]; unfold World.cell?; simp only [e]
  · rw [← h2]; unfold World.cell?; simp only [e]
  · rw [← f1]; unfold World.frozen?; simp only [e]
  · rw [← f2]; unfold World.frozen?; simp only [e]
end Go.Proofs.YtahdmomadbbhoaaGreat
end
