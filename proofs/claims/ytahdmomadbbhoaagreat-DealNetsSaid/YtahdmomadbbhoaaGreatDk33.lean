import Derived.Test.YtahdmomadbbhoaaGreatDk32
import Derived.Deep.RegionLaw
import Derived.Lib.SliceRun
import Derived.Test.YtahdmomadbbhoaaGreatDk02
import Derived.Deep.DeepCutAuto
import Derived.Deep.RegionHeld3
import Derived.Test.YtahdmomadbbhoaaGreatDk03
import Derived.BigQuiet
import Derived.Test.YtahdmomadbbhoaaGreatDk11
import Derived.Test.YtahdmomadbbhoaaGreatDk12
import Derived.Test.YtahdmomadbbhoaaGreatDk13
import Derived.Test.YtahdmomadbbhoaaGreatDk17
section
namespace Go.Proofs.YtahdmomadbbhoaaGreat
open Go.ChangeShapes Go.WideShapes Go.ChangeAt Go.RowKit
set_option linter.unusedVariables false
set_option linter.unusedSimpArgs false

theorem getG_legs : ∀ (l : List Int) (i : Int) (k : Nat) (h : k < l.length), getG (legsF i l) (i + (k : Int)) = l[k]
  | [], _, k, h => by simp at h
  | q :: r, i, 0, h => by
    have hn : getG (legsF (i + 1) r) (i + ((0 : Nat) : Int)) = 0 := getG_none fun x hx => by
      have := legs_mem (i + 1) r x hx
      omega
    rw [legsF]
    by_cases hq : q = 0
    · rw [if_pos hq, List.nil_append, hn]; simp [hq]
    · rw [if_neg hq, List.cons_append, List.nil_append, getG_cons, if_pos (by simp)]; simp
  | q :: r, i, k + 1, h => by
    have ih := getG_legs r (i + 1) k (by simpa using h)
    have e : i + ((k + 1 : Nat) : Int) = i + 1 + (k : Int) := by omega
    rw [legsF, e]
    by_cases hq : q = 0
    · rw [if_pos hq, List.nil_append, ih]; simp
    · rw [if_neg hq, List.cons_append, List.nil_append, getG_cons, if_neg (by simp only; omega), ih]; simp
theorem addL_get {a b L : List Lg} (h : addL [a, b] = (0, L)) : isG a = true ∧ isG b = true ∧ ∀ t : Int, 1 ≤ t → t ≤ 8 → getG L t = getG a t + getG b t := by
  rw [sum_two] at h
  split at h
  · rename_i hg
    refine ⟨hg.1, hg.2, fun t h1 h8 => ?_⟩
    unfold ofR at h
    split at h
    · injection h with _ e
      subst e
      have hk : (t - 1).toNat < ((List.range 8).map fun j : Nat => getG a ((j : Int) + 1) + getG b ((j : Int) + 1)).length := by simp; omega
      have hg := getG_legs _ 1 (t - 1).toNat hk
      have ht : (1 : Int) + ((t - 1).toNat : Int) = t := by omega
      rw [ht] at hg
      rw [hg]
      have ht2 : (((t - 1).toNat : Nat) : Int) + 1 = t := by omega
      simp only [List.getElem_map, List.getElem_range, ht2]
    · injection h with h1; cases h1
  · injection h with h1; cases h1
theorem vec_ext {a b : List Lg} (ha : isG a = true) (hb : isG b = true) (h : ∀ t : Int, 1 ≤ t → t ≤ 8 → getG a t = getG b t) : a = b := by
  obtain ⟨a1, a2⟩ := (isG_iff a).1 ha
  obtain ⟨b1, b2⟩ := (isG_iff b).1 hb
  have ea := legs_back 8 1 a a2 (fun x hx => ⟨(a1 x hx).1, by have := (a1 x hx).2.1; omega, (a1 x hx).2.2⟩)
  have eb := legs_back 8 1 b b2 (fun x hx => ⟨(b1 x hx).1, by have := (b1 x hx).2.1; omega, (b1 x hx).2.2⟩)
  rw [← ea, ← eb]
  congr 1
  refine List.map_congr_left fun j hj => ?_
  have := List.mem_range.1 hj
  exact h _ (by omega) (by omega)
theorem getG_nil (t : Int) : getG [] t = 0 := rfl
theorem sums_consP (b : Pc) (r : List Pc) (t : Int) : (sumsH (b :: r) t).sum = getG b.L t + (sumsH r t).sum := by simp [sumsH]
theorem lots_consP (b : Pc) (r : List Pc) (a c : Int) : lotsH (b :: r) a c = if unH a c b = true then b.L else lotsH r a c := by
  unfold lotsH
  rw [List.find?_cons]
  cases h : unH a c b <;> simp
theorem sums_filterP {cs : List Pc} (h : SoH cs) (a c t : Int) : (sumsH cs t).sum = (sumsH (cs.filter fun g => !unH a c g) t).sum + getG (lotsH cs a c) t := by
  induction cs with
  | nil => simp [sumsH, lotsH, getG_nil]
  | cons b r ih =>
    have ih := ih h.of_cons
    rw [lots_consP, sums_consP]
    by_cases hu : unH a c b = true
    · rw [if_pos hu, List.filter_cons_of_neg (by simp [hu]), List.filter_eq_self.2 (fun z hz => by simp [none_afterP h hu z hz])]
      omega
    · rw [if_neg hu, List.filter_cons_of_pos (by simpa using hu), sums_consP]
      omega
theorem sums_putP {cs : List Pc} (h : SoH cs) (a c t : Int) (L : List Lg) : (sumsH (putR ahH cs ⟨a, c, L⟩) t).sum = (sumsH (cs.filter fun g => !unH a c g) t).sum + getG L t := by
  induction cs with
  | nil => rw [putR, sums_consP]; simp [sumsH]
  | cons b r ih =>
    have ih := ih h.of_cons
    unfold putR
    split
    · rename_i h1
      have hn : unH a c b = false := by rw [unH_no]; rw [ahH_iff] at h1; simp only at h1; omega
      rw [List.filter_cons_of_pos (by simp [hn]), sums_consP, sums_consP, ih]
      omega
    · rename_i h1
      split
      · rename_i h2
        have hall : ∀ z ∈ b :: r, unH a c z = false := by
          intro z hz
          have hxz : ahH ⟨a, c, L⟩ z = true := by
            rcases List.mem_cons.1 hz with rfl | hz
            · exact h2
            · exact ordH.tr _ _ _ h2 (List.rel_of_pairwise_cons h hz)
          rw [unH_no]; rw [ahH_iff] at hxz; simp only at hxz; omega
        rw [List.filter_eq_self.2 (fun z hz => by simp [hall z hz]), sums_consP]
        simp only
        omega
      · rename_i h2
        rw [ahH_iff] at h1 h2
        simp only at h1 h2
        have hbu : unH a c b = true := by rw [unH_iff]; omega
        rw [List.filter_cons_of_neg (by simp [hbu]), List.filter_eq_self.2 (fun z hz => by simp [none_afterP h hbu z hz]), sums_consP]
        simp only
        omega
theorem sums_withP {cs : List Pc} (h : SoH cs) (a c t : Int) (L : List Lg) : (sumsH (withH cs a c L) t).sum = (sumsH cs t).sum - getG (lotsH cs a c) t + getG L t := by
  have h1 := sums_filterP h a c t
  unfold withH
  split
  · rename_i hL
    subst hL
    have : getG [] t = 0 := rfl
    omega
  · rw [sums_putP h]; omega
theorem lots_with_selfP {cs : List Pc} (h : SoH cs) (a c : Int) (L : List Lg) : lotsH (withH cs a c L) a c = L := by
  by_cases hL : L = []
  · subst hL
    rcases lots_cases (withH cs a c []) a c with ⟨e, _⟩ | ⟨x, hx, e1, e2, e⟩
    · exact e
    · rcases (mem_with h a c [] x).1 hx with ⟨h1, _⟩ | ⟨_, h1⟩
      · exact absurd rfl h1
      · rw [unH_no] at h1; exact absurd ⟨e1, e2⟩ h1
  · exact lots_mem (x := ⟨a, c, L⟩) (with_sorted h a c L) ((mem_with h a c L _).2 (.inl ⟨hL, rfl⟩))
theorem lots_with_otherP {cs : List Pc} (h : SoH cs) {a c a' c' : Int} (hne : ¬ (a' = a ∧ c' = c)) (L : List Lg) : lotsH (withH cs a c L) a' c' = lotsH cs a' c' := by
  have hs := with_sorted h a c L
  rcases lots_cases cs a' c' with ⟨e, hno⟩ | ⟨x, hx, e1, e2, e⟩
  · rw [e]
    rcases lots_cases (withH cs a c L) a' c' with ⟨e, _⟩ | ⟨x, hx, e1, e2, _⟩
    · exact e
    · rcases (mem_with h a c L x).1 hx with ⟨_, rfl⟩ | ⟨h1, _⟩
      · exact absurd ⟨e1.symm, e2.symm⟩ hne
      · have := hno x h1
        rw [unH_no] at this; exact absurd ⟨e1, e2⟩ this
  · subst e1; subst e2
    rw [lots_mem h hx]
    exact lots_mem hs ((mem_with h a c L x).2 (.inr ⟨hx, by rw [unH_no]; exact hne⟩))
theorem book_ext {A B : List Pc} (hA : isH A = true) (hB : isH B = true) (h : ∀ a c, lotsH A a c = lotsH B a c) : A = B := by
  have key : ∀ {A B : List Pc}, isH A = true → isH B = true → (∀ a c, lotsH A a c = lotsH B a c) → ∀ x ∈ A, x ∈ B := by
    intro A B hA hB h x hx
    have h1 := lots_mem (isH_sorted hA) hx
    have h2 := ((okH_iff x).1 (((isH_iff A).1 hA).1 x hx)).1
    rw [h] at h1
    rcases lots_cases B x.ac x.cl with ⟨e, _⟩ | ⟨y, hy, e1, e2, e⟩
    · rw [e] at h1; exact absurd h1.symm h2
    · have : x = y := by
        obtain ⟨xa, xc, xL⟩ := x
        obtain ⟨ya, yc, yL⟩ := y
        simp only at e1 e2 e h1
        rw [e] at h1
        rw [← h1, e1, e2]
      rw [this]; exact hy
  exact sorted_ext ordH _ _ (isH_sorted hA) (isH_sorted hB) fun x => ⟨key hA hB h x, key hB hA (fun a c => (h a c).symm) x⟩
theorem shift_get {M : List Lg} {cs R : List Pc} {a c : Int} (h : chgHR (fun m => addL [m, M]) cs a c = (0, R)) (a' c' t : Int) (h1 : 1 ≤ t) (h8 : t ≤ 8) : getG (lotsH R a' c') t = getG (lotsH cs a' c') t + if a' = a ∧ c' = c then getG M t else 0 := by
  obtain ⟨hi, L, hL, rfl⟩ := chg_factsP h
  have hs := isH_sorted hi
  obtain ⟨_, _, hg⟩ := addL_get hL
  split
  · rename_i he
    obtain ⟨rfl, rfl⟩ := he
    rw [lots_with_selfP hs, hg t h1 h8]
  · rename_i he
    rw [lots_with_otherP hs he]; omega
theorem shift_sum {M : List Lg} {cs R : List Pc} {a c : Int} (h : chgHR (fun m => addL [m, M]) cs a c = (0, R)) (t : Int) (h1 : 1 ≤ t) (h8 : t ≤ 8) : (sumsH R t).sum = (sumsH cs t).sum + getG M t := by
  obtain ⟨hi, L, hL, rfl⟩ := chg_factsP h
  obtain ⟨_, _, hg⟩ := addL_get hL
  rw [sums_withP (isH_sorted hi), hg t h1 h8]
  omega
theorem shift_other {M : List Lg} {cs R : List Pc} {a c oa oc : Int} (h : chgHR (fun m => addL [m, M]) cs a c = (0, R)) (hne : ¬ (oa = a ∧ oc = c)) : lotsH R oa oc = lotsH cs oa oc := by
  obtain ⟨hi, L, hL, rfl⟩ := chg_factsP h
  exact lots_with_otherP (isH_sorted hi) hne L
theorem movP_facts {M : List Lg} {cs R : List Pc} {fa fc ta tc : Int} (h : moveP cs fa fc ta tc M = (0, R)) : ∃ X, chgHR (fun m => addL [m, negG M]) cs fa fc = (0, X) ∧ chgHR (fun m => addL [m, M]) X ta tc = (0, R) := by
  unfold moveP at h
  split at h
  · injection h with h1; cases h1
  · split at h
    · rename_i hn
      injection h with h1; exact absurd h1 hn
    · rename_i hn
      have hn : (negR M).1 = 0 := by simpa using hn
      rw [(negR_ok hn).2.1] at h
      split at h
      · rename_i hm
        injection h with h1; exact absurd h1 hm
      · rename_i hm
        exact ⟨_, Prod.ext (by simpa using hm) rfl, h⟩
theorem movP_is {M : List Lg} {cs R : List Pc} {fa fc ta tc : Int} (h : moveP cs fa fc ta tc M = (0, R)) : isH cs = true ∧ isH R = true ∧ ((∀ g ∈ cs, ∀ y ∈ g.L, In64 y.qty) → ∀ g ∈ R, ∀ y ∈ g.L, In64 y.qty) ∧ R.length ≤ cs.length + 2 ∧ (∀ n : Nat, 8 ≤ n → (∀ g ∈ cs, g.L.length ≤ n) → ∀ g ∈ R, g.L.length ≤ n) := by
  obtain ⟨X, h1, h2⟩ := movP_facts h
  obtain ⟨a1, a2, a3, a4⟩ := shift_is h1
  obtain ⟨b1, b2, b3, b4⟩ := shift_is h2
  exact ⟨(chg_factsP h1).1, b1, fun h => b2 (a2 h), by omega, fun n hn hc => b4 n hn (a4 n hn hc)⟩
theorem movP_sum {M : List Lg} {cs R : List Pc} {fa fc ta tc : Int} (h : moveP cs fa fc ta tc M = (0, R)) (t : Int) (h1 : 1 ≤ t) (h8 : t ≤ 8) : (sumsH R t).sum = (sumsH cs t).sum := by
  obtain ⟨X, e1, e2⟩ := movP_facts h
  rw [shift_sum e2 t h1 h8, shift_sum e1 t h1 h8, getG_neg]
  omega
theorem movP_other {M : List Lg} {cs R : List Pc} {fa fc ta tc oa oc : Int} (h : moveP cs fa fc ta tc M = (0, R)) (h1 : ¬ (oa = fa ∧ oc = fc)) (h2 : ¬ (oa = ta ∧ oc = tc)) : lotsH R oa oc = lotsH cs oa oc := by
  obtain ⟨X, e1, e2⟩ := movP_facts h
  rw [shift_other e2 h2, shift_other e1 h1]
theorem movP_back {M : List Lg} {cs R B : List Pc} {fa fc ta tc : Int} (h : moveP cs fa fc ta tc M = (0, R)) (h2 : moveP R ta tc fa fc M = (0, B)) : B = cs := by
  have hi := (movP_is h).1
  have hB := (movP_is h2).2.1
  obtain ⟨X, e1, e2⟩ := movP_facts h
  obtain ⟨Y, e3, e4⟩ := movP_facts h2
  refine book_ext hB hi fun a c => vec_ext (lots_is hB a c) (lots_is hi a c) fun t h1 h8 => ?_
  rw [shift_get e4 a c t h1 h8, shift_get e3 a c t h1 h8, shift_get e2 a c t h1 h8, shift_get e1 a c t h1 h8, getG_neg]
  split <;> split <;> omega
def balP (cs : List Pc) : Bool := decide (∀ j ∈ List.range 8, (sumsH cs ((j : Int) + 1)).sum = 0)
theorem balP_no {cs : List Pc} {k : Nat} (h1 : 1 ≤ k) (h8 : k ≤ 8) (h : (sumsH cs (k : Int)).sum ≠ 0) : balP cs = false := by
  unfold balP
  rw [decide_eq_false_iff_not]
  intro hall
  have := hall (k - 1) (List.mem_range.2 (by omega))
  rw [show (((k - 1 : Nat) : Int) + 1) = (k : Int) by omega] at this
  exact h this
theorem balP_yes {cs : List Pc} (h : ∀ j : Nat, 1 ≤ j → j ≤ 8 → (sumsH cs (j : Int)).sum = 0) : balP cs = true := by
  unfold balP
  rw [decide_eq_true_iff]
  intro j hj
  have := List.mem_range.1 hj
  have := h (j + 1) (by omega) (by omega)
  simpa using this
theorem balP_same {cs R : List Pc} (h : ∀ t : Int, 1 ≤ t → t ≤ 8 → (sumsH R t).sum = (sumsH cs t).sum) : balP R = balP cs := by
  unfold balP
  rw [decide_eq_decide]
  constructor
  · intro h2 j hj
    have := List.mem_range.1 hj
    rw [← h _ (by omega) (by omega)]; exact h2 j hj
  · intro h2 j hj
    have := List.mem_range.1 hj
    rw [h _ (by omega) (by omega)]; exact h2 j hj
end Go.Proofs.YtahdmomadbbhoaaGreat
end
section
namespace Go.Proofs.YtahdmomadbbhoaaGreat
open Go.ChangeShapes Go.WideShapes Go.ChangeAt Go.RowKit
set_option linter.unusedVariables false
set_option linter.unusedSimpArgs false

structure Lt where
  (ast : Int) (tag : Int) (qty : Int)
deriving DecidableEq
def Lt.cells (g : Lt) : List Value := [.int .i64 g.ast, .int .i64 g.tag, .int .i64 g.qty]
def Lt.val (g : Lt) : Value := .agg #[.int .i64 g.ast, .int .i64 g.tag, .int .i64 g.qty]
def Lt.zero : Lt := ⟨0, 0, 0⟩
theorem Lt.len (g : Lt) : g.cells.length = 3 := rfl
theorem Lt.one (g : Lt) : ∀ u ∈ g.cells, u.oneCell' = true := by
  intro u hu
  simp only [Lt.cells, List.mem_cons, List.not_mem_nil, or_false] at hu
  rcases hu with h | h | h <;> subst h <;> rfl
def Lt.at (g : Lt) (w : World) (b o : Nat) : Prop :=
  w.cell? ⟨b, o, none⟩ = some (.int .i64 g.ast) ∧ w.cell? ⟨b, o + 1, none⟩ = some (.int .i64 g.tag) ∧ w.cell? ⟨b, o + 2, none⟩ = some (.int .i64 g.qty)
theorem Lt.at_of {w : World} {b o : Nat} {g : Lt} (h : ∀ j u, g.cells[j]? = some u → w.cell? ⟨b, o + j, none⟩ = some u) : g.at w b o :=
  ⟨h 0 _ rfl, h 1 _ rfl, h 2 _ rfl⟩
theorem Lt.at_keep {w w' : World} {b o : Nat} {g : Lt} (h : g.at w b o) (k : ∀ i, w'.cell? ⟨b, i, none⟩ = w.cell? ⟨b, i, none⟩) : g.at w' b o := by
  unfold Lt.at at *
  simp only [k]
  exact h
theorem Sl.lt {w : World} {A : Option Addr} {l : List Lt} (h : Sl w A (rc Lt.cells l)) {k : Nat} (hk : k < l.length) : ∃ b o, A = some ⟨b, o, none⟩ ∧ b < w.heap.size ∧ l[k].at w b (o + k * 3) := by
  obtain ⟨b, o, hA, hb, hc⟩ := Sl.elem (m := 3) Lt.len (by decide) h hk
  exact ⟨b, o, hA, hb, Lt.at_of hc⟩
def Lt.Tells (F : Nat) (caps : Array Value) (p : Lt → Bool) (B : Nat) (w : World) : Prop :=
  ∀ (g : Lt) (W : World), Below B w W → Calls Tryz.prog F (#[g.val] ++ caps) W fun e w' => e = .returned (.bool (p g)) ∧ Below W.heap.size W w'
theorem Lt.Tells.below {F : Nat} {caps : Array Value} {p : Lt → Bool} {B : Nat} {w w1 : World} (h : Lt.Tells F caps p B w) (hb : Below B w w1) {C : Nat} (hC : B ≤ C) : Lt.Tells F caps p C w1 :=
  fun g W hW => h g W (hb.trans (hW.mono hC))
end Go.Proofs.YtahdmomadbbhoaaGreat
end
section
namespace Go.Proofs.YtahdmomadbbhoaaGreat
open Go.ChangeShapes Go.WideShapes Go.ChangeAt Go.RowKit
set_option linter.unusedVariables false
set_option linter.unusedSimpArgs false

def Lt.Tells2 (F : Nat) (caps : Array Value) (ah : Lt → Lt → Bool) (B : Nat) (w : World) : Prop :=
  ∀ (a b : Lt) (W : World), Below B w W → Calls Tryz.prog F (#[a.val, b.val] ++ caps) W fun e w' => e = .returned (.bool (ah a b)) ∧ Below W.heap.size W w'
theorem Lt.Tells2.below {F : Nat} {caps : Array Value} {ah : Lt → Lt → Bool} {B : Nat} {w w1 : World} (h : Lt.Tells2 F caps ah B w) (hb : Below B w w1) {C : Nat} (hC : B ≤ C) : Lt.Tells2 F caps ah C w1 :=
  fun a b W hW => h a b W (hb.trans (hW.mono hC))
end Go.Proofs.YtahdmomadbbhoaaGreat
end
section
namespace Go.Proofs.YtahdmomadbbhoaaGreat
open Go.ChangeShapes Go.WideShapes Go.ChangeAt Go.RowKit
set_option linter.unusedVariables false
set_option linter.unusedSimpArgs false

def ltL (x y : Lt) : Prop := x.ast < y.ast ∨ (x.ast = y.ast ∧ x.tag < y.tag)
instance (x y : Lt) : Decidable (ltL x y) := by unfold ltL; infer_instance
end Go.Proofs.YtahdmomadbbhoaaGreat
end
section
namespace Go.Proofs.YtahdmomadbbhoaaGreat
open Go.ChangeShapes Go.WideShapes Go.ChangeAt Go.RowKit
set_option linter.unusedVariables false
set_option linter.unusedSimpArgs false

theorem EWd : Elem Tryz.prog 92 56 2 16 := Elem.mk' (z := .agg #[.int .i64 0, .int .u64 0]) (by kernel_rfl) (by kernel_rfl) (by decide) (by decide)
theorem wcells_snoc (l : List Int) (x : Int) : wcells (l ++ [x]) = wcells l ++ [.int .i64 (hiN x), .int .u64 (loN x)] := by simp [wcells]
theorem wide_one (x : Int) : ∀ u ∈ [Value.int .i64 (hiN x), Value.int .u64 (loN x)], u.oneCell' = true := by
  intro u hu
  simp at hu
  rcases hu with rfl | rfl <;> rfl
theorem sum64_128 {l : List Int} (hl : l.length ≤ 1000000) (h : All64 l) : In128 l.sum := by
  have key : ∀ m : List Int, All64 m → -(m.length : Int) * 9223372036854775808 ≤ m.sum ∧ m.sum ≤ (m.length : Int) * 9223372036854775808 := by
    intro m
    induction m with
    | nil => intro _; simp
    | cons a m ih =>
      intro hm
      have h1 := ih (fun x hx => hm x (by simp [hx]))
      have h2 := hm a (by simp)
      unfold In64 at h2
      simp only [List.length_cons, List.sum_cons]
      omega
  have := key l h
  unfold In128
  omega
end Go.Proofs.YtahdmomadbbhoaaGreat
end
