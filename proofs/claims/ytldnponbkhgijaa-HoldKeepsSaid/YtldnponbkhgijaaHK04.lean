import Derived.Test.YtldnponbkhgijaaHK03
import Derived.Test.YtldnponbkhgijaaHK02
import Derived.BigQuiet
import Derived.Deep.CutBlock
import Derived.Deep.CutRange
import Derived.Deep.DeepCutAuto
import Derived.Deep.RegionHeld3
section
namespace Go.Proofs.Ytldnponbkhgijaa
open Go.ChangeShapes Go.WideShapes Go.ChangeAt Go.RowKit
set_option linter.unusedVariables false
set_option linter.unusedSimpArgs false

def totL : List Lt → Int → Int → Int
  | [], _, _ => 0
  | x :: r, a, t => (if sameL a t x = true then x.qty else 0) + totL r a t
theorem totL_none {l : List Lt} {a t : Int} (h : ∀ y ∈ l, sameL a t y = false) : totL l a t = 0 := by
  induction l with
  | nil => rfl
  | cons x r ih => rw [totL, h x (by simp), ih (fun y hy => h y (by simp [hy]))]; simp
theorem totL_nn {l : List Lt} (h : ∀ y ∈ l, 0 < y.qty) (a t : Int) : 0 ≤ totL l a t := by
  induction l with
  | nil => exact Int.le_refl 0
  | cons x r ih =>
    have h1 := h x (by simp)
    have h2 := ih (fun y hy => h y (by simp [hy]))
    rw [totL]; split <;> omega
theorem totL_has {l : List Lt} (h : ∀ y ∈ l, 0 < y.qty) {a t : Int} (hp : 0 < totL l a t) : ∃ y ∈ l, sameL a t y = true := by
  by_cases hc : ∃ y ∈ l, sameL a t y = true
  · exact hc
  · rw [totL_none (fun y hy => by cases hs : sameL a t y with
      | false => rfl
      | true => exact absurd ⟨y, hy, hs⟩ hc)] at hp
    omega
theorem same_after {x y : Lt} (h : ahL x y = true) : sameL x.ast x.tag y = false := by
  rw [ahL_iff] at h
  cases hs : sameL x.ast x.tag y with
  | false => rfl
  | true => rw [sameL_iff] at hs; unfold ltL at h; omega
theorem same_swap {x y : Lt} : sameL x.ast x.tag y = sameL y.ast y.tag x := by
  cases h1 : sameL x.ast x.tag y <;> cases h2 : sameL y.ast y.tag x <;> try rfl
  · rw [sameL_iff] at h2
    have : sameL x.ast x.tag y = true := by rw [sameL_iff]; omega
    rw [h1] at this; cases this
  · rw [sameL_iff] at h1
    have : sameL y.ast y.tag x = true := by rw [sameL_iff]; omega
    rw [h2] at this; cases this
abbrev SoL (l : List Lt) : Prop := l.Pairwise (fun a b => ahL a b = true)
theorem so_none {x : Lt} {r : List Lt} (h : SoL (x :: r)) : ∀ y ∈ r, sameL x.ast x.tag y = false := fun y hy => same_after (List.rel_of_pairwise_cons h hy)
theorem getL_cons (x : Lt) (r : List Lt) (a t : Int) : getL (x :: r) a t = if sameL a t x = true then x.qty else getL r a t := by
  unfold getL pickL
  rw [List.find?_cons]
  cases sameL a t x <;> simp
theorem getL_nil (a t : Int) : getL [] a t = 0 := rfl
theorem key_of {a t : Int} {x : Lt} (h : sameL a t x = true) : x.ast = a ∧ x.tag = t := by rw [sameL_iff] at h; exact h
theorem getL_tot {l : List Lt} (h : SoL l) (a t : Int) : getL l a t = totL l a t := by
  induction l with
  | nil => rfl
  | cons x r ih =>
    rw [getL_cons, totL, ih h.of_cons]
    split
    · rename_i hs
      obtain ⟨rfl, rfl⟩ := key_of hs
      rw [totL_none (so_none h)]; omega
    · omega
theorem isLs_iff (l : List Lt) : isLs l = true ↔ (∀ x ∈ l, okL x = true) ∧ l.length ≤ 16 ∧ SoL l := by
  unfold isLs
  rw [Bool.and_eq_true, Bool.and_eq_true, List.all_eq_true, decide_eq_true_eq, rising_pairwise ordL]
  exact ⟨fun h => ⟨h.1.1, h.1.2, h.2⟩, fun h => ⟨⟨h.1, h.2.1⟩, h.2.2⟩⟩
theorem isLs_pos {l : List Lt} (h : isLs l = true) : ∀ y ∈ l, 0 < y.qty := fun y hy => okL_pos (((isLs_iff l).1 h).1 y hy)
theorem totL_put {l : List Lt} (h : SoL l) (x : Lt) (a t : Int) : totL (putR ahL l x) a t = if sameL a t x = true then x.qty else totL l a t := by
  induction l with
  | nil => simp only [putR, totL]; split <;> omega
  | cons y r ih =>
    unfold putR
    cases h1 : ahL y x with
    | true =>
      rw [if_pos rfl, totL, ih h.of_cons, totL]
      by_cases hs : sameL a t x = true
      · rw [if_pos hs, if_pos hs]
        obtain ⟨rfl, rfl⟩ := key_of hs
        have := same_after h1
        rw [same_swap] at this
        rw [this]; simp
      · rw [if_neg hs, if_neg hs]
    | false =>
      rw [if_neg (by simp)]
      cases h2 : ahL x y with
      | true =>
        rw [if_pos rfl, totL]
        by_cases hs : sameL a t x = true
        · rw [if_pos hs, if_pos hs]
          obtain ⟨rfl, rfl⟩ := key_of hs
          rw [totL_none fun z hz => by
            rcases List.mem_cons.1 hz with rfl | hz
            · exact same_after h2
            · exact same_after (ordL.tr _ _ _ h2 (List.rel_of_pairwise_cons h hz))]
          omega
        · rw [if_neg hs, if_neg hs]; omega
      | false =>
        rw [if_neg (by simp), totL]
        have hk := key_of (sameL_of h1 h2)
        by_cases hs : sameL a t x = true
        · rw [if_pos hs, if_pos hs]
          obtain ⟨rfl, rfl⟩ := key_of hs
          have := totL_none (so_none h)
          rw [hk.1, hk.2] at this
          omega
        · rw [if_neg hs, if_neg hs, totL, if_neg (fun e => hs (by rw [sameL_iff] at e ⊢; omega))]
theorem len_put_has {l : List Lt} (h : SoL l) (x : Lt) (hh : ∃ y ∈ l, sameL x.ast x.tag y = true) : (putR ahL l x).length = l.length := by
  induction l with
  | nil => obtain ⟨y, hy, _⟩ := hh; simp at hy
  | cons y r ih =>
    unfold putR
    cases h1 : ahL y x with
    | true =>
      rw [if_pos rfl, List.length_cons, List.length_cons, ih h.of_cons]
      obtain ⟨z, hz, hs⟩ := hh
      rcases List.mem_cons.1 hz with rfl | hz
      · have := same_after h1; rw [same_swap, hs] at this; cases this
      · exact ⟨z, hz, hs⟩
    | false =>
      rw [if_neg (by simp)]
      cases h2 : ahL x y with
      | true =>
        obtain ⟨z, hz, hs⟩ := hh
        rcases List.mem_cons.1 hz with rfl | hz
        · have := same_after h2; rw [hs] at this; cases this
        · have := same_after (ordL.tr _ _ _ h2 (List.rel_of_pairwise_cons h hz)); rw [hs] at this; cases this
      | false => rw [if_neg (by simp)]; simp
abbrev qsum (l : List Lt) (i : Int) : Int := (qsL l i).sum
theorem qsum_cons (x : Lt) (r : List Lt) (i : Int) : qsum (x :: r) i = (if x.ast = i then x.qty else 0) + qsum r i := by
  unfold qsum qsL
  rw [List.filter_cons]
  by_cases h : x.ast = i
  · rw [if_pos (by simpa using h), if_pos h]; simp
  · rw [if_neg (by simpa using h), if_neg h]; simp
theorem qsum_put {l : List Lt} (h : SoL l) (a t q : Int) (i : Int) : qsum (putR ahL l ⟨a, t, getL l a t + q⟩) i = qsum l i + if a = i then q else 0 := by
  induction l with
  | nil => rw [putR, getL_nil, qsum_cons]; simp [qsum, qsL]
  | cons y r ih =>
    have ih := ih h.of_cons
    unfold putR
    rw [getL_cons]
    cases h1 : ahL y ⟨a, t, (if sameL a t y = true then y.qty else getL r a t) + q⟩ with
    | true =>
      have hn : sameL a t y = false := by
        have := same_after h1
        rw [same_swap] at this
        exact this
      simp only [hn, Bool.false_eq_true, if_false]
      rw [if_pos trivial, qsum_cons, qsum_cons, ih]; omega
    | false =>
      rw [if_neg (by simp)]
      cases h2 : ahL ⟨a, t, (if sameL a t y = true then y.qty else getL r a t) + q⟩ y with
      | true =>
        have hn : sameL a t y = false := same_after h2
        have hz : getL r a t = 0 := by
          rw [getL_tot h.of_cons, totL_none]
          exact fun z hz => same_after (x := ⟨a, t, _⟩) (ordL.tr _ _ _ h2 (List.rel_of_pairwise_cons h hz))
        simp only [hn, Bool.false_eq_true, if_false]
        rw [if_pos trivial, qsum_cons, hz]
        simp only
        split <;> omega
      | false =>
        have hs : sameL a t y = true := sameL_of h1 h2
        rw [if_neg (by simp), qsum_cons, qsum_cons, if_pos hs, (key_of hs).1]
        simp only
        split <;> omega
theorem put_ok {m m' : List Lt} {x : Lt} (h : putLR m x = (0, m')) : isLs m = true ∧ okL x = true ∧ In64 (getL m x.ast x.tag + x.qty) ∧ ¬ (getL m x.ast x.tag = 0 ∧ m.length = 16) ∧ m' = putR ahL m ⟨x.ast, x.tag, getL m x.ast x.tag + x.qty⟩ := by
  unfold putLR at h
  split at h
  · rename_i hc; injection h with h1; exact absurd h1 hc
  · rename_i hc
    have hc : chkL m x = 0 := by simpa using hc
    split at h
    · injection h with h1; cases h1
    · rename_i h64
      split at h
      · injection h with h1; cases h1
      · rename_i hl
        injection h with h1 h2
        exact ⟨(chkL_ok hc).1, (chkL_ok hc).2, by simpa using h64, hl, h2.symm⟩
theorem put_can {m : List Lt} {x : Lt} (h1 : isLs m = true) (h2 : okL x = true) (h3 : In64 (getL m x.ast x.tag + x.qty)) (h4 : ¬ (getL m x.ast x.tag = 0 ∧ m.length = 16)) : putLR m x = (0, putR ahL m ⟨x.ast, x.tag, getL m x.ast x.tag + x.qty⟩) := by
  have hc : chkL m x = 0 := by unfold chkL; rw [if_neg (by rw [h1]; simp), if_neg (by rw [h2]; simp)]
  unfold putLR
  rw [if_neg (by rw [hc]; simp), if_neg (by simpa using h3), if_neg h4]
theorem get_has {m : List Lt} (h : isLs m = true) {a t : Int} (hg : getL m a t ≠ 0) : ∃ y ∈ m, sameL a t y = true := by
  obtain ⟨h1, h2, h3⟩ := (isLs_iff m).1 h
  rw [getL_tot h3] at hg
  exact totL_has (isLs_pos h) (by have := totL_nn (isLs_pos h) a t; omega)
theorem okL_qty {x : Lt} (h : okL x = true) {q : Int} (hq : 0 < q) : okL ⟨x.ast, x.tag, q⟩ = true := by
  unfold okL at h ⊢
  simp only [Bool.and_eq_true, decide_eq_true_eq] at h ⊢
  exact ⟨h.1, hq⟩
theorem put_is {m m' : List Lt} {x : Lt} (h : putLR m x = (0, m')) : isLs m' = true ∧ (∀ a t, totL m' a t = totL m a t + if sameL a t x = true then x.qty else 0) ∧ (∀ i, qsum m' i = qsum m i + if x.ast = i then x.qty else 0) ∧ ((∀ y ∈ m, In64 y.qty) → ∀ y ∈ m', In64 y.qty) := by
  obtain ⟨h1, h2, h3, h4, rfl⟩ := put_ok h
  obtain ⟨m1, m2, m3⟩ := (isLs_iff m).1 h1
  have hp := okL_pos h2
  have hg := getL_nn h1 x.ast x.tag
  refine ⟨(isLs_iff _).2 ⟨fun y hy => ?_, ?_, pairwise_putR ordL _ _ m3⟩, fun a t => ?_, fun i => qsum_put m3 _ _ _ _, fun h6 y hy => ?_⟩
  · rcases mem_putR _ _ _ hy with rfl | hy
    · exact okL_qty h2 (by omega)
    · exact m1 y hy
  · by_cases hz : getL m x.ast x.tag = 0
    · have := length_putR (ah := ahL) ⟨x.ast, x.tag, getL m x.ast x.tag + x.qty⟩ m
      omega
    · rw [len_put_has m3 ⟨x.ast, x.tag, getL m x.ast x.tag + x.qty⟩ (get_has h1 hz)]; exact m2
  · rw [totL_put m3]
    have e : sameL a t ⟨x.ast, x.tag, getL m x.ast x.tag + x.qty⟩ = sameL a t x := rfl
    rw [e]
    split
    · rename_i hs
      obtain ⟨rfl, rfl⟩ := key_of hs
      rw [getL_tot m3]
    · omega
  · rcases mem_putR _ _ _ hy with rfl | hy
    · exact h3
    · exact h6 y hy
end Go.Proofs.Ytldnponbkhgijaa
end
section
namespace Go.Proofs.Ytldnponbkhgijaa
open Go.ChangeShapes Go.WideShapes Go.ChangeAt Go.RowKit
set_option linter.unusedVariables false
set_option linter.unusedSimpArgs false

def ahH (x y : Hc) : Bool := keyLt x.ac x.cl y.ac y.cl
theorem ordH : Ord ahH := ord_key Hc.ac Hc.cl
theorem ahH_iff (x y : Hc) : ahH x y = true ↔ x.ac < y.ac ∨ x.ac = y.ac ∧ x.cl < y.cl := keyLt_iff _ _ _ _
def ahHd (x y : Hd) : Bool := keyLt x.ac x.cl y.ac y.cl
def unH (a c : Int) (x : Hc) : Bool := x.ac == a && x.cl == c
def unHd (a c : Int) (x : Hd) : Bool := x.ac == a && x.cl == c
theorem unH_iff (a c : Int) (x : Hc) : unH a c x = true ↔ x.ac = a ∧ x.cl = c := by simp [unH]
theorem unH_no (a c : Int) (x : Hc) : unH a c x = false ↔ ¬ (x.ac = a ∧ x.cl = c) := by rw [← unH_iff]; simp
theorem ah_is {w : World} (g : Hd) (c : Hc) (g' : Hd) (c' : Hc) (h : HdIs w g c) (h' : HdIs w g' c') : ahHd g g' = ahH c c' := by
  unfold ahHd ahH; rw [h.ac, h.cl, h'.ac, h'.cl]
theorem un_is {w : World} (a k : Int) (g : Hd) (c : Hc) (h : HdIs w g c) : unHd a k g = unH a k c := by
  unfold unHd unH; rw [h.ac, h.cl]
def okH (x : Hc) : Bool := !(x.L.length == 0) && isLs x.L
def isH (cs : List Hc) : Bool := cs.all okH && risingL ahH cs
def lotsH (cs : List Hc) (a c : Int) : List Lt := ((cs.find? (unH a c)).map Hc.L).getD []
def sumsH (cs : List Hc) (t : Int) : List Int := cs.map fun g => (qsL g.L t).sum
def withH (cs : List Hc) (a c : Int) (L : List Lt) : List Hc := if L = [] then cs.filter (fun g => !unH a c g) else putR ahH cs ⟨a, c, L⟩
def setHR (cs : List Hc) (a c : Int) (L : List Lt) : Int × List Hc := if isH cs = false ∨ isLs L = false then (3, []) else (0, withH cs a c L)
def chgHR (how : List Lt → Int × List Lt) (cs : List Hc) (a c : Int) : Int × List Hc :=
  if isH cs = false then (3, []) else if (how (lotsH cs a c)).1 ≠ 0 then ((how (lotsH cs a c)).1, []) else (0, withH cs a c (how (lotsH cs a c)).2)
def moveHR (cs : List Hc) (fa fc ta tc : Int) : Int × List Hc :=
  if isH cs = false then (3, []) else if fa = ta ∧ fc = tc then (24, []) else if lotsH cs ta tc ≠ [] then (21, [])
  else (0, withH (withH cs fa fc []) ta tc (lotsH cs fa fc))
noncomputable def passHR (cs : List Hc) (fa fc ta tc : Int) (x : Lt) (tag : Int) : Int × List Hc :=
  if isH cs = false then (3, []) else if fa = ta ∧ fc = tc then (24, []) else
  if (chgHR (fun l => takeLR l x) cs fa fc).1 ≠ 0 then ((chgHR (fun l => takeLR l x) cs fa fc).1, [])
  else chgHR (fun l => putLR l ⟨x.ast, tag, x.qty⟩) (chgHR (fun l => takeLR l x) cs fa fc).2 ta tc
def CapH (A : Option Addr) (n cap : Nat) : Prop := (A = none ∧ n = 0 ∧ cap = 0) ∨ (∃ b, A = some ⟨b, 0, none⟩ ∧ n ≤ cap ∧ cap ≤ maxLen)
theorem CapH.of_own {w : World} {B e s n c : Nat} {A : Option Addr} {xs : List Value} (h : w.ownsRow B e s (.slice A n c) n xs) : CapH A n c := by
  rcases h.2 with ⟨hv, h0⟩ | ⟨g, cap, cur, hv, hg, hh, hnc, hcm, _⟩
  · injection hv with e1 e2 e3; exact .inl ⟨e1, h0, e3⟩
  · injection hv with e1 e2 e3; subst e3; exact .inr ⟨g, e1, hnc, hcm⟩
def HRow (w' : World) (e : Ending) (R : List Hc) : Prop :=
  ∃ (l : List Hd) (A' : Option Addr) (c' : Nat), e = .returned (.slice A' l.length c') ∧ Sl w' A' (rc Hd.cells l) ∧ HdTab w' l R ∧ CapH A' l.length c'
def HRes (w' : World) (e : Ending) (R : Int × List Hc) : Prop :=
  ∃ (l : List Hd) (A' : Option Addr) (c' : Nat), e = .returned (.tuple #[.slice A' l.length c', .int .i64 R.1]) ∧ Sl w' A' (rc Hd.cells l) ∧ HdTab w' l R.2 ∧ CapH A' l.length c'
theorem HRes.nil (w' : World) (n : Int) : HRes w' (.returned (.tuple #[.slice none 0 0, .int .i64 n])) (n, []) := ⟨[], none, 0, rfl, Sl.nil, HdTab.nil _, .inl ⟨rfl, rfl, rfl⟩⟩
abbrev SoH (cs : List Hc) : Prop := cs.Pairwise (fun a b => ahH a b = true)
theorem isH_iff (cs : List Hc) : isH cs = true ↔ (∀ x ∈ cs, okH x = true) ∧ SoH cs := by
  unfold isH
  rw [Bool.and_eq_true, List.all_eq_true, rising_pairwise ordH]
theorem isH_sorted {cs : List Hc} (h : isH cs = true) : SoH cs := ((isH_iff cs).1 h).2
theorem isH_bad {cs : List Hc} {k : Nat} (h : k < cs.length) (hb : okH cs[k] = false) : isH cs = false := by
  rw [← Bool.not_eq_true]
  intro hi
  have := ((isH_iff cs).1 hi).1 _ (List.getElem_mem h)
  rw [hb] at this; cases this
theorem isH_end {cs : List Hc} (h1 : ∀ j, (hj : j < cs.length) → okH cs[j] = true) : isH cs = risingL ahH cs := by
  have : cs.all okH = true := by
    rw [List.all_eq_true]
    intro x hx
    obtain ⟨j, hj, rfl⟩ := List.getElem_of_mem hx
    exact h1 j hj
  unfold isH
  rw [this, Bool.true_and]
theorem okH_iff (x : Hc) : okH x = true ↔ x.L ≠ [] ∧ isLs x.L = true := by
  unfold okH
  simp
theorem okH_zero {x : Hc} (h : x.L.length = 0) : okH x = false := by
  unfold okH; rw [h]; rfl
theorem okH_some {x : Hc} (h : x.L.length ≠ 0) : okH x = isLs x.L := by
  have : (x.L.length == 0) = false := by simpa using h
  unfold okH; rw [this]; rfl
theorem mem_putH {cs : List Hc} (h : SoH cs) (a c : Int) (L : List Lt) (y : Hc) : y ∈ putR ahH cs ⟨a, c, L⟩ ↔ y = ⟨a, c, L⟩ ∨ (y ∈ cs ∧ unH a c y = false) := by
  induction cs with
  | nil => simp [putR]
  | cons b r ih =>
    have ih := ih h.of_cons
    have hb : ∀ z ∈ r, ahH b z = true := (List.pairwise_cons.1 h).1
    unfold putR
    split
    · rename_i h1
      have hn : unH a c b = false := by rw [unH_no]; rw [ahH_iff] at h1; simp only at h1; omega
      rw [List.mem_cons, List.mem_cons, ih]
      constructor
      · rintro (rfl | h | h)
        · exact .inr ⟨.inl rfl, hn⟩
        · exact .inl h
        · exact .inr ⟨.inr h.1, h.2⟩
      · rintro (h | ⟨h | h, h2⟩)
        · exact .inr (.inl h)
        · exact .inl h
        · exact .inr (.inr ⟨h, h2⟩)
    · rename_i h1
      split
      · rename_i h2
        have hall : ∀ z ∈ b :: r, unH a c z = false := by
          intro z hz
          have hxz : ahH ⟨a, c, L⟩ z = true := by
            rcases List.mem_cons.1 hz with rfl | hz
            · exact h2
            · exact ordH.tr _ _ _ h2 (hb z hz)
          rw [unH_no]; rw [ahH_iff] at hxz; simp only at hxz; omega
        rw [List.mem_cons]
        exact ⟨fun h => h.imp id fun h => ⟨h, hall y h⟩, fun h => h.imp id fun h => h.1⟩
      · rename_i h2
        rw [ahH_iff] at h1 h2
        simp only at h1 h2
        have hbu : unH a c b = true := by rw [unH_iff]; omega
        have hr : ∀ z ∈ r, unH a c z = false := by
          intro z hz
          have := hb z hz
          rw [unH_no]; rw [unH_iff] at hbu; rw [ahH_iff] at this; omega
        rw [List.mem_cons, List.mem_cons]
        constructor
        · rintro (h | h)
          · exact .inl h
          · exact .inr ⟨.inr h, hr y h⟩
        · rintro (h | ⟨rfl | h, h3⟩)
          · exact .inl h
          · rw [hbu] at h3; cases h3
          · exact .inr h
theorem mem_with {cs : List Hc} (h : SoH cs) (a c : Int) (L : List Lt) (y : Hc) : y ∈ withH cs a c L ↔ (L ≠ [] ∧ y = ⟨a, c, L⟩) ∨ (y ∈ cs ∧ unH a c y = false) := by
  unfold withH
  split
  · rename_i hL
    rw [List.mem_filter]
    simp [hL]
  · rename_i hL
    rw [mem_putH h]
    simp [hL]
theorem with_sorted {cs : List Hc} (h : SoH cs) (a c : Int) (L : List Lt) : SoH (withH cs a c L) := by
  unfold withH
  split
  · exact h.filter _
  · exact pairwise_putR ordH _ _ h
theorem with_is {cs : List Hc} {L : List Lt} (h : isH cs = true) (hL : isLs L = true) (a c : Int) : isH (withH cs a c L) = true := by
  obtain ⟨h1, h2⟩ := (isH_iff cs).1 h
  refine (isH_iff _).2 ⟨fun x hx => ?_, with_sorted h2 a c L⟩
  rcases (mem_with h2 a c L x).1 hx with ⟨h3, rfl⟩ | ⟨h3, _⟩
  · exact (okH_iff _).2 ⟨h3, hL⟩
  · exact h1 x h3
theorem key_one {cs : List Hc} (h : SoH cs) {x y : Hc} (hx : x ∈ cs) (hy : y ∈ cs) (h1 : x.ac = y.ac) (h2 : x.cl = y.cl) : x = y := by
  induction cs with
  | nil => cases hx
  | cons b r ih =>
    have hb : ∀ z ∈ r, ahH b z = true := (List.pairwise_cons.1 h).1
    rcases List.mem_cons.1 hx with e1 | hx' <;> rcases List.mem_cons.1 hy with e2 | hy'
    · rw [e1, e2]
    · have := hb y hy'; rw [ahH_iff] at this; subst e1; omega
    · have := hb x hx'; rw [ahH_iff] at this; subst e2; omega
    · exact ih h.of_cons hx' hy'
theorem lots_mem {cs : List Hc} (h : SoH cs) {x : Hc} (hx : x ∈ cs) : lotsH cs x.ac x.cl = x.L := by
  unfold lotsH
  cases hf : cs.find? (unH x.ac x.cl) with
  | none => have := List.find?_eq_none.1 hf x hx; rw [(unH_iff _ _ _).2 ⟨rfl, rfl⟩] at this; exact absurd rfl this
  | some y =>
    obtain ⟨h1, h2⟩ := (unH_iff _ _ _).1 (List.find?_some hf)
    rw [key_one h hx (List.mem_of_find?_eq_some hf) h1.symm h2.symm]; rfl
theorem lots_cases (cs : List Hc) (a c : Int) : (lotsH cs a c = [] ∧ ∀ x ∈ cs, unH a c x = false) ∨ (∃ x ∈ cs, x.ac = a ∧ x.cl = c ∧ lotsH cs a c = x.L) := by
  unfold lotsH
  cases hf : cs.find? (unH a c) with
  | none => exact .inl ⟨rfl, fun x hx => by simpa using List.find?_eq_none.1 hf x hx⟩
  | some y =>
    obtain ⟨h1, h2⟩ := (unH_iff _ _ _).1 (List.find?_some hf)
    exact .inr ⟨y, List.mem_of_find?_eq_some hf, h1, h2, rfl⟩
theorem isLs_nil : isLs [] = true := rfl
theorem lots_is {cs : List Hc} (h : isH cs = true) (a c : Int) : isLs (lotsH cs a c) = true := by
  rcases lots_cases cs a c with ⟨e, _⟩ | ⟨x, hx, _, _, e⟩
  · rw [e]; exact isLs_nil
  · rw [e]; exact ((okH_iff x).1 (((isH_iff cs).1 h).1 x hx)).2
theorem lots_in6 {cs : List Hc} (h : ∀ g ∈ cs, ∀ y ∈ g.L, In64 y.qty) (a c : Int) : ∀ y ∈ lotsH cs a c, In64 y.qty := by
  rcases lots_cases cs a c with ⟨e, _⟩ | ⟨x, hx, _, _, e⟩
  · rw [e]; intro y hy; cases hy
  · rw [e]; exact h x hx
theorem lotsH_len {cs : List Hc} {n : Nat} (h : ∀ g ∈ cs, g.L.length ≤ n) (a c : Int) : (lotsH cs a c).length ≤ n := by
  rcases lots_cases cs a c with ⟨e, _⟩ | ⟨x, hx, _, _, e⟩
  · rw [e]; simp
  · rw [e]; exact h x hx
theorem with_in6 {cs : List Hc} {L : List Lt} (hs : SoH cs) (h : ∀ g ∈ cs, ∀ y ∈ g.L, In64 y.qty) (hL : ∀ y ∈ L, In64 y.qty) (a c : Int) : ∀ g ∈ withH cs a c L, ∀ y ∈ g.L, In64 y.qty := by
  intro g hg
  rcases (mem_with hs a c L g).1 hg with ⟨_, rfl⟩ | ⟨h3, _⟩
  · exact hL
  · exact h g h3
theorem with_len {cs : List Hc} (a c : Int) (L : List Lt) : (withH cs a c L).length ≤ cs.length + 1 := by
  unfold withH
  split
  · exact Nat.le_succ_of_le (List.length_filter_le _ _)
  · exact length_putR _ _
theorem with_swap {cs : List Hc} (h : SoH cs) {fa fc ta tc : Int} (hne : ¬ (fa = ta ∧ fc = tc)) (L : List Lt) : withH (withH cs ta tc L) fa fc [] = withH (withH cs fa fc []) ta tc L := by
  have s1 := with_sorted h ta tc L
  have s2 := with_sorted h fa fc []
  refine sorted_ext ordH _ _ (with_sorted s1 _ _ _) (with_sorted s2 _ _ _) fun x => ?_
  rw [mem_with s1, mem_with s2, mem_with h, mem_with h]
  have hk : x = ⟨ta, tc, L⟩ → unH fa fc x = false := by rintro rfl; rw [unH_no]; exact fun h => hne ⟨h.1.symm, h.2.symm⟩
  constructor
  · rintro (⟨h1, _⟩ | ⟨h1 | h1, h2⟩)
    · exact absurd rfl h1
    · exact .inl h1
    · exact .inr ⟨.inr ⟨h1.1, h2⟩, h1.2⟩
  · rintro (h1 | ⟨⟨h1, _⟩ | h1, h2⟩)
    · exact .inr ⟨.inl h1, hk h1.2⟩
    · exact absurd rfl h1
    · exact .inr ⟨.inr ⟨h1.1, h2⟩, h1.2⟩
theorem take_is {l m : List Lt} {x : Lt} (h : takeLR l x = (0, m)) : isLs m = true ∧ ((∀ y ∈ l, In64 y.qty) → ∀ y ∈ m, In64 y.qty) := by
  unfold takeLR at h
  split at h
  · rename_i hc; injection h with h1; exact absurd h1 hc
  · rename_i hc
    have hc : chkL l x = 0 := by simpa using hc
    obtain ⟨h1, h2⟩ := chkL_ok hc
    obtain ⟨m1, m2, m3⟩ := (isLs_iff l).1 h1
    have hp := okL_pos h2
    split at h
    · injection h with h1; cases h1
    · rename_i hq
      split at h
      · injection h with _ e; subst e
        exact ⟨(isLs_iff _).2 ⟨fun y hy => m1 y (List.mem_filter.1 hy).1, Nat.le_trans (List.length_filter_le _ _) m2, m3.filter _⟩, fun h6 y hy => h6 y (List.mem_filter.1 hy).1⟩
      · rename_i hz
        injection h with _ e; subst e
        refine ⟨(isLs_iff _).2 ⟨fun y hy => ?_, ?_, pairwise_putR ordL _ _ m3⟩, fun h6 y hy => ?_⟩
        · rcases mem_putR _ _ _ hy with rfl | hy
          · exact okL_qty h2 (by omega)
          · exact m1 y hy
        · rw [len_put_has m3 ⟨x.ast, x.tag, getL l x.ast x.tag - x.qty⟩ (get_has h1 (show getL l x.ast x.tag ≠ 0 by omega))]; exact m2
        · rcases mem_putR _ _ _ hy with rfl | hy
          · have := getL_in h6 x.ast x.tag
            unfold In64 at *
            simp only
            omega
          · exact h6 y hy
theorem own_lower {w : World} {B B' e size n : Nat} {v : Value} {xs : List Value} (h : w.ownsRow B e size v n xs) (hb : B' ≤ B) : w.ownsRow B' e size v n xs := by
  obtain ⟨h0, h⟩ := h
  refine ⟨h0, ?_⟩
  rcases h with h | ⟨g, cap, cur, h1, h2, h⟩
  · exact .inl h
  · exact .inr ⟨g, cap, cur, h1, Nat.le_trans hb h2, h⟩
end Go.Proofs.Ytldnponbkhgijaa
end
section
namespace Go.Proofs.Ytldnponbkhgijaa
open Go.ChangeShapes Go.WideShapes Go.ChangeAt Go.RowKit
set_option linter.unusedVariables false
set_option linter.unusedSimpArgs false

set_option maxHeartbeats 1000000 in
set_option maxRecDepth 100000 in
theorem aless_any (ua uc va vc : Int) (w : World) : Calls Try.prog 142 #[.agg #[.int .i64 ua, .int .i64 uc], .agg #[.int .i64 va, .int .i64 vc]] w fun e w' => e = .returned (.bool (keyLt ua uc va vc)) ∧ Below w.heap.size w w' := by
  have hB := since_alloc (since_alloc (Below.refl _ w) (.cells #[.int .i64 ua, .int .i64 uc] 24)) (.cells #[.int .i64 va, .int .i64 vc] 24)
  by_cases h1 : ua < va
  · have HE : Hid (keyLt ua uc va vc = true) := Lib.hid (by simp [keyLt, h1])
    go_enter Try.func142, Try.ntmps142
    go_wp2_with fail
    go_ret
    exact ⟨retB HE.out.symm, hB⟩
  by_cases h2 : ua = va
  · subst h2
    have HE : Hid (keyLt ua uc ua vc = decide (uc < vc)) := Lib.hid (by simp [keyLt])
    go_enter Try.func142, Try.ntmps142
    go_wp2_with fail
    go_ret
    exact ⟨retB HE.out.symm, hB⟩
  · have HE : Hid (keyLt ua uc va vc = false) := Lib.hid (decide_eq_false (by omega))
    have h2b : (ua == va) = false := by simpa using h2
    clear h2
    go_enter Try.func142, Try.ntmps142
    go_wp2_with fail
    go_ret
    exact ⟨retB HE.out.symm, hB⟩
end Go.Proofs.Ytldnponbkhgijaa
end
section
namespace Go.Proofs.Ytldnponbkhgijaa
open Go.ChangeShapes Go.WideShapes Go.ChangeAt Go.RowKit
set_option linter.unusedVariables false
set_option linter.unusedSimpArgs false

set_option maxHeartbeats 1000000 in
set_option maxRecDepth 100000 in
theorem hahead_any (x y : Hd) (w : World) : Calls Try.prog 123 #[x.val, y.val] w fun e w' => e = .returned (.bool (ahHd x y)) ∧ Below w.heap.size w w' := by
  obtain ⟨ua, uc, ut, uL, uC⟩ := x
  obtain ⟨va, vc, vt, vL, vC⟩ := y
  unfold Hd.val ahHd
  simp only
  have hB := since_alloc (since_alloc (Below.refl _ w) (.cells #[.int .i64 ua, .int .i64 uc, .slice ut uL uC] 169)) (.cells #[.int .i64 va, .int .i64 vc, .slice vt vL vC] 169)
  go_enter Try.func123, Try.ntmps123
  go_wp2_with fail
  refine (aless_any ua uc va vc _).mono ?_
  rintro e w1 ⟨rfl, hb⟩
  have hB1 := since_step hB hb
  go_wp2_with fail
  go_ret
  exact ⟨rfl, hB1⟩
theorem ent_hahead : Ent Try.prog 123 := Ent.of (by kernel_rfl)
theorem tells_hahead (B : Nat) (w : World) : Hd.Tells2 123 #[] ahHd B w := fun a b W _ => hahead_any a b W
set_option maxHeartbeats 1000000 in
set_option maxRecDepth 100000 in
theorem hof1_any (x : Hd) (a c : Int) (b : Nat) (w : World) (hb : Bk w b #[.int .i64 a, .int .i64 c]) :
    Calls Try.prog 177 #[x.val, .pointer (some ⟨b, 0, none⟩)] w fun e w' => e = .returned (.bool (unHd a c x)) ∧ Below w.heap.size w w' := by
  have hlt := hb.1
  have q0 := hb.2 0
  have q1 := hb.2 1
  have hB := since_alloc (Below.refl _ w) (.cells x.cells.toArray 169)
  obtain ⟨va, vc, vt, vL, vC⟩ := x
  unfold Hd.val unHd
  unfold Hd.cells at hB
  simp at q0 q1
  clear hb
  by_cases h1 : va = a
  · subst h1
    by_cases h2 : vc = c
    · subst h2
      go_enter Try.func177, Try.ntmps177
      go_wp2_with fail
      go_ret
      exact ⟨retB (by simp), hB⟩
    · have h2b : (vc == c) = false := by simpa using h2
      go_enter Try.func177, Try.ntmps177
      go_wp2_with fail
      go_ret
      exact ⟨retB (by simp [h2]), hB⟩
  · have h1b : (va == a) = false := by simpa using h1
    go_enter Try.func177, Try.ntmps177
    go_wp2_with fail
    go_ret
    exact ⟨retB (by simp [h1]), hB⟩
theorem ent_hof1 : Ent Try.prog 177 := Ent.of (by kernel_rfl)
theorem tells_hof1 (a c : Int) (b B : Nat) (w : World) (h : Bk w b #[.int .i64 a, .int .i64 c]) (hBw : B = w.heap.size) : Hd.Tells 177 #[.pointer (some ⟨b, 0, none⟩)] (unHd a c) B w := by
  subst hBw
  exact fun g W hW => hof1_any g a c b W (h.below hW)
set_option maxHeartbeats 1000000 in
set_option maxRecDepth 100000 in
theorem hof_any (a c : Int) (w : World) :
    Calls Try.prog 126 #[.agg #[.int .i64 a, .int .i64 c]] w fun e w' => (∃ b, e = .returned (.func (.func 177) #[] #[.pointer (some ⟨b, 0, none⟩)]) ∧ Bk w' b #[.int .i64 a, .int .i64 c]) ∧ Below w.heap.size w w' := by
  have hB := since_alloc (Below.refl _ w) (.cells #[.int .i64 a, .int .i64 c] 24)
  have hV := Bk.new w #[.int .i64 a, .int .i64 c] 24
  go_enter Try.func126, Try.ntmps126
  go_wp2_with fail
  go_ret
  exact ⟨⟨_, rfl, hV⟩, hB⟩
set_option maxHeartbeats 4000000 in
set_option maxRecDepth 100000 in
theorem his_any (A : Option Addr) (cap : Nat) (l : List Hd) (cs : List Hc) (w : World) (hl : l.length ≤ 900000) (hcl : ∀ g ∈ cs, g.L.length ≤ 900000) (hs : Sl w A (rc Hd.cells l)) (ht : HdTab w l cs) :
    Calls Try.prog 59 #[.slice A l.length cap] w fun e w' => e = .returned (.bool (isH cs)) ∧ Below w.heap.size w w' := by
  have HLC := Lib.hid ht.1
  go_enter Try.func59, Try.ntmps59
  go_wp2_with fail
  go_loopw [7] (fun i wr => ∃ k : Nat, k ≤ l.length ∧ i = .int .i64 k ∧ (∀ j, (hj : j < cs.length) → j < k → okH cs[j] = true) ∧ Below w.heap.size w wr) (fun i _ => l.length - (intOf i).toNat)
  case atStart => exact ⟨0, by omega, rfl, fun j hj h => absurd h (by omega), Below.refl _ _⟩
  case round =>
    obtain ⟨k, hk, rfl, hno, hB⟩ := hrel
    by_cases hlt : k < l.length
    · have hlc : k < cs.length := HLC.out ▸ hlt
      obtain ⟨b, o, rfl, hbw, hg⟩ := (hs.below hB).hd hlt
      have hI := (ht.below hB).2 k hlt hlc
      have hm := hcl _ (List.getElem_mem hlc)
      have hlk : (k : Int) < (l.length : Int) := by omega
      have hA := since_alloc hB (.cells l[k].cells.toArray 169)
      have HNX : Hid (okH cs[k] = true → ∀ j, (hj : j < cs.length) → j < k + 1 → okH cs[j] = true) := Lib.hid (fun h j hj hjk => by
        rcases Nat.lt_or_ge j k with h' | h'
        · exact hno j hj h'
        · obtain rfl : j = k := by omega
          exact h)
      have HBD : Hid (okH cs[k] = false → isH cs = false) := Lib.hid (fun h => isH_bad hlc h)
      clear hno
      generalize l[k] = v at *
      generalize cs[k] = d at *
      obtain ⟨va, vc, vt, vL, vC⟩ := v
      obtain ⟨da, dc, dL⟩ := d
      obtain ⟨i0, i1, i2, i3⟩ := hI
      simp only at i0 i1 i2 i3 hm
      subst i0; subst i1; subst i2
      obtain ⟨g0, g1, g2⟩ := hg
      unfold Hd.cells at hA
      simp only at g0 g1 g2 hA HNX HBD
      have hsl := i3.alloc (.cells #[.int .i64 va, .int .i64 vc, .slice vt dL.length vC] 169)
      clear i3
      by_cases hq : dL.length = 0
      · have HR := Lib.hid (HBD.out (okH_zero hq))
        have hqb : (((dL.length : Nat) : Int) == 0) = true := by simpa using hq
        clear HBD HNX hq hsl
        go_wp2_with fail
        go_ret
        exact ⟨retB HR.out.symm, hA⟩
      · have hqb : (((dL.length : Nat) : Int) == 0) = false := by simpa using hq
        have HOK := Lib.hid (okH_some (x := ⟨va, vc, dL⟩) hq)
        simp only at HOK
        have HIS := Lib.hid (lis_any vt vC dL _ (by omega) hsl)
        clear hsl hq
        cases hi : isLs dL with
        | false =>
          have HR := Lib.hid (HBD.out (HOK.out.trans hi))
          clear HBD HNX HOK
          rw [hi] at HIS
          go_wp2_with fail
          refine HIS.out.mono ?_
          rintro e u1 ⟨rfl, hb1⟩
          have hB1 := since_step hA hb1
          go_wp2_with fail
          go_ret
          exact ⟨retB HR.out.symm, hB1⟩
        | true =>
          have HN := Lib.hid (HNX.out (HOK.out.trans hi))
          clear HBD HNX HOK
          rw [hi] at HIS
          go_wp2_with fail
          refine HIS.out.mono ?_
          rintro e u1 ⟨rfl, hb1⟩
          have hB1 := since_step hA hb1
          go_wp2_with fail
          go_roundw
          case rel => exact ⟨k + 1, by omega, by go_num, HN.out, hB1⟩
          case measure => simp [intOf]; omega
    · obtain rfl : k = l.length := by omega
      have HR := Lib.hid ((isH_end fun j hj => hno j hj (HLC.out ▸ hj)).trans (HdTab.rising ah_is ht).symm)
      have hs1 := hs.below hB
      clear hno
      go_wp2_with fail
      refine (rising_hd A cap l 123 #[] ahHd _ (by omega) hs1 ent_hahead (tells_hahead _ _)).mono ?_
      rintro e w1 ⟨rfl, hb1⟩
      have hB1 := since_step hB hb1
      go_wp2_with fail
      go_ret
      exact ⟨retB HR.out.symm, hB1⟩
theorem pick_hd {w : World} {l : List Hd} {cs : List Hc} (ht : HdTab w l cs) (a c : Int) : ∃ va vc vt vC, pickL (unHd a c) Hd.zero l = ⟨va, vc, vt, (lotsH cs a c).length, vC⟩ ∧ Sl w vt (rc Lt.cells (lotsH cs a c)) := by
  unfold pickL lotsH
  rcases HdTab.find (fun g d h => un_is a c g d h) ht with ⟨h1, h2⟩ | ⟨g, d, h1, h2, h3⟩
  · rw [h1, h2]
    exact ⟨0, 0, none, 0, rfl, Sl.nil⟩
  · rw [h1, h2]
    obtain ⟨va, vc, vt, vL, vC⟩ := g
    have h4 := h3.len
    simp only at h4
    subst h4
    exact ⟨va, vc, vt, vC, rfl, h3.sl⟩
set_option maxHeartbeats 2000000 in
set_option maxRecDepth 100000 in
theorem hlots_any (A : Option Addr) (cap : Nat) (l : List Hd) (cs : List Hc) (a c : Int) (w : World) (hl : l.length ≤ 900000) (hcl : ∀ g ∈ cs, g.L.length ≤ 900000) (hs : Sl w A (rc Hd.cells l)) (ht : HdTab w l cs) :
    Calls Try.prog 62 #[.slice A l.length cap, .agg #[.int .i64 a, .int .i64 c]] w fun e w' => (∃ A' c', e = .returned (.slice A' (lotsH cs a c).length c') ∧ w'.ownsRow w.heap.size 93 3 (.slice A' (lotsH cs a c).length c') (lotsH cs a c).length (rc Lt.cells (lotsH cs a c))) ∧ Below w.heap.size w w' := by
  have hlen := lotsH_len hcl a c
  obtain ⟨va, vc, vt, vC, hv, hsl⟩ := pick_hd ht a c
  generalize lotsH cs a c = L at *
  have HFD := Lib.hid (fun V b h1 h2 => (find_hd A cap l 177 #[.pointer (some ⟨b, 0, none⟩)] (unHd a c) V (by omega) h1 ent_hof1 h2))
  rw [hv] at HFD
  unfold Hd.val at HFD
  simp only at HFD
  clear hv
  have hB0 := since_alloc (Below.refl _ w) (.cells #[.int .i64 a, .int .i64 c] 24)
  have hs0 := hs.alloc (.cells #[.int .i64 a, .int .i64 c] 24)
  have hsl := hsl.alloc (.cells #[.int .i64 a, .int .i64 c] 24)
  have hws := hB0.size
  clear hs ht
  go_enter Try.func62, Try.ntmps62
  go_wp2_with fail
  refine (hof_any a c _).mono ?_
  rintro e w1 ⟨⟨b, rfl, hK⟩, hb⟩
  have hB1 := since_step hB0 hb
  have hs0 := hs0.below hb
  have hsl := hsl.below hb
  clear hb hB0
  go_wp2_with fail
  refine (HFD.out _ b hs0 (tells_hof1 a c b _ _ hK rfl)).mono ?_
  rintro e w2 ⟨rfl, hb⟩
  have hB2 := since_step hB1 hb
  have hsl := (hsl.below hb).alloc (.cells #[.int .i64 va, .int .i64 vc, .slice vt L.length vC] 169)
  have hB3 := since_alloc hB2 (.cells #[.int .i64 va, .int .i64 vc, .slice vt L.length vC] 169)
  clear hb hs0 hK HFD hB1 hB2
  go_wp2_with fail
  refine (clone_lt vt vC L _ (by omega) hsl).mono ?_
  rintro e w3 ⟨⟨A', c', rfl, ho⟩, hb⟩
  have hB4 := since_step hB3 hb
  have ho := own_lower ho hB3.size
  go_wp2_with fail
  go_ret
  exact ⟨⟨A', c', rfl, ho⟩, hB4⟩
end Go.Proofs.Ytldnponbkhgijaa
end
section
namespace Go.Proofs.Ytldnponbkhgijaa
open Go.ChangeShapes Go.WideShapes Go.ChangeAt Go.RowKit
set_option linter.unusedVariables false
set_option linter.unusedSimpArgs false

def AtOr (B : Nat) (A : Option Addr) : Prop := ∀ b o, A = some ⟨b, o, none⟩ → B ≤ b
theorem AtOr.own {w : World} {B e s n c : Nat} {A : Option Addr} {xs : List Value} (h : w.ownsRow B e s (.slice A n c) n xs) : AtOr B A := by
  intro b o hA
  rcases h.2 with ⟨hv, _⟩ | ⟨g, cap, cur, hv, hg, _⟩
  · injection hv with e1 e2 e3; rw [e1] at hA; cases hA
  · injection hv with e1 e2 e3
    rw [e1] at hA
    injection hA with hA
    injection hA with hA
    omega
theorem AtOr.nil (B : Nat) : AtOr B none := fun b o h => by cases h
theorem AtOr.mono {B C : Nat} {A : Option Addr} (h : AtOr C A) (hB : B ≤ C) : AtOr B A := fun b o e => Nat.le_trans hB (h b o e)
theorem AtOr.sl {w : World} {B : Nat} {A : Option Addr} {xs : List Value} (h : AtOr B A) (hs : Sl w A xs) {p : Addr} (hp : p.block < B) (v : Value) : Sl (w.setCell p v) A xs :=
  hs.far (fun b o e => by have := h b o e; omega) v
def FarH (l0 : List Hd) (P : Option Addr → Prop) (l : List Hd) : Prop := ∀ g ∈ l, g ∈ l0 ∨ P g.lt
theorem FarH.nil (l0 : List Hd) (P : Option Addr → Prop) : FarH l0 P [] := fun g h => by cases h
theorem FarH.imp {l0 : List Hd} {P Q : Option Addr → Prop} {l : List Hd} (h : FarH l0 P l) (hPQ : ∀ A, P A → Q A) : FarH l0 Q l := fun g hg => (h g hg).imp id (hPQ _)
theorem HdOTab.far {B : Nat} {w : World} {l : List Hd} {cs : List Hc} (h : HdOTab B w l cs) : ∀ g ∈ l, AtOr B g.lt := by
  intro g hg
  obtain ⟨i, hi, rfl⟩ := List.getElem_of_mem hg
  exact AtOr.own (h.2 i hi (h.1 ▸ hi)).own
theorem HdTab.set1 {w0 w : World} {l0 l : List Hd} {cs R : List Hc} {B : Nat} (h0 : HdTab w0 l0 cs) (h : HdTab w l R) (hf : FarH l0 (AtOr B) l) {p : Addr} (h1 : w0.heap.size ≤ p.block) (h2 : p.block < B) (v : Value) : HdTab (w.setCell p v) l R := by
  refine ⟨h.1, fun i hi hi2 => ?_⟩
  obtain ⟨e1, e2, e3, e4⟩ := h.2 i hi hi2
  refine ⟨e1, e2, e3, ?_⟩
  rcases hf _ (List.getElem_mem hi) with hm | hm
  · obtain ⟨j, hj, e⟩ := List.getElem_of_mem hm
    have hjc : j < cs.length := h0.1 ▸ hj
    have hg := h0.2 j hj hjc
    rw [e] at hg
    by_cases hz : cs[j].L = []
    · have : R[i].L.length = 0 := by rw [← e3, hg.len, hz]; rfl
      rw [List.length_eq_zero_iff.1 this]
      exact Sl.nil
    · refine e4.far (fun b o hA hb => ?_) v
      have hne : 0 < (rc Lt.cells cs[j].L).length := by
        have := List.length_pos_iff.2 hz
        rw [rc_length Lt.len]
        omega
      obtain ⟨b', o', hA', hc⟩ := hg.sl.at_ (j := 0) hne
      rw [hA] at hA'
      injection hA' with hA'
      injection hA' with hb'
      have := World.block_lt_of_cell? _ _ hc
      simp only at this
      omega
  · exact hm.sl e4 h2 v
def HRowN (l0 : List Hd) (P : Option Addr → Prop) (B : Nat) (w' : World) (e : Ending) (R : List Hc) : Prop :=
  ∃ (l : List Hd) (A' : Option Addr) (c' : Nat), e = .returned (.slice A' l.length c') ∧ Sl w' A' (rc Hd.cells l) ∧ HdTab w' l R ∧ CapH A' l.length c' ∧ AtOr B A' ∧ FarH l0 P l
def HResN (l0 : List Hd) (P : Option Addr → Prop) (B : Nat) (w' : World) (e : Ending) (R : Int × List Hc) : Prop :=
  ∃ (l : List Hd) (A' : Option Addr) (c' : Nat), e = .returned (.tuple #[.slice A' l.length c', .int .i64 R.1]) ∧ Sl w' A' (rc Hd.cells l) ∧ HdTab w' l R.2 ∧ CapH A' l.length c' ∧ AtOr B A' ∧ FarH l0 P l
theorem HRowN.row {l0 : List Hd} {P : Option Addr → Prop} {B : Nat} {w' : World} {e : Ending} {R : List Hc} (h : HRowN l0 P B w' e R) : HRow w' e R := by
  obtain ⟨l, A, c, h1, h2, h3, h4, _⟩ := h
  exact ⟨l, A, c, h1, h2, h3, h4⟩
theorem HResN.res {l0 : List Hd} {P : Option Addr → Prop} {B : Nat} {w' : World} {e : Ending} {R : Int × List Hc} (h : HResN l0 P B w' e R) : HRes w' e R := by
  obtain ⟨l, A, c, h1, h2, h3, h4, _⟩ := h
  exact ⟨l, A, c, h1, h2, h3, h4⟩
theorem HResN.nil (l0 : List Hd) (P : Option Addr → Prop) (B : Nat) (w' : World) (n : Int) : HResN l0 P B w' (.returned (.tuple #[.slice none 0 0, .int .i64 n])) (n, []) := ⟨[], none, 0, rfl, Sl.nil, HdTab.nil _, .inl ⟨rfl, rfl, rfl⟩, AtOr.nil _, FarH.nil _ _⟩
end Go.Proofs.Ytldnponbkhgijaa
end
section
namespace Go.Proofs.Ytldnponbkhgijaa
open Go.ChangeShapes Go.WideShapes Go.ChangeAt Go.RowKit
set_option linter.unusedVariables false
set_option linter.unusedSimpArgs false

theorem setHR_no {cs : List Hc} {a c : Int} {L : List Lt} (h : isH cs = false ∨ isLs L = false) : setHR cs a c L = (3, []) := if_pos h
theorem setHR_ok {cs : List Hc} {a c : Int} {L : List Lt} (h : isH cs = true) (h2 : isLs L = true) : setHR cs a c L = (0, withH cs a c L) := by
  unfold setHR; rw [if_neg]; simp [h, h2]
theorem mem_putL_far {ah : Hd → Hd → Bool} {B : Nat} {x : Hd} {l : List Hd} (h : ∀ g ∈ l, AtOr B g.lt) (hx : AtOr B x.lt) : ∀ g ∈ putL ah l x, AtOr B g.lt := by
  intro g hg
  rw [putL_eq] at hg
  rcases mem_putR _ _ _ hg with rfl | hg
  · exact hx
  · exact h g hg
theorem withH_nil (cs : List Hc) (a c : Int) : withH cs a c [] = cs.filter (fun g => !unH a c g) := if_pos rfl
theorem withH_some (cs : List Hc) (a c : Int) {L : List Lt} (h : L ≠ []) : withH cs a c L = putR ahH cs ⟨a, c, L⟩ := if_neg h
set_option maxHeartbeats 4000000 in
set_option maxRecDepth 100000 in
theorem hset_anyN (A : Option Addr) (cap : Nat) (l : List Hd) (cs : List Hc) (a c : Int) (LA : Option Addr) (LC : Nat) (L : List Lt) (w : World) (hl : l.length ≤ 900000) (hcl : ∀ g ∈ cs, g.L.length ≤ 900000) (hLl : L.length ≤ 900000) (hs : Sl w A (rc Hd.cells l)) (ht : HdTab w l cs) (hLs : Sl w LA (rc Lt.cells L)) :
    Calls Try.prog 69 #[.slice A l.length cap, .agg #[.int .i64 a, .int .i64 c], .slice LA L.length LC] w fun e w' => HResN l (AtOr w.heap.size) w.heap.size w' e (setHR cs a c L) ∧ Below w.heap.size w w' := by
  have hB0 := since_alloc (Below.refl _ w) (.cells #[.int .i64 a, .int .i64 c] 24)
  have hK := Bk.new w #[.int .i64 a, .int .i64 c] 24
  have HLL : Hid (cs.length ≤ 1000000) := Lib.hid (by have := ht.1; omega)
  have HIS := Lib.hid (his_any A cap l cs _ hl hcl (hs.alloc (.cells #[.int .i64 a, .int .i64 c] 24)) (ht.below hB0))
  have HSL : Hid (∀ V, Below w.heap.size w V → Sl V A (rc Hd.cells l)) := Lib.hid fun V hV => hs.below hV
  have HTB : Hid (∀ V, Below w.heap.size w V → HdTab V l cs) := Lib.hid fun V hV => ht.below hV
  have HLS : Hid (∀ V, Below w.heap.size w V → Sl V LA (rc Lt.cells L)) := Lib.hid fun V hV => hLs.below hV
  have HLI := Lib.hid (fun V h => lis_any LA LC L V (by omega) h)
  have HD := Lib.hid (fun V h1 h2 => dups_hd A cap l cs V hl hcl h1 h2)
  have HD1 := Lib.hid (fun V h => dup1_hd a c LA LC L V hLl h)
  have HDR := Lib.hid (fun A1 c1 l1 b V hl1 h1 (h2 : Bk V b #[.int .i64 a, .int .i64 c]) => drop_hd A1 c1 l1 177 #[.pointer (some ⟨b, 0, none⟩)] (unHd a c) V hl1 h1 ent_hof1 (tells_hof1 a c b _ _ h2 rfl))
  have HPU := Lib.hid (fun A1 c1 l1 A2 c2 V hl1 h1 => put_hd A1 c1 l1 ⟨a, c, A2, L.length, c2⟩ 123 #[] ahHd V hl1 h1 ent_hahead (tells_hahead _ _))
  unfold Hd.val at HPU
  simp only at HPU
  clear hs ht hLs
  cases hi : isH cs with
  | false =>
    have HR := Lib.hid (setHR_no (a := a) (c := c) (L := L) (.inl hi))
    rw [hi] at HIS
    clear hi
    go_enter Try.func69, Try.ntmps69
    go_wp2_with fail
    refine HIS.out.mono ?_
    rintro e w1 ⟨rfl, hb⟩
    have hB1 := since_step hB0 hb
    go_wp2_with fail
    go_ret2
    rw [HR.out]
    exact ⟨HResN.nil _ _ _ _ _, hB1⟩
  | true =>
    rw [hi] at HIS
    cases hj : isLs L with
    | false =>
      have HR := Lib.hid (setHR_no (a := a) (c := c) (cs := cs) (.inr hj))
      rw [hj] at HLI
      clear hi hj
      go_enter Try.func69, Try.ntmps69
      go_wp2_with fail
      refine HIS.out.mono ?_
      rintro e w1 ⟨rfl, hb⟩
      have hB1 := since_step hB0 hb
      go_wp2_with fail
      refine (HLI.out _ (HLS.out _ hB1)).mono ?_
      rintro e w2 ⟨rfl, hb⟩
      have hB1 := since_step hB1 hb
      go_wp2_with fail
      go_ret2
      rw [HR.out]
      exact ⟨HResN.nil _ _ _ _ _, hB1⟩
    | true =>
      have hR := setHR_ok (a := a) (c := c) hi hj
      rw [hj] at HLI
      clear hi hj
      cases L with
      | nil =>
        rw [withH_nil] at hR
        have HR := Lib.hid hR
        clear hR
        simp only [List.length_nil] at HLI ⊢
        go_enter Try.func69, Try.ntmps69
        go_wp2_with fail
        refine HIS.out.mono ?_
        rintro e w1 ⟨rfl, hb⟩
        have hB := since_step hB0 hb
        have hK := hK.below hb
        go_wp2_with fail
        refine (HLI.out _ (HLS.out _ hB)).mono ?_
        rintro e w2 ⟨rfl, hb⟩
        have hB := since_step hB hb
        have hK := hK.below hb
        have HK : Hid (∀ V, Below w2.heap.size w2 V → Bk V w.heap.size #[.int .i64 a, .int .i64 c]) := Lib.hid fun V hV => hK.below hV
        clear hb
        go_wp2_with fail
        refine wp_region_held_drew (S := (fun V => Below w.heap.size w V ∧ Below w2.heap.size w2 V)) (by kernel_rfl) (by exact ⟨hB.drew, (Below.refl _ _).drew⟩) (fun hHeld => ?_)
        refine wpAnyH_take (i := 0) (oi := { dst := some 19, op := _, type := _, pos := _, after := _, guard := _ }) (v := ?_) rfl (by kernel_rfl) (by kernel_rfl) (by kernel_rfl) (fun _ _ _ h => h) (Or.inl ⟨by rfl, ?_⟩) hHeld ?_
        rotate_left
        · (intro w hSw; have ck := (HK.out _ (hSw).2).2; have k0 := ck 0; have k1 := ck 1; simp at k0 k1; clear ck; go_simp <;> with_reducible rfl)
        try simp only [Act.put, List.setIfInBounds_toArray, List.set_cons_zero, List.set_cons_succ]
        refine wpAnyH_take (i := 2) (oi := { dst := some 21, op := _, type := _, pos := _, after := _, guard := _ }) (v := ?_) rfl (by kernel_rfl) (by kernel_rfl) (by kernel_rfl) (fun _ _ _ h => h) (Or.inl ⟨by rfl, ?_⟩) hHeld ?_
        rotate_left
        · (intro w hSw; have ck := (HK.out _ (hSw).2).2; have k0 := ck 0; have k1 := ck 1; simp at k0 k1; clear ck; go_simp <;> with_reducible rfl)
        try simp only [Act.put, List.setIfInBounds_toArray, List.set_cons_zero, List.set_cons_succ]
        refine wpAnyH_ready (rs := [1]) (by kernel_rfl) (by simp) ?_
        refine AllReadyH.cons (o := { dst := some 20, op := _, type := _, pos := _, after := _, guard := _ }) rfl (fun K hK => ?_) AllReadyH.nil
        go_simp
        refine (HD.out _ (HSL.out _ hHeld.1) (HTB.out _ hHeld.1)).mono ?_
        rintro e u1 ⟨⟨l1, A1, c1, rfl, ho1, hot1⟩, hk1⟩
        have hKeep := And.intro (since_step hHeld.1 hk1) (since_step hHeld.2 hk1)
        have hs1 := Sl.of_own ho1
        have ht1 := hot1.tab
        have hf1 : ∀ g ∈ l1, AtOr w.heap.size g.lt := fun g hg => (hot1.far g hg).mono hHeld.1.size
        have hl1 : l1.length ≤ 1000000 := by rw [ht1.1]; exact HLL.out
        clear ho1 hot1
        go_wp2_with fail
        refine hK.out _ _ (by (try dsimp only); exact hKeep) (fun hHeld => ?_)
        clear hK K hKeep
        try simp only [Act.put, List.setIfInBounds_toArray, List.set_cons_zero, List.set_cons_succ]
        refine wpAnyH_ready (rs := [3]) (by kernel_rfl) (by simp) ?_
        refine AllReadyH.cons (o := { dst := some 22, op := _, type := _, pos := _, after := _, guard := _ }) rfl (fun K hK => ?_) AllReadyH.nil
        go_simp
        refine (hof_any a c _).mono ?_
        rintro e u2 ⟨⟨b2, rfl, hK2⟩, hk2⟩
        have hKeep := And.intro (since_step hHeld.1 hk2) (since_step hHeld.2 hk2)
        have hs1 := hs1.below hk2
        have ht1 := ht1.below hk2
        go_wp2_with fail
        refine hK.out _ _ (by (try dsimp only); exact hKeep) (fun hHeld => ?_)
        clear hK K hKeep
        try simp only [Act.put, List.setIfInBounds_toArray, List.set_cons_zero, List.set_cons_succ]
        refine wpAnyH_ready (rs := [4]) (by kernel_rfl) (by simp) ?_
        refine AllReadyH.cons (o := { dst := some 23, op := _, type := _, pos := _, after := _, guard := _ }) rfl (fun K hK => ?_) AllReadyH.nil
        go_simp
        refine (HDR.out A1 c1 l1 b2 _ hl1 hs1 hK2).mono ?_
        rintro e u3 ⟨⟨A3, c3, rfl, ho3⟩, hk3⟩
        have HZ := Lib.hid hHeld.1.size
        have hKeep := And.intro (since_step hHeld.1 hk3) (since_step hHeld.2 hk3)
        have ht1 := ht1.below hk3
        go_wp2_with fail
        refine hK.out _ _ (by (try dsimp only); exact hKeep) (fun hHeld => ?_)
        clear hK K hKeep
        try simp only [Act.put, List.setIfInBounds_toArray, List.set_cons_zero, List.set_cons_succ]
        refine wpAnyH_take (i := 5) (oi := { dst := some 6, op := _, type := _, pos := _, after := _, guard := _ }) (v := ?_) rfl (by kernel_rfl) (by kernel_rfl) (by kernel_rfl) (fun _ _ _ h => h) (Or.inl ⟨by rfl, ?_⟩) hHeld ?_
        rotate_left
        · (intro w hSw; have ck := (HK.out _ (hSw).2).2; have k0 := ck 0; have k1 := ck 1; simp at k0 k1; clear ck; go_simp <;> with_reducible rfl)
        try simp only [Act.put, List.setIfInBounds_toArray, List.set_cons_zero, List.set_cons_succ]
        refine wpAnyH_take (i := 6) (oi := { dst := some 7, op := _, type := _, pos := _, after := _, guard := _ }) (v := ?_) rfl (by kernel_rfl) (by kernel_rfl) (by kernel_rfl) (fun _ _ _ h => h) (Or.inl ⟨by rfl, ?_⟩) hHeld ?_
        rotate_left
        · (intro w hSw; have ck := (HK.out _ (hSw).2).2; have k0 := ck 0; have k1 := ck 1; simp at k0 k1; clear ck; go_simp <;> with_reducible rfl)
        try simp only [Act.put, List.setIfInBounds_toArray, List.set_cons_zero, List.set_cons_succ]
        refine wpAnyH_done (by kernel_rfl) ?_ _
        have hBz := hHeld.1
        have hcap := CapH.of_own ho3
        have hat := (AtOr.own ho3).mono HZ.out
        have hsz := Sl.of_own ho3
        have htz := HdTab.filter (p := fun g => !unHd a c g) (q := fun g => !unH a c g) (fun g d h => by rw [un_is a c g d h]) ht1
        go_wp2_with fail
        go_ret2
        rw [HR.out]
        exact ⟨⟨_, A3, c3, rfl, hsz, htz, hcap, hat, fun g hg => .inr (hf1 g (List.mem_filter.1 hg).1)⟩, hBz⟩
      | cons x r =>
        rw [withH_some _ _ _ (by simp)] at hR
        have HR := Lib.hid hR
        have hpos : (0 : Int) < (((x :: r).length : Nat) : Int) := by simp only [List.length_cons]; omega
        have hqb : ((((x :: r).length : Nat) : Int) == 0) = false := by simp only [List.length_cons]; simp; omega
        clear hR
        go_enter Try.func69, Try.ntmps69
        go_wp2_with fail
        refine HIS.out.mono ?_
        rintro e w1 ⟨rfl, hb⟩
        have hB := since_step hB0 hb
        have hK := hK.below hb
        go_wp2_with fail
        refine (HLI.out _ (HLS.out _ hB)).mono ?_
        rintro e w2 ⟨rfl, hb⟩
        have hB := since_step hB hb
        have hK := hK.below hb
        have HK : Hid (∀ V, Below w2.heap.size w2 V → Bk V w.heap.size #[.int .i64 a, .int .i64 c]) := Lib.hid fun V hV => hK.below hV
        clear hb
        go_wp2_with fail
        refine wp_region_held_drew (S := (fun V => Below w.heap.size w V ∧ Below w2.heap.size w2 V)) (by kernel_rfl) (by exact ⟨hB.drew, (Below.refl _ _).drew⟩) (fun hHeld => ?_)
        refine wpAnyH_take (i := 0) (oi := { dst := some 24, op := _, type := _, pos := _, after := _, guard := _ }) (v := ?_) rfl (by kernel_rfl) (by kernel_rfl) (by kernel_rfl) (fun _ _ _ h => h) (Or.inl ⟨by rfl, ?_⟩) hHeld ?_
        rotate_left
        · (intro w hSw; have ck := (HK.out _ (hSw).2).2; have k0 := ck 0; have k1 := ck 1; simp at k0 k1; clear ck; go_simp <;> with_reducible rfl)
        try simp only [Act.put, List.setIfInBounds_toArray, List.set_cons_zero, List.set_cons_succ]
        refine wpAnyH_take (i := 2) (oi := { dst := some 26, op := _, type := _, pos := _, after := _, guard := _ }) (v := ?_) rfl (by kernel_rfl) (by kernel_rfl) (by kernel_rfl) (fun _ _ _ h => h) (Or.inl ⟨by rfl, ?_⟩) hHeld ?_
        rotate_left
        · (intro w hSw; have ck := (HK.out _ (hSw).2).2; have k0 := ck 0; have k1 := ck 1; simp at k0 k1; clear ck; go_simp <;> with_reducible rfl)
        try simp only [Act.put, List.setIfInBounds_toArray, List.set_cons_zero, List.set_cons_succ]
        refine wpAnyH_take (i := 3) (oi := { dst := some 27, op := _, type := _, pos := _, after := _, guard := _ }) (v := ?_) rfl (by kernel_rfl) (by kernel_rfl) (by kernel_rfl) (fun _ _ _ h => h) (Or.inl ⟨by rfl, ?_⟩) hHeld ?_
        rotate_left
        · (intro w hSw; have ck := (HK.out _ (hSw).2).2; have k0 := ck 0; have k1 := ck 1; simp at k0 k1; clear ck; go_simp <;> with_reducible rfl)
        try simp only [Act.put, List.setIfInBounds_toArray, List.set_cons_zero, List.set_cons_succ]
        refine wpAnyH_take (i := 4) (oi := { dst := some 28, op := _, type := _, pos := _, after := _, guard := _ }) (v := ?_) rfl (by kernel_rfl) (by kernel_rfl) (by kernel_rfl) (fun _ _ _ h => h) (Or.inl ⟨by rfl, ?_⟩) hHeld ?_
        rotate_left
        · (intro w hSw; have ck := (HK.out _ (hSw).2).2; have k0 := ck 0; have k1 := ck 1; simp at k0 k1; clear ck; go_simp <;> with_reducible rfl)
        try simp only [Act.put, List.setIfInBounds_toArray, List.set_cons_zero, List.set_cons_succ]
        refine wpAnyH_ready (rs := [1]) (by kernel_rfl) (by simp) ?_
        refine AllReadyH.cons (o := { dst := some 25, op := _, type := _, pos := _, after := _, guard := _ }) rfl (fun K hK => ?_) AllReadyH.nil
        go_simp
        refine (HD.out _ (HSL.out _ hHeld.1) (HTB.out _ hHeld.1)).mono ?_
        rintro e u1 ⟨⟨l1, A1, c1, rfl, ho1, hot1⟩, hk1⟩
        have hKeep := And.intro (since_step hHeld.1 hk1) (since_step hHeld.2 hk1)
        have hs1 := Sl.of_own ho1
        have ht1 := hot1.tab
        have hf1 : ∀ g ∈ l1, AtOr w.heap.size g.lt := fun g hg => (hot1.far g hg).mono hHeld.1.size
        have hl1 : l1.length ≤ 1000000 := by rw [ht1.1]; exact HLL.out
        clear ho1 hot1
        go_wp2_with fail
        refine hK.out _ _ (by (try dsimp only); exact hKeep) (fun hHeld => ?_)
        clear hK K hKeep
        try simp only [Act.put, List.setIfInBounds_toArray, List.set_cons_zero, List.set_cons_succ]
        refine wpAnyH_ready (rs := [5]) (by kernel_rfl) (by simp) ?_
        refine AllReadyH.cons (o := { dst := some 29, op := _, type := _, pos := _, after := _, guard := _ }) rfl (fun K hK => ?_) AllReadyH.nil
        go_simp
        refine (HD1.out _ (HLS.out _ hHeld.1)).mono ?_
        rintro e u2 ⟨⟨A2, c2, rfl, ho2⟩, hk2⟩
        have hKeep := And.intro (since_step hHeld.1 hk2) (since_step hHeld.2 hk2)
        have hs1 := hs1.below hk2
        have ht1 := ht1.below hk2
        have hs2 := Sl.of_own ho2
        have hf2 : AtOr w.heap.size A2 := (AtOr.own ho2).mono hHeld.1.size
        clear ho2
        go_wp2_with fail
        refine hK.out _ _ (by (try dsimp only); exact hKeep) (fun hHeld => ?_)
        clear hK K hKeep
        try simp only [Act.put, List.setIfInBounds_toArray, List.set_cons_zero, List.set_cons_succ]
        refine wpAnyH_ready (rs := [6]) (by kernel_rfl) (by simp) ?_
        refine AllReadyH.cons (o := { dst := some 30, op := _, type := _, pos := _, after := _, guard := _ }) rfl (fun K hK => ?_) AllReadyH.nil
        go_simp
        refine (HPU.out A1 c1 l1 A2 c2 _ hl1 hs1).mono ?_
        rintro e u3 ⟨⟨A3, c3, rfl, ho3⟩, hk3⟩
        have HZ := Lib.hid hHeld.1.size
        have hKeep := And.intro (since_step hHeld.1 hk3) (since_step hHeld.2 hk3)
        have ht1 := ht1.below hk3
        have hs2 := hs2.below hk3
        go_wp2_with fail
        refine hK.out _ _ (by (try dsimp only); exact hKeep) (fun hHeld => ?_)
        clear hK K hKeep
        try simp only [Act.put, List.setIfInBounds_toArray, List.set_cons_zero, List.set_cons_succ]
        refine wpAnyH_take (i := 7) (oi := { dst := some 6, op := _, type := _, pos := _, after := _, guard := _ }) (v := ?_) rfl (by kernel_rfl) (by kernel_rfl) (by kernel_rfl) (fun _ _ _ h => h) (Or.inl ⟨by rfl, ?_⟩) hHeld ?_
        rotate_left
        · (intro w hSw; have ck := (HK.out _ (hSw).2).2; have k0 := ck 0; have k1 := ck 1; simp at k0 k1; clear ck; go_simp <;> with_reducible rfl)
        try simp only [Act.put, List.setIfInBounds_toArray, List.set_cons_zero, List.set_cons_succ]
        refine wpAnyH_take (i := 8) (oi := { dst := some 7, op := _, type := _, pos := _, after := _, guard := _ }) (v := ?_) rfl (by kernel_rfl) (by kernel_rfl) (by kernel_rfl) (fun _ _ _ h => h) (Or.inl ⟨by rfl, ?_⟩) hHeld ?_
        rotate_left
        · (intro w hSw; have ck := (HK.out _ (hSw).2).2; have k0 := ck 0; have k1 := ck 1; simp at k0 k1; clear ck; go_simp <;> with_reducible rfl)
        try simp only [Act.put, List.setIfInBounds_toArray, List.set_cons_zero, List.set_cons_succ]
        refine wpAnyH_done (by kernel_rfl) ?_ _
        have hBz := hHeld.1
        have hcap := CapH.of_own ho3
        have hat := (AtOr.own ho3).mono HZ.out
        have hsz := Sl.of_own ho3
        have htz := HdTab.put (w := u3) (g := ⟨a, c, A2, (x :: r).length, c2⟩) (c := ⟨a, c, x :: r⟩) ah_is ⟨rfl, rfl, rfl, hs2⟩ ht1
        rw [← putL_eq] at htz
        go_wp2_with fail
        go_ret2
        rw [HR.out]
        exact ⟨⟨_, A3, c3, rfl, hsz, htz, hcap, hat, fun g hg => .inr ((mem_putL_far hf1 hf2 g hg))⟩, hBz⟩
theorem hset_any (A : Option Addr) (cap : Nat) (l : List Hd) (cs : List Hc) (a c : Int) (LA : Option Addr) (LC : Nat) (L : List Lt) (w : World) (hl : l.length ≤ 900000) (hcl : ∀ g ∈ cs, g.L.length ≤ 900000) (hLl : L.length ≤ 900000) (hs : Sl w A (rc Hd.cells l)) (ht : HdTab w l cs) (hLs : Sl w LA (rc Lt.cells L)) :
    Calls Try.prog 69 #[.slice A l.length cap, .agg #[.int .i64 a, .int .i64 c], .slice LA L.length LC] w fun e w' => HRes w' e (setHR cs a c L) ∧ Below w.heap.size w w' :=
  (hset_anyN A cap l cs a c LA LC L w hl hcl hLl hs ht hLs).mono fun e w h => ⟨h.1.res, h.2⟩
end Go.Proofs.Ytldnponbkhgijaa
end
section
namespace Go.Proofs.Ytldnponbkhgijaa
open Go.ChangeShapes Go.WideShapes Go.ChangeAt Go.RowKit
set_option linter.unusedVariables false
set_option linter.unusedSimpArgs false

theorem chgHR_form {how : List Lt → Int × List Lt} {cs : List Hc} {a c : Int} (h : isH cs = false) : chgHR how cs a c = (3, []) := if_pos h
theorem chgHR_err {how : List Lt → Int × List Lt} {cs : List Hc} {a c n : Int} {L : List Lt} (h : isH cs = true) (h2 : how (lotsH cs a c) = (n, L)) (h3 : n ≠ 0) : chgHR how cs a c = (n, []) := by
  unfold chgHR; rw [if_neg (by simp [h]), h2, if_pos h3]
theorem chgHR_ok {how : List Lt → Int × List Lt} {cs : List Hc} {a c : Int} {L : List Lt} (h : isH cs = true) (h2 : how (lotsH cs a c) = (0, L)) : chgHR how cs a c = (0, withH cs a c L) := by
  unfold chgHR; rw [if_neg (by simp [h]), h2, if_neg (by simp)]
theorem isLs_le {L : List Lt} (h : isLs L = true) : L.length ≤ 900000 := by have := ((isLs_iff L).1 h).2.1; omega
set_option maxHeartbeats 8000000 in
set_option maxRecDepth 100000 in
theorem hchange_put (A : Option Addr) (cap : Nat) (l : List Hd) (cs : List Hc) (a c xa xt xq : Int) (w : World) (hl : l.length ≤ 900000) (hcl : ∀ g ∈ cs, g.L.length ≤ 900000) (hx : In64 xq) (h6 : ∀ g ∈ cs, ∀ y ∈ g.L, In64 y.qty) (hs : Sl w A (rc Hd.cells l)) (ht : HdTab w l cs) :
    Calls Try.prog 129 #[.slice A l.length cap, .agg #[.int .i64 a, .int .i64 c], .agg #[.int .i64 xa, .int .i64 xt, .int .i64 xq], .func (.func 130) #[] #[]] w fun e w' => HRes w' e (chgHR (fun m => putLR m ⟨xa, xt, xq⟩) cs a c) ∧ Below w.heap.size w w' := by
  have hB0 := since_alloc (since_alloc (Below.refl _ w) (.cells #[.int .i64 a, .int .i64 c] 24)) (.cells #[.int .i64 xa, .int .i64 xt, .int .i64 xq] 93)
  have hK1 := (Bk.new w #[.int .i64 a, .int .i64 c] 24).alloc (.cells #[.int .i64 xa, .int .i64 xt, .int .i64 xq] 93)
  have hK2 := Bk.new (w.alloc (.cells #[.int .i64 a, .int .i64 c] 24)) #[.int .i64 xa, .int .i64 xt, .int .i64 xq] 93
  rw [World.size_alloc] at hK2
  have HIS := Lib.hid (his_any A cap l cs _ hl hcl ((hs.alloc (.cells #[.int .i64 a, .int .i64 c] 24)).alloc (.cells #[.int .i64 xa, .int .i64 xt, .int .i64 xq] 93)) (ht.below hB0))
  have HSL : Hid (∀ V, Below w.heap.size w V → Sl V A (rc Hd.cells l)) := Lib.hid fun V hV => hs.below hV
  have HTB : Hid (∀ V, Below w.heap.size w V → HdTab V l cs) := Lib.hid fun V hV => ht.below hV
  have HLO := Lib.hid (fun V h1 h2 => hlots_any A cap l cs a c V hl hcl h1 h2)
  have hlen := lotsH_len hcl a c
  have hl6 := lots_in6 h6 a c
  have HHO := Lib.hid (fun A1 c1 V h1 => lput_any A1 c1 (lotsH cs a c) ⟨xa, xt, xq⟩ V hlen hx hl6 h1)
  obtain ⟨rn, RL, hR⟩ : ∃ rn RL, putLR (lotsH cs a c) ⟨xa, xt, xq⟩ = (rn, RL) := ⟨_, _, rfl⟩
  rw [hR] at HHO
  unfold LRes Lt.val at HHO
  simp only at HHO
  clear hs ht
  have hF : Ent Try.prog 130 := Ent.of (by kernel_rfl)
  cases hi : isH cs with
  | false =>
    have HR := Lib.hid (chgHR_form (how := fun m => putLR m ⟨xa, xt, xq⟩) (a := a) (c := c) hi)
    rw [hi] at HIS
    clear hi hR
    go_enter Try.func129, Try.ntmps129
    go_wp2_with fail
    refine HIS.out.mono ?_
    rintro e w1 ⟨rfl, hb⟩
    have hB1 := since_step hB0 hb
    go_wp2_with fail
    go_ret2
    rw [HR.out]
    exact ⟨HRes.nil _ _, hB1⟩
  | true =>
    rw [hi] at HIS
    by_cases hn : rn = 0
    rotate_left
    · have HR := Lib.hid (chgHR_err (how := fun m => putLR m ⟨xa, xt, xq⟩) hi hR hn)
      have hnb : (rn != 0) = true := by simpa using hn
      have hnb2 : (rn == 0) = false := by simpa using hn
      clear hi hR hn
      go_enter Try.func129, Try.ntmps129
      go_wp2_with fail
      refine HIS.out.mono ?_
      rintro e w1 ⟨rfl, hb⟩
      have hB1 := since_step hB0 hb
      have HK1 : Hid (∀ V, Below w1.heap.size w1 V → Bk V w.heap.size #[.int .i64 a, .int .i64 c]) := Lib.hid fun V hV => (hK1.below hb).below hV
      have HK2 : Hid (∀ V, Below w1.heap.size w1 V → Bk V (w.heap.size + 1) #[.int .i64 xa, .int .i64 xt, .int .i64 xq]) := Lib.hid fun V hV => (hK2.below hb).below hV
      generalize lotsH cs a c = L0 at *
      clear hb hK1 hK2
      go_wp2_with fail
      refine wp_region_held_drew (S := (fun V => Below w.heap.size w V ∧ Below w1.heap.size w1 V)) (by kernel_rfl) (by exact ⟨hB1.drew, (Below.refl _ _).drew⟩) (fun hHeld => ?_)
      refine wpAnyH_take (i := 0) (oi := { dst := some 16, op := _, type := _, pos := _, after := _, guard := _ }) (v := ?_) rfl (by kernel_rfl) (by kernel_rfl) (by kernel_rfl) (fun _ _ _ h => h) (Or.inl ⟨by rfl, ?_⟩) hHeld ?_
      rotate_left
      · (intro w hSw; have ck := (HK1.out _ (hSw).2).2; have k0 := ck 0; have k1 := ck 1; simp at k0 k1; clear ck; have cq := (HK2.out _ (hSw).2).2; have k2 := cq 0; have k3 := cq 1; have k4 := cq 2; simp at k2 k3 k4; clear cq; go_simp <;> with_reducible rfl)
      try simp only [Act.put, List.setIfInBounds_toArray, List.set_cons_zero, List.set_cons_succ]
      refine wpAnyH_take (i := 1) (oi := { dst := some 17, op := _, type := _, pos := _, after := _, guard := _ }) (v := ?_) rfl (by kernel_rfl) (by kernel_rfl) (by kernel_rfl) (fun _ _ _ h => h) (Or.inl ⟨by rfl, ?_⟩) hHeld ?_
      rotate_left
      · (intro w hSw; have ck := (HK1.out _ (hSw).2).2; have k0 := ck 0; have k1 := ck 1; simp at k0 k1; clear ck; have cq := (HK2.out _ (hSw).2).2; have k2 := cq 0; have k3 := cq 1; have k4 := cq 2; simp at k2 k3 k4; clear cq; go_simp <;> with_reducible rfl)
      try simp only [Act.put, List.setIfInBounds_toArray, List.set_cons_zero, List.set_cons_succ]
      refine wpAnyH_take (i := 2) (oi := { dst := some 18, op := _, type := _, pos := _, after := _, guard := _ }) (v := ?_) rfl (by kernel_rfl) (by kernel_rfl) (by kernel_rfl) (fun _ _ _ h => h) (Or.inl ⟨by rfl, ?_⟩) hHeld ?_
      rotate_left
      · (intro w hSw; have ck := (HK1.out _ (hSw).2).2; have k0 := ck 0; have k1 := ck 1; simp at k0 k1; clear ck; have cq := (HK2.out _ (hSw).2).2; have k2 := cq 0; have k3 := cq 1; have k4 := cq 2; simp at k2 k3 k4; clear cq; go_simp <;> with_reducible rfl)
      try simp only [Act.put, List.setIfInBounds_toArray, List.set_cons_zero, List.set_cons_succ]
      refine wpAnyH_take (i := 4) (oi := { dst := some 20, op := _, type := _, pos := _, after := _, guard := _ }) (v := ?_) rfl (by kernel_rfl) (by kernel_rfl) (by kernel_rfl) (fun _ _ _ h => h) (Or.inl ⟨by rfl, ?_⟩) hHeld ?_
      rotate_left
      · (intro w hSw; have ck := (HK1.out _ (hSw).2).2; have k0 := ck 0; have k1 := ck 1; simp at k0 k1; clear ck; have cq := (HK2.out _ (hSw).2).2; have k2 := cq 0; have k3 := cq 1; have k4 := cq 2; simp at k2 k3 k4; clear cq; go_simp <;> with_reducible rfl)
      try simp only [Act.put, List.setIfInBounds_toArray, List.set_cons_zero, List.set_cons_succ]
      refine wpAnyH_ready (rs := [3]) (by kernel_rfl) (by simp) ?_
      refine AllReadyH.cons (o := { dst := some 19, op := _, type := _, pos := _, after := _, guard := _ }) rfl (fun K hK => ?_) AllReadyH.nil
      go_simp
      refine (HLO.out _ (HSL.out _ hHeld.1) (HTB.out _ hHeld.1)).mono ?_
      rintro e u1 ⟨⟨A1, c1, rfl, ho1⟩, hk1⟩
      have hKeep := And.intro (since_step hHeld.1 hk1) (since_step hHeld.2 hk1)
      have hs1 := Sl.of_own ho1
      clear ho1
      go_wp2_with fail
      refine hK.out _ _ (by (try dsimp only); exact hKeep) (fun hHeld => ?_)
      clear hK K hKeep
      try simp only [Act.put, List.setIfInBounds_toArray, List.set_cons_zero, List.set_cons_succ]
      refine wpAnyH_ready (rs := [5]) (by kernel_rfl) (by simp) ?_
      refine AllReadyH.cons (o := { dst := some 21, op := _, type := _, pos := _, after := _, guard := _ }) rfl (fun K hK => ?_) AllReadyH.nil
      go_simp
      refine (HHO.out A1 c1 _ hs1).mono ?_
      rintro e u2 ⟨⟨A2, c2, rfl, ho2⟩, hk2⟩
      have hKeep := And.intro (since_step hHeld.1 hk2) (since_step hHeld.2 hk2)
      go_wp2_with fail
      refine hK.out _ _ (by (try dsimp only); exact hKeep) (fun hHeld => ?_)
      clear hK K hKeep
      try simp only [Act.put, List.setIfInBounds_toArray, List.set_cons_zero, List.set_cons_succ]
      refine wpAnyH_take (i := 6) (oi := { dst := some 15, op := _, type := _, pos := _, after := _, guard := _ }) (v := ?_) rfl (by kernel_rfl) (by kernel_rfl) (by kernel_rfl) (fun _ _ _ h => h) (Or.inl ⟨by rfl, ?_⟩) hHeld ?_
      rotate_left
      · (intro w hSw; have ck := (HK1.out _ (hSw).2).2; have k0 := ck 0; have k1 := ck 1; simp at k0 k1; clear ck; have cq := (HK2.out _ (hSw).2).2; have k2 := cq 0; have k3 := cq 1; have k4 := cq 2; simp at k2 k3 k4; clear cq; go_simp <;> with_reducible rfl)
      try simp only [Act.put, List.setIfInBounds_toArray, List.set_cons_zero, List.set_cons_succ]
      refine wpAnyH_take (i := 7) (oi := { dst := some 22, op := _, type := _, pos := _, after := _, guard := _ }) (v := ?_) rfl (by kernel_rfl) (by kernel_rfl) (by kernel_rfl) (fun _ _ _ h => h) (Or.inl ⟨by rfl, ?_⟩) hHeld ?_
      rotate_left
      · (intro w hSw; have ck := (HK1.out _ (hSw).2).2; have k0 := ck 0; have k1 := ck 1; simp at k0 k1; clear ck; have cq := (HK2.out _ (hSw).2).2; have k2 := cq 0; have k3 := cq 1; have k4 := cq 2; simp at k2 k3 k4; clear cq; go_simp <;> with_reducible rfl)
      try simp only [Act.put, List.setIfInBounds_toArray, List.set_cons_zero, List.set_cons_succ]
      refine wpAnyH_take (i := 8) (oi := { dst := some 23, op := _, type := _, pos := _, after := _, guard := _ }) (v := ?_) rfl (by kernel_rfl) (by kernel_rfl) (by kernel_rfl) (fun _ _ _ h => h) (Or.inl ⟨by rfl, ?_⟩) hHeld ?_
      rotate_left
      · (intro w hSw; have ck := (HK1.out _ (hSw).2).2; have k0 := ck 0; have k1 := ck 1; simp at k0 k1; clear ck; have cq := (HK2.out _ (hSw).2).2; have k2 := cq 0; have k3 := cq 1; have k4 := cq 2; simp at k2 k3 k4; clear cq; go_simp <;> with_reducible rfl)
      try simp only [Act.put, List.setIfInBounds_toArray, List.set_cons_zero, List.set_cons_succ]
      refine wpAnyH_take (i := 9) (oi := { dst := some 10, op := _, type := _, pos := _, after := _, guard := _ }) (v := ?_) rfl (by kernel_rfl) (by kernel_rfl) (by kernel_rfl) (fun _ _ _ h => h) (Or.inl ⟨by rfl, ?_⟩) hHeld ?_
      rotate_left
      · (intro w hSw; have ck := (HK1.out _ (hSw).2).2; have k0 := ck 0; have k1 := ck 1; simp at k0 k1; clear ck; have cq := (HK2.out _ (hSw).2).2; have k2 := cq 0; have k3 := cq 1; have k4 := cq 2; simp at k2 k3 k4; clear cq; go_simp <;> with_reducible rfl)
      try simp only [Act.put, List.setIfInBounds_toArray, List.set_cons_zero, List.set_cons_succ]
      refine wpAnyH_take (i := 10) (oi := { dst := some 11, op := _, type := _, pos := _, after := _, guard := _ }) (v := ?_) rfl (by kernel_rfl) (by kernel_rfl) (by kernel_rfl) (fun _ _ _ h => h) (Or.inl ⟨by rfl, ?_⟩) hHeld ?_
      rotate_left
      · (intro w hSw; have ck := (HK1.out _ (hSw).2).2; have k0 := ck 0; have k1 := ck 1; simp at k0 k1; clear ck; have cq := (HK2.out _ (hSw).2).2; have k2 := cq 0; have k3 := cq 1; have k4 := cq 2; simp at k2 k3 k4; clear cq; go_simp <;> with_reducible rfl)
      try simp only [Act.put, List.setIfInBounds_toArray, List.set_cons_zero, List.set_cons_succ]
      refine wpAnyH_done (by kernel_rfl) ?_ _
      have hBz := hHeld.1
      go_wp2_with fail
      go_ret2
      rw [HR.out]
      exact ⟨HRes.nil _ _, hBz⟩

    · subst hn
      have hRi : isLs RL = true := (put_is hR).1
      have hRl := isLs_le hRi
      have hso := isH_sorted hi
      have HR := Lib.hid (chgHR_ok (how := fun m => putLR m ⟨xa, xt, xq⟩) hi hR)
      have HWI := Lib.hid (fun A2 c2 V h1 h2 h3 => hset_any A cap l cs a c A2 c2 RL V hl hcl hRl h1 h2 h3)
      rw [setHR_ok hi hRi] at HWI
      clear hi hR
      go_enter Try.func129, Try.ntmps129
      go_wp2_with fail
      refine HIS.out.mono ?_
      rintro e w1 ⟨rfl, hb⟩
      have hB1 := since_step hB0 hb
      have HK1 : Hid (∀ V, Below w1.heap.size w1 V → Bk V w.heap.size #[.int .i64 a, .int .i64 c]) := Lib.hid fun V hV => (hK1.below hb).below hV
      have HK2 : Hid (∀ V, Below w1.heap.size w1 V → Bk V (w.heap.size + 1) #[.int .i64 xa, .int .i64 xt, .int .i64 xq]) := Lib.hid fun V hV => (hK2.below hb).below hV
      generalize lotsH cs a c = L0 at *
      clear hb hK1 hK2
      go_wp2_with fail
      refine wp_region_held_drew (S := (fun V => Below w.heap.size w V ∧ Below w1.heap.size w1 V)) (by kernel_rfl) (by exact ⟨hB1.drew, (Below.refl _ _).drew⟩) (fun hHeld => ?_)
      refine wpAnyH_take (i := 0) (oi := { dst := some 16, op := _, type := _, pos := _, after := _, guard := _ }) (v := ?_) rfl (by kernel_rfl) (by kernel_rfl) (by kernel_rfl) (fun _ _ _ h => h) (Or.inl ⟨by rfl, ?_⟩) hHeld ?_
      rotate_left
      · (intro w hSw; have ck := (HK1.out _ (hSw).2).2; have k0 := ck 0; have k1 := ck 1; simp at k0 k1; clear ck; have cq := (HK2.out _ (hSw).2).2; have k2 := cq 0; have k3 := cq 1; have k4 := cq 2; simp at k2 k3 k4; clear cq; go_simp <;> with_reducible rfl)
      try simp only [Act.put, List.setIfInBounds_toArray, List.set_cons_zero, List.set_cons_succ]
      refine wpAnyH_take (i := 1) (oi := { dst := some 17, op := _, type := _, pos := _, after := _, guard := _ }) (v := ?_) rfl (by kernel_rfl) (by kernel_rfl) (by kernel_rfl) (fun _ _ _ h => h) (Or.inl ⟨by rfl, ?_⟩) hHeld ?_
      rotate_left
      · (intro w hSw; have ck := (HK1.out _ (hSw).2).2; have k0 := ck 0; have k1 := ck 1; simp at k0 k1; clear ck; have cq := (HK2.out _ (hSw).2).2; have k2 := cq 0; have k3 := cq 1; have k4 := cq 2; simp at k2 k3 k4; clear cq; go_simp <;> with_reducible rfl)
      try simp only [Act.put, List.setIfInBounds_toArray, List.set_cons_zero, List.set_cons_succ]
      refine wpAnyH_take (i := 2) (oi := { dst := some 18, op := _, type := _, pos := _, after := _, guard := _ }) (v := ?_) rfl (by kernel_rfl) (by kernel_rfl) (by kernel_rfl) (fun _ _ _ h => h) (Or.inl ⟨by rfl, ?_⟩) hHeld ?_
      rotate_left
      · (intro w hSw; have ck := (HK1.out _ (hSw).2).2; have k0 := ck 0; have k1 := ck 1; simp at k0 k1; clear ck; have cq := (HK2.out _ (hSw).2).2; have k2 := cq 0; have k3 := cq 1; have k4 := cq 2; simp at k2 k3 k4; clear cq; go_simp <;> with_reducible rfl)
      try simp only [Act.put, List.setIfInBounds_toArray, List.set_cons_zero, List.set_cons_succ]
      refine wpAnyH_take (i := 4) (oi := { dst := some 20, op := _, type := _, pos := _, after := _, guard := _ }) (v := ?_) rfl (by kernel_rfl) (by kernel_rfl) (by kernel_rfl) (fun _ _ _ h => h) (Or.inl ⟨by rfl, ?_⟩) hHeld ?_
      rotate_left
      · (intro w hSw; have ck := (HK1.out _ (hSw).2).2; have k0 := ck 0; have k1 := ck 1; simp at k0 k1; clear ck; have cq := (HK2.out _ (hSw).2).2; have k2 := cq 0; have k3 := cq 1; have k4 := cq 2; simp at k2 k3 k4; clear cq; go_simp <;> with_reducible rfl)
      try simp only [Act.put, List.setIfInBounds_toArray, List.set_cons_zero, List.set_cons_succ]
      refine wpAnyH_ready (rs := [3]) (by kernel_rfl) (by simp) ?_
      refine AllReadyH.cons (o := { dst := some 19, op := _, type := _, pos := _, after := _, guard := _ }) rfl (fun K hK => ?_) AllReadyH.nil
      go_simp
      refine (HLO.out _ (HSL.out _ hHeld.1) (HTB.out _ hHeld.1)).mono ?_
      rintro e u1 ⟨⟨A1, c1, rfl, ho1⟩, hk1⟩
      have hKeep := And.intro (since_step hHeld.1 hk1) (since_step hHeld.2 hk1)
      have hs1 := Sl.of_own ho1
      clear ho1
      go_wp2_with fail
      refine hK.out _ _ (by (try dsimp only); exact hKeep) (fun hHeld => ?_)
      clear hK K hKeep
      try simp only [Act.put, List.setIfInBounds_toArray, List.set_cons_zero, List.set_cons_succ]
      refine wpAnyH_ready (rs := [5]) (by kernel_rfl) (by simp) ?_
      refine AllReadyH.cons (o := { dst := some 21, op := _, type := _, pos := _, after := _, guard := _ }) rfl (fun K hK => ?_) AllReadyH.nil
      go_simp
      refine (HHO.out A1 c1 _ hs1).mono ?_
      rintro e u2 ⟨⟨A2, c2, rfl, ho2⟩, hk2⟩
      have hKeep := And.intro (since_step hHeld.1 hk2) (since_step hHeld.2 hk2)
      go_wp2_with fail
      refine hK.out _ _ (by (try dsimp only); exact hKeep) (fun hHeld => ?_)
      clear hK K hKeep
      try simp only [Act.put, List.setIfInBounds_toArray, List.set_cons_zero, List.set_cons_succ]
      refine wpAnyH_take (i := 6) (oi := { dst := some 15, op := _, type := _, pos := _, after := _, guard := _ }) (v := ?_) rfl (by kernel_rfl) (by kernel_rfl) (by kernel_rfl) (fun _ _ _ h => h) (Or.inl ⟨by rfl, ?_⟩) hHeld ?_
      rotate_left
      · (intro w hSw; have ck := (HK1.out _ (hSw).2).2; have k0 := ck 0; have k1 := ck 1; simp at k0 k1; clear ck; have cq := (HK2.out _ (hSw).2).2; have k2 := cq 0; have k3 := cq 1; have k4 := cq 2; simp at k2 k3 k4; clear cq; go_simp <;> with_reducible rfl)
      try simp only [Act.put, List.setIfInBounds_toArray, List.set_cons_zero, List.set_cons_succ]
      refine wpAnyH_take (i := 7) (oi := { dst := some 22, op := _, type := _, pos := _, after := _, guard := _ }) (v := ?_) rfl (by kernel_rfl) (by kernel_rfl) (by kernel_rfl) (fun _ _ _ h => h) (Or.inl ⟨by rfl, ?_⟩) hHeld ?_
      rotate_left
      · (intro w hSw; have ck := (HK1.out _ (hSw).2).2; have k0 := ck 0; have k1 := ck 1; simp at k0 k1; clear ck; have cq := (HK2.out _ (hSw).2).2; have k2 := cq 0; have k3 := cq 1; have k4 := cq 2; simp at k2 k3 k4; clear cq; go_simp <;> with_reducible rfl)
      try simp only [Act.put, List.setIfInBounds_toArray, List.set_cons_zero, List.set_cons_succ]
      refine wpAnyH_take (i := 8) (oi := { dst := some 23, op := _, type := _, pos := _, after := _, guard := _ }) (v := ?_) rfl (by kernel_rfl) (by kernel_rfl) (by kernel_rfl) (fun _ _ _ h => h) (Or.inl ⟨by rfl, ?_⟩) hHeld ?_
      rotate_left
      · (intro w hSw; have ck := (HK1.out _ (hSw).2).2; have k0 := ck 0; have k1 := ck 1; simp at k0 k1; clear ck; have cq := (HK2.out _ (hSw).2).2; have k2 := cq 0; have k3 := cq 1; have k4 := cq 2; simp at k2 k3 k4; clear cq; go_simp <;> with_reducible rfl)
      try simp only [Act.put, List.setIfInBounds_toArray, List.set_cons_zero, List.set_cons_succ]
      refine wpAnyH_take (i := 9) (oi := { dst := some 10, op := _, type := _, pos := _, after := _, guard := _ }) (v := ?_) rfl (by kernel_rfl) (by kernel_rfl) (by kernel_rfl) (fun _ _ _ h => h) (Or.inl ⟨by rfl, ?_⟩) hHeld ?_
      rotate_left
      · (intro w hSw; have ck := (HK1.out _ (hSw).2).2; have k0 := ck 0; have k1 := ck 1; simp at k0 k1; clear ck; have cq := (HK2.out _ (hSw).2).2; have k2 := cq 0; have k3 := cq 1; have k4 := cq 2; simp at k2 k3 k4; clear cq; go_simp <;> with_reducible rfl)
      try simp only [Act.put, List.setIfInBounds_toArray, List.set_cons_zero, List.set_cons_succ]
      refine wpAnyH_take (i := 10) (oi := { dst := some 11, op := _, type := _, pos := _, after := _, guard := _ }) (v := ?_) rfl (by kernel_rfl) (by kernel_rfl) (by kernel_rfl) (fun _ _ _ h => h) (Or.inl ⟨by rfl, ?_⟩) hHeld ?_
      rotate_left
      · (intro w hSw; have ck := (HK1.out _ (hSw).2).2; have k0 := ck 0; have k1 := ck 1; simp at k0 k1; clear ck; have cq := (HK2.out _ (hSw).2).2; have k2 := cq 0; have k3 := cq 1; have k4 := cq 2; simp at k2 k3 k4; clear cq; go_simp <;> with_reducible rfl)
      try simp only [Act.put, List.setIfInBounds_toArray, List.set_cons_zero, List.set_cons_succ]
      refine wpAnyH_done (by kernel_rfl) ?_ _
      have hBz := hHeld.1
      have ck := (HK1.out _ hHeld.2).2
      have k0 := ck 0
      have k1 := ck 1
      simp at k0 k1
      clear ck
      have hs2 := Sl.of_own ho2
      have HW := Lib.hid (HWI.out A2 c2 _ (HSL.out _ hBz) (HTB.out _ hBz) hs2)
      go_wp2_with fail
      refine HW.out.mono ?_
      rintro e u3 ⟨⟨l3, A3, c3, rfl, hs3, ht3, hc3⟩, hk3⟩
      have hBz := since_step hBz hk3
      go_wp2_with fail
      go_ret2
      rw [HR.out]
      exact ⟨⟨l3, A3, c3, rfl, hs3, ht3, hc3⟩, hBz⟩
set_option maxHeartbeats 4000000 in
set_option maxRecDepth 100000 in
theorem hput_any (A : Option Addr) (cap : Nat) (l : List Hd) (cs : List Hc) (a c xa xt xq : Int) (w : World) (hl : l.length ≤ 900000) (hcl : ∀ g ∈ cs, g.L.length ≤ 900000) (hx : In64 xq) (h6 : ∀ g ∈ cs, ∀ y ∈ g.L, In64 y.qty) (hs : Sl w A (rc Hd.cells l)) (ht : HdTab w l cs) :
    Calls Try.prog 65 #[.slice A l.length cap, .agg #[.int .i64 a, .int .i64 c], .agg #[.int .i64 xa, .int .i64 xt, .int .i64 xq]] w fun e w' => HRes w' e (chgHR (fun m => putLR m ⟨xa, xt, xq⟩) cs a c) ∧ Below w.heap.size w w' := by
  have hB0 := since_alloc (since_alloc (Below.refl _ w) (.cells #[.int .i64 a, .int .i64 c] 24)) (.cells #[.int .i64 xa, .int .i64 xt, .int .i64 xq] 93)
  have hK1 := (Bk.new w #[.int .i64 a, .int .i64 c] 24).alloc (.cells #[.int .i64 xa, .int .i64 xt, .int .i64 xq] 93)
  have hK2 := Bk.new (w.alloc (.cells #[.int .i64 a, .int .i64 c] 24)) #[.int .i64 xa, .int .i64 xt, .int .i64 xq] 93
  rw [World.size_alloc] at hK2
  have HC := Lib.hid (hchange_put A cap l cs a c xa xt xq _ hl hcl hx h6 ((hs.alloc (.cells #[.int .i64 a, .int .i64 c] 24)).alloc (.cells #[.int .i64 xa, .int .i64 xt, .int .i64 xq] 93)) (ht.below hB0))
  generalize chgHR (fun m => putLR m ⟨xa, xt, xq⟩) cs a c = RR at *
  obtain ⟨rn, RL⟩ := RR
  unfold HRes at HC ⊢
  simp only at HC ⊢
  clear hs ht
  go_enter Try.func65, Try.ntmps65
  go_wp2_with fail
  refine HC.out.mono ?_
  rintro e w1 ⟨⟨l3, A3, c3, rfl, hs3, ht3, hc3⟩, hb⟩
  have hB1 := since_step hB0 hb
  go_wp2_with fail
  go_ret2
  exact ⟨⟨l3, A3, c3, rfl, hs3, ht3, hc3⟩, hB1⟩
end Go.Proofs.Ytldnponbkhgijaa
end
