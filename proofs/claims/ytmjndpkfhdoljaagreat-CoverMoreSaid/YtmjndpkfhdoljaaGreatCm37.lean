import Derived.Test.YtmjndpkfhdoljaaGreatCm36
import Derived.Test.YtmjndpkfhdoljaaGreatCm06
set_option maxHeartbeats 16000000
set_option maxRecDepth 100000
set_option linter.unusedVariables false
set_option linter.unusedSimpArgs false
namespace Go.Proofs.YtmjndpkfhdoljaaGreat
open Go.ChangeShapes Go.WideShapes Go.ChangeAt Go.RowKit
section
def totL : List Lt → Int → Int → Int
  | [], _, _ => 0
  | x :: r, a, t => (if sameL a t x = true then x.qty else 0) + totL r a t
theorem totL_none {l : List Lt} {a t : Int} (h : ∀ y ∈ l, sameL a t y = false) : totL l a t = 0 := by
  induction l with
  | nil => rfl
  | cons x r ih => rw [totL, h x (by simp), ih (fun y hy => h y (by simp [hy]))]; simp
theorem totL_nn {l : List Lt} (h : ∀ y ∈ l, 0 < y.qty) (a t : Int) : 0 ≤ totL l a t := by
  induction l with
  | nil => exact Int.le_refl 0
  | cons x r ih =>
    have h1 := h x (by simp)
    have h2 := ih (fun y hy => h y (by simp [hy]))
    rw [totL]; split <;> omega
theorem totL_has {l : List Lt} (h : ∀ y ∈ l, 0 < y.qty) {a t : Int} (hp : 0 < totL l a t) : ∃ y ∈ l, sameL a t y = true := by
  by_cases hc : ∃ y ∈ l, sameL a t y = true
  · exact hc
  · rw [totL_none (fun y hy => by cases hs : sameL a t y with
      | false => rfl
      | true => exact absurd ⟨y, hy, hs⟩ hc)] at hp
    omega
theorem totL_ge {l : List Lt} (h : ∀ y ∈ l, 0 < y.qty) {x : Lt} (hx : x ∈ l) : x.qty ≤ totL l x.ast x.tag := by
  induction l with
  | nil => simp at hx
  | cons y r ih =>
    have h1 := h y (by simp)
    have h2 := totL_nn (fun y hy => h y (by simp [hy]) : ∀ y ∈ r, 0 < y.qty) x.ast x.tag
    rw [totL]
    rcases List.mem_cons.1 hx with rfl | hx
    · rw [if_pos (by simp [sameL])]; omega
    · have := ih (fun y hy => h y (by simp [hy])) hx
      split <;> omega
theorem same_after {x y : Lt} (h : ahL x y = true) : sameL x.ast x.tag y = false := by
  rw [ahL_iff] at h
  cases hs : sameL x.ast x.tag y with
  | false => rfl
  | true => rw [sameL_iff] at hs; unfold ltL at h; omega
theorem same_swap {x y : Lt} : sameL x.ast x.tag y = sameL y.ast y.tag x := by
  cases h1 : sameL x.ast x.tag y <;> cases h2 : sameL y.ast y.tag x <;> try rfl
  · rw [sameL_iff] at h2
    have : sameL x.ast x.tag y = true := by rw [sameL_iff]; omega
    rw [h1] at this; cases this
  · rw [sameL_iff] at h1
    have : sameL y.ast y.tag x = true := by rw [sameL_iff]; omega
    rw [h2] at this; cases this
abbrev SoL (l : List Lt) : Prop := l.Pairwise (fun a b => ahL a b = true)
theorem so_none {x : Lt} {r : List Lt} (h : SoL (x :: r)) : ∀ y ∈ r, sameL x.ast x.tag y = false := fun y hy => same_after (List.rel_of_pairwise_cons h hy)
theorem getL_cons (x : Lt) (r : List Lt) (a t : Int) : getL (x :: r) a t = if sameL a t x = true then x.qty else getL r a t := by
  unfold getL pickL
  rw [List.find?_cons]
  cases sameL a t x <;> simp
theorem getL_nil (a t : Int) : getL [] a t = 0 := rfl
theorem key_of {a t : Int} {x : Lt} (h : sameL a t x = true) : x.ast = a ∧ x.tag = t := by rw [sameL_iff] at h; exact h
theorem getL_tot {l : List Lt} (h : SoL l) (a t : Int) : getL l a t = totL l a t := by
  induction l with
  | nil => rfl
  | cons x r ih =>
    rw [getL_cons, totL, ih h.of_cons]
    split
    · rename_i hs
      obtain ⟨rfl, rfl⟩ := key_of hs
      rw [totL_none (so_none h)]; omega
    · omega
theorem isLs_iff (l : List Lt) : isLs l = true ↔ (∀ x ∈ l, okL x = true) ∧ l.length ≤ 16 ∧ SoL l := by
  unfold isLs
  rw [Bool.and_eq_true, Bool.and_eq_true, List.all_eq_true, decide_eq_true_eq, rising_pairwise ordL]
  exact ⟨fun h => ⟨h.1.1, h.1.2, h.2⟩, fun h => ⟨⟨h.1, h.2.1⟩, h.2.2⟩⟩
theorem isLs_pos {l : List Lt} (h : isLs l = true) : ∀ y ∈ l, 0 < y.qty := fun y hy => okL_pos (((isLs_iff l).1 h).1 y hy)
theorem totL_put {l : List Lt} (h : SoL l) (x : Lt) (a t : Int) : totL (putR ahL l x) a t = if sameL a t x = true then x.qty else totL l a t := by
  induction l with
  | nil => simp only [putR, totL]; split <;> omega
  | cons y r ih =>
    unfold putR
    cases h1 : ahL y x with
    | true =>
      rw [if_pos rfl, totL, ih h.of_cons, totL]
      by_cases hs : sameL a t x = true
      · rw [if_pos hs, if_pos hs]
        obtain ⟨rfl, rfl⟩ := key_of hs
        have := same_after h1
        rw [same_swap] at this
        rw [this]; simp
      · rw [if_neg hs, if_neg hs]
    | false =>
      rw [if_neg (by simp)]
      cases h2 : ahL x y with
      | true =>
        rw [if_pos rfl, totL]
        by_cases hs : sameL a t x = true
        · rw [if_pos hs, if_pos hs]
          obtain ⟨rfl, rfl⟩ := key_of hs
          rw [totL_none fun z hz => by
            rcases List.mem_cons.1 hz with rfl | hz
            · exact same_after h2
            · exact same_after (ordL.tr _ _ _ h2 (List.rel_of_pairwise_cons h hz))]
          omega
        · rw [if_neg hs, if_neg hs]; omega
      | false =>
        rw [if_neg (by simp), totL]
        have hk := key_of (sameL_of h1 h2)
        by_cases hs : sameL a t x = true
        · rw [if_pos hs, if_pos hs]
          obtain ⟨rfl, rfl⟩ := key_of hs
          have := totL_none (so_none h)
          rw [hk.1, hk.2] at this
          omega
        · rw [if_neg hs, if_neg hs, totL, if_neg (fun e => hs (by rw [sameL_iff] at e ⊢; omega))]
theorem len_put_has {l : List Lt} (h : SoL l) (x : Lt) (hh : ∃ y ∈ l, sameL x.ast x.tag y = true) : (putR ahL l x).length = l.length := by
  induction l with
  | nil => obtain ⟨y, hy, _⟩ := hh; simp at hy
  | cons y r ih =>
    unfold putR
    cases h1 : ahL y x with
    | true =>
      rw [if_pos rfl, List.length_cons, List.length_cons, ih h.of_cons]
      obtain ⟨z, hz, hs⟩ := hh
      rcases List.mem_cons.1 hz with rfl | hz
      · have := same_after h1; rw [same_swap, hs] at this; cases this
      · exact ⟨z, hz, hs⟩
    | false =>
      rw [if_neg (by simp)]
      cases h2 : ahL x y with
      | true =>
        obtain ⟨z, hz, hs⟩ := hh
        rcases List.mem_cons.1 hz with rfl | hz
        · have := same_after h2; rw [hs] at this; cases this
        · have := same_after (ordL.tr _ _ _ h2 (List.rel_of_pairwise_cons h hz)); rw [hs] at this; cases this
      | false => rw [if_neg (by simp)]; simp
abbrev qsum (l : List Lt) (i : Int) : Int := (qsL l i).sum
theorem qsum_cons (x : Lt) (r : List Lt) (i : Int) : qsum (x :: r) i = (if x.ast = i then x.qty else 0) + qsum r i := by
  unfold qsum qsL
  rw [List.filter_cons]
  by_cases h : x.ast = i
  · rw [if_pos (by simpa using h), if_pos h]; simp
  · rw [if_neg (by simpa using h), if_neg h]; simp
theorem qsum_put {l : List Lt} (h : SoL l) (a t q : Int) (i : Int) : qsum (putR ahL l ⟨a, t, getL l a t + q⟩) i = qsum l i + if a = i then q else 0 := by
  induction l with
  | nil => rw [putR, getL_nil, qsum_cons]; simp [qsum, qsL]
  | cons y r ih =>
    have ih := ih h.of_cons
    unfold putR
    rw [getL_cons]
    cases h1 : ahL y ⟨a, t, (if sameL a t y = true then y.qty else getL r a t) + q⟩ with
    | true =>
      have hn : sameL a t y = false := by
        have := same_after h1
        rw [same_swap] at this
        exact this
      simp only [hn, Bool.false_eq_true, if_false]
      rw [if_pos trivial, qsum_cons, qsum_cons, ih]; omega
    | false =>
      rw [if_neg (by simp)]
      cases h2 : ahL ⟨a, t, (if sameL a t y = true then y.qty else getL r a t) + q⟩ y with
      | true =>
        have hn : sameL a t y = false := same_after h2
        have hz : getL r a t = 0 := by
          rw [getL_tot h.of_cons, totL_none]
          exact fun z hz => same_after (x := ⟨a, t, _⟩) (ordL.tr _ _ _ h2 (List.rel_of_pairwise_cons h hz))
        simp only [hn, Bool.false_eq_true, if_false]
        rw [if_pos trivial, qsum_cons, hz]
        simp only
        split <;> omega
      | false =>
        have hs : sameL a t y = true := sameL_of h1 h2
        rw [if_neg (by simp), qsum_cons, qsum_cons, if_pos hs, (key_of hs).1]
        simp only
        split <;> omega
theorem put_ok {m m' : List Lt} {x : Lt} (h : putLR m x = (0, m')) : isLs m = true ∧ okL x = true ∧ In64 (getL m x.ast x.tag + x.qty) ∧ ¬ (getL m x.ast x.tag = 0 ∧ m.length = 16) ∧ m' = putR ahL m ⟨x.ast, x.tag, getL m x.ast x.tag + x.qty⟩ := by
  unfold putLR at h
  split at h
  · rename_i hc; injection h with h1; exact absurd h1 hc
  · rename_i hc
    have hc : chkL m x = 0 := by simpa using hc
    split at h
    · injection h with h1; cases h1
    · rename_i h64
      split at h
      · injection h with h1; cases h1
      · rename_i hl
        injection h with h1 h2
        exact ⟨(chkL_ok hc).1, (chkL_ok hc).2, by simpa using h64, hl, h2.symm⟩
theorem get_has {m : List Lt} (h : isLs m = true) {a t : Int} (hg : getL m a t ≠ 0) : ∃ y ∈ m, sameL a t y = true := by
  obtain ⟨h1, h2, h3⟩ := (isLs_iff m).1 h
  rw [getL_tot h3] at hg
  exact totL_has (isLs_pos h) (by have := totL_nn (isLs_pos h) a t; omega)
theorem okL_qty {x : Lt} (h : okL x = true) {q : Int} (hq : 0 < q) : okL ⟨x.ast, x.tag, q⟩ = true := by
  unfold okL at h ⊢
  simp only [Bool.and_eq_true, decide_eq_true_eq] at h ⊢
  exact ⟨h.1, hq⟩
theorem put_is {m m' : List Lt} {x : Lt} (h : putLR m x = (0, m')) : isLs m' = true ∧ (∀ a t, totL m' a t = totL m a t + if sameL a t x = true then x.qty else 0) ∧ (∀ i, qsum m' i = qsum m i + if x.ast = i then x.qty else 0) ∧ ((∀ y ∈ m, In64 y.qty) → ∀ y ∈ m', In64 y.qty) := by
  obtain ⟨h1, h2, h3, h4, rfl⟩ := put_ok h
  obtain ⟨m1, m2, m3⟩ := (isLs_iff m).1 h1
  have hp := okL_pos h2
  have hg := getL_nn h1 x.ast x.tag
  refine ⟨(isLs_iff _).2 ⟨fun y hy => ?_, ?_, pairwise_putR ordL _ _ m3⟩, fun a t => ?_, fun i => qsum_put m3 _ _ _ _, fun h6 y hy => ?_⟩
  · rcases mem_putR _ _ _ hy with rfl | hy
    · exact okL_qty h2 (by omega)
    · exact m1 y hy
  · by_cases hz : getL m x.ast x.tag = 0
    · have := length_putR (ah := ahL) ⟨x.ast, x.tag, getL m x.ast x.tag + x.qty⟩ m
      omega
    · rw [len_put_has m3 ⟨x.ast, x.tag, getL m x.ast x.tag + x.qty⟩ (get_has h1 hz)]; exact m2
  · rw [totL_put m3]
    have e : sameL a t ⟨x.ast, x.tag, getL m x.ast x.tag + x.qty⟩ = sameL a t x := rfl
    rw [e]
    split
    · rename_i hs
      obtain ⟨rfl, rfl⟩ := key_of hs
      rw [getL_tot m3]
    · omega
  · rcases mem_putR _ _ _ hy with rfl | hy
    · exact h3
    · exact h6 y hy
end
end Go.Proofs.YtmjndpkfhdoljaaGreat
section
namespace Go.Proofs.YtmjndpkfhdoljaaGreat.Hq
open Go.ChangeShapes Go.WideShapes Go.ChangeAt Go.RowKit

def ahH (x y : Hc) : Bool := keyLt x.ac x.cl y.ac y.cl
theorem ordH : Ord ahH := ord_key Hc.ac Hc.cl
theorem ahH_iff (x y : Hc) : ahH x y = true ↔ x.ac < y.ac ∨ x.ac = y.ac ∧ x.cl < y.cl := keyLt_iff _ _ _ _
def ahHd (x y : Hd) : Bool := keyLt x.ac x.cl y.ac y.cl
def unH (a c : Int) (x : Hc) : Bool := x.ac == a && x.cl == c
def unHd (a c : Int) (x : Hd) : Bool := x.ac == a && x.cl == c
theorem unH_iff (a c : Int) (x : Hc) : unH a c x = true ↔ x.ac = a ∧ x.cl = c := by simp [unH]
theorem unH_no (a c : Int) (x : Hc) : unH a c x = false ↔ ¬ (x.ac = a ∧ x.cl = c) := by rw [← unH_iff]; simp
theorem ah_is {w : World} (g : Hd) (c : Hc) (g' : Hd) (c' : Hc) (h : HdIs w g c) (h' : HdIs w g' c') : ahHd g g' = ahH c c' := by
  unfold ahHd ahH; rw [h.ac, h.cl, h'.ac, h'.cl]
theorem un_is {w : World} (a k : Int) (g : Hd) (c : Hc) (h : HdIs w g c) : unHd a k g = unH a k c := by
  unfold unHd unH; rw [h.ac, h.cl]
def okH (x : Hc) : Bool := !(x.L.length == 0) && isLs x.L
def isH (cs : List Hc) : Bool := cs.all okH && risingL ahH cs
def lotsH (cs : List Hc) (a c : Int) : List Lt := ((cs.find? (unH a c)).map Hc.L).getD []
def withH (cs : List Hc) (a c : Int) (L : List Lt) : List Hc := if L = [] then cs.filter (fun g => !unH a c g) else putR ahH cs ⟨a, c, L⟩
def chgHR (how : List Lt → Int × List Lt) (cs : List Hc) (a c : Int) : Int × List Hc :=
  if isH cs = false then (3, []) else if (how (lotsH cs a c)).1 ≠ 0 then ((how (lotsH cs a c)).1, []) else (0, withH cs a c (how (lotsH cs a c)).2)
def CapH (A : Option Addr) (n cap : Nat) : Prop := (A = none ∧ n = 0 ∧ cap = 0) ∨ (∃ b, A = some ⟨b, 0, none⟩ ∧ n ≤ cap ∧ cap ≤ maxLen)
theorem CapH.of_own {w : World} {B e s n c : Nat} {A : Option Addr} {xs : List Value} (h : w.ownsRow B e s (.slice A n c) n xs) : CapH A n c := by
  rcases h.2 with ⟨hv, h0⟩ | ⟨g, cap, cur, hv, hg, hh, hnc, hcm, _⟩
  · injection hv with e1 e2 e3; exact .inl ⟨e1, h0, e3⟩
  · injection hv with e1 e2 e3; subst e3; exact .inr ⟨g, e1, hnc, hcm⟩
def HRow (w' : World) (e : Ending) (R : List Hc) : Prop :=
  ∃ (l : List Hd) (A' : Option Addr) (c' : Nat), e = .returned (.slice A' l.length c') ∧ Sl w' A' (rc Hd.cells l) ∧ HdTab w' l R ∧ CapH A' l.length c'
def HRes (w' : World) (e : Ending) (R : Int × List Hc) : Prop :=
  ∃ (l : List Hd) (A' : Option Addr) (c' : Nat), e = .returned (.tuple #[.slice A' l.length c', .int .i64 R.1]) ∧ Sl w' A' (rc Hd.cells l) ∧ HdTab w' l R.2 ∧ CapH A' l.length c'
theorem HRes.nil (w' : World) (n : Int) : HRes w' (.returned (.tuple #[.slice none 0 0, .int .i64 n])) (n, []) := ⟨[], none, 0, rfl, Sl.nil, HdTab.nil _, .inl ⟨rfl, rfl, rfl⟩⟩
abbrev SoH (cs : List Hc) : Prop := cs.Pairwise (fun a b => ahH a b = true)
theorem isH_iff (cs : List Hc) : isH cs = true ↔ (∀ x ∈ cs, okH x = true) ∧ SoH cs := by
  unfold isH
  rw [Bool.and_eq_true, List.all_eq_true, rising_pairwise ordH]
theorem isH_sorted {cs : List Hc} (h : isH cs = true) : SoH cs := ((isH_iff cs).1 h).2
theorem isH_bad {cs : List Hc} {k : Nat} (h : k < cs.length) (hb : okH cs[k] = false) : isH cs = false := by
  rw [← Bool.not_eq_true]
  intro hi
  have := ((isH_iff cs).1 hi).1 _ (List.getElem_mem h)
  rw [hb] at this; cases this
theorem isH_low {cs : List Hc} {j : Nat} (h : j + 1 < cs.length) (hb : ahH (cs[j]'(Nat.lt_of_succ_lt h)) cs[j + 1] = false) : isH cs = false := by
  rw [← Bool.not_eq_true]
  intro hi
  have := List.pairwise_iff_getElem.1 (isH_sorted hi) j (j + 1) (by omega) h (by omega)
  rw [this] at hb; cases hb
theorem isH_end {cs : List Hc} (h1 : ∀ j, (hj : j < cs.length) → okH cs[j] = true) : isH cs = risingL ahH cs := by
  have : cs.all okH = true := by
    rw [List.all_eq_true]
    intro x hx
    obtain ⟨j, hj, rfl⟩ := List.getElem_of_mem hx
    exact h1 j hj
  unfold isH
  rw [this, Bool.true_and]
theorem okH_zero {x : Hc} (h : x.L.length = 0) : okH x = false := by
  unfold okH; rw [h]; rfl
theorem okH_some {x : Hc} (h : x.L.length ≠ 0) : okH x = isLs x.L := by
  have : (x.L.length == 0) = false := by simpa using h
  unfold okH; rw [this]; rfl
theorem mem_putH {cs : List Hc} (h : SoH cs) (a c : Int) (L : List Lt) (y : Hc) : y ∈ putR ahH cs ⟨a, c, L⟩ ↔ y = ⟨a, c, L⟩ ∨ (y ∈ cs ∧ unH a c y = false) := by
  induction cs with
  | nil => simp [putR]
  | cons b r ih =>
    have ih := ih h.of_cons
    have hb : ∀ z ∈ r, ahH b z = true := (List.pairwise_cons.1 h).1
    unfold putR
    split
    · rename_i h1
      have hn : unH a c b = false := by rw [unH_no]; rw [ahH_iff] at h1; simp only at h1; omega
      rw [List.mem_cons, List.mem_cons, ih]
      constructor
      · rintro (rfl | h | h)
        · exact .inr ⟨.inl rfl, hn⟩
        · exact .inl h
        · exact .inr ⟨.inr h.1, h.2⟩
      · rintro (h | ⟨h | h, h2⟩)
        · exact .inr (.inl h)
        · exact .inl h
        · exact .inr (.inr ⟨h, h2⟩)
    · rename_i h1
      split
      · rename_i h2
        have hall : ∀ z ∈ b :: r, unH a c z = false := by
          intro z hz
          have hxz : ahH ⟨a, c, L⟩ z = true := by
            rcases List.mem_cons.1 hz with rfl | hz
            · exact h2
            · exact ordH.tr _ _ _ h2 (hb z hz)
          rw [unH_no]; rw [ahH_iff] at hxz; simp only at hxz; omega
        rw [List.mem_cons]
        exact ⟨fun h => h.imp id fun h => ⟨h, hall y h⟩, fun h => h.imp id fun h => h.1⟩
      · rename_i h2
        rw [ahH_iff] at h1 h2
        simp only at h1 h2
        have hbu : unH a c b = true := by rw [unH_iff]; omega
        have hr : ∀ z ∈ r, unH a c z = false := by
          intro z hz
          have := hb z hz
          rw [unH_no]; rw [unH_iff] at hbu; rw [ahH_iff] at this; omega
        rw [List.mem_cons, List.mem_cons]
        constructor
        · rintro (h | h)
          · exact .inl h
          · exact .inr ⟨.inr h, hr y h⟩
        · rintro (h | ⟨rfl | h, h3⟩)
          · exact .inl h
          · rw [hbu] at h3; cases h3
          · exact .inr h
theorem mem_with {cs : List Hc} (h : SoH cs) (a c : Int) (L : List Lt) (y : Hc) : y ∈ withH cs a c L ↔ (L ≠ [] ∧ y = ⟨a, c, L⟩) ∨ (y ∈ cs ∧ unH a c y = false) := by
  unfold withH
  split
  · rename_i hL
    rw [List.mem_filter]
    simp [hL]
  · rename_i hL
    rw [mem_putH h]
    simp [hL]
theorem with_sorted {cs : List Hc} (h : SoH cs) (a c : Int) (L : List Lt) : SoH (withH cs a c L) := by
  unfold withH
  split
  · exact h.filter _
  · exact pairwise_putR ordH _ _ h
theorem key_one {cs : List Hc} (h : SoH cs) {x y : Hc} (hx : x ∈ cs) (hy : y ∈ cs) (h1 : x.ac = y.ac) (h2 : x.cl = y.cl) : x = y := by
  induction cs with
  | nil => cases hx
  | cons b r ih =>
    have hb : ∀ z ∈ r, ahH b z = true := (List.pairwise_cons.1 h).1
    rcases List.mem_cons.1 hx with e1 | hx' <;> rcases List.mem_cons.1 hy with e2 | hy'
    · rw [e1, e2]
    · have := hb y hy'; rw [ahH_iff] at this; subst e1; omega
    · have := hb x hx'; rw [ahH_iff] at this; subst e2; omega
    · exact ih h.of_cons hx' hy'
theorem lots_mem {cs : List Hc} (h : SoH cs) {x : Hc} (hx : x ∈ cs) : lotsH cs x.ac x.cl = x.L := by
  unfold lotsH
  cases hf : cs.find? (unH x.ac x.cl) with
  | none => have := List.find?_eq_none.1 hf x hx; rw [(unH_iff _ _ _).2 ⟨rfl, rfl⟩] at this; exact absurd rfl this
  | some y =>
    obtain ⟨h1, h2⟩ := (unH_iff _ _ _).1 (List.find?_some hf)
    rw [key_one h hx (List.mem_of_find?_eq_some hf) h1.symm h2.symm]; rfl
theorem lots_cases (cs : List Hc) (a c : Int) : (lotsH cs a c = [] ∧ ∀ x ∈ cs, unH a c x = false) ∨ (∃ x ∈ cs, x.ac = a ∧ x.cl = c ∧ lotsH cs a c = x.L) := by
  unfold lotsH
  cases hf : cs.find? (unH a c) with
  | none => exact .inl ⟨rfl, fun x hx => by simpa using List.find?_eq_none.1 hf x hx⟩
  | some y =>
    obtain ⟨h1, h2⟩ := (unH_iff _ _ _).1 (List.find?_some hf)
    exact .inr ⟨y, List.mem_of_find?_eq_some hf, h1, h2, rfl⟩
theorem lots_in6 {cs : List Hc} (h : ∀ g ∈ cs, ∀ y ∈ g.L, In64 y.qty) (a c : Int) : ∀ y ∈ lotsH cs a c, In64 y.qty := by
  rcases lots_cases cs a c with ⟨e, _⟩ | ⟨x, hx, _, _, e⟩
  · rw [e]; intro y hy; cases hy
  · rw [e]; exact h x hx
theorem lotsH_len {cs : List Hc} {n : Nat} (h : ∀ g ∈ cs, g.L.length ≤ n) (a c : Int) : (lotsH cs a c).length ≤ n := by
  rcases lots_cases cs a c with ⟨e, _⟩ | ⟨x, hx, _, _, e⟩
  · rw [e]; simp
  · rw [e]; exact h x hx
theorem with_in6 {cs : List Hc} {L : List Lt} (hs : SoH cs) (h : ∀ g ∈ cs, ∀ y ∈ g.L, In64 y.qty) (hL : ∀ y ∈ L, In64 y.qty) (a c : Int) : ∀ g ∈ withH cs a c L, ∀ y ∈ g.L, In64 y.qty := by
  intro g hg
  rcases (mem_with hs a c L g).1 hg with ⟨_, rfl⟩ | ⟨h3, _⟩
  · exact hL
  · exact h g h3
theorem with_len {cs : List Hc} (a c : Int) (L : List Lt) : (withH cs a c L).length ≤ cs.length + 1 := by
  unfold withH
  split
  · exact Nat.le_succ_of_le (List.length_filter_le _ _)
  · exact length_putR _ _
theorem with_cut (a c : Int) (L : List Lt) : ∀ (cs : List Hc) (k : Nat), SoH cs → k ≤ cs.length → (∀ j, (hj : j < cs.length) → j < k → ahH cs[j] ⟨a, c, L⟩ = true) → (∀ hk : k < cs.length, ahH cs[k] ⟨a, c, L⟩ = false) →
    withH cs a c L = cs.take k ++ (if L = [] then [] else [⟨a, c, L⟩]) ++ cs.drop (if h : k < cs.length then (if unH a c cs[k] = true then k + 1 else k) else k)
  | [], k, _, hk, _, _ => by
    obtain rfl : k = 0 := by simpa using hk
    unfold withH
    by_cases hL : L = [] <;> simp [hL, putR]
  | b :: r, 0, hs, _, _, h0 => by
    have h0 := h0 (by simp)
    have hb : ∀ z ∈ r, ahH b z = true := (List.pairwise_cons.1 hs).1
    simp only [List.getElem_cons_zero, List.length_cons, Nat.zero_lt_succ, dite_true, List.take_zero, List.nil_append] at h0 ⊢
    by_cases hu : unH a c b = true
    · rw [if_pos hu]
      obtain ⟨rfl, rfl⟩ := (unH_iff _ _ _).1 hu
      have hr : ∀ z ∈ r, unH b.ac b.cl z = false := by
        intro z hz
        have := hb z hz
        rw [unH_no]; rw [ahH_iff] at this; omega
      have hx : ahH ⟨b.ac, b.cl, L⟩ b = false := by rw [← Bool.not_eq_true, ahH_iff]; simp only; omega
      unfold withH
      by_cases hL : L = []
      · rw [if_pos hL, if_pos hL, List.filter_cons_of_neg (by simp [hu]), List.filter_eq_self.2 (fun z hz => by simp [hr z hz])]
        simp
      · rw [if_neg hL, if_neg hL, putR, h0, hx]; simp
    · rw [if_neg hu]
      have hu : unH a c b = false := by simpa using hu
      have hx : ahH ⟨a, c, L⟩ b = true := by
        rw [unH_no] at hu
        rw [← Bool.not_eq_true, ahH_iff] at h0
        rw [ahH_iff]; simp only at h0 ⊢; omega
      have hr : ∀ z ∈ b :: r, unH a c z = false := by
        intro z hz
        have hz : ahH ⟨a, c, L⟩ z = true := by
          rcases List.mem_cons.1 hz with rfl | hz
          · exact hx
          · exact ordH.tr _ _ _ hx (hb z hz)
        rw [unH_no]; rw [ahH_iff] at hz; simp only at hz; omega
      unfold withH
      by_cases hL : L = []
      · rw [if_pos hL, if_pos hL, List.filter_eq_self.2 (fun z hz => by simp [hr z hz])]
        simp
      · rw [if_neg hL, if_neg hL, putR, h0, hx]; simp
  | b :: r, k + 1, hs, hk, hup, hlow => by
    have hb : ahH b ⟨a, c, L⟩ = true := hup 0 (Nat.zero_lt_succ _) (Nat.zero_lt_succ _)
    have ih := with_cut a c L r k hs.of_cons (by simpa using hk) (fun j hj hjk => hup (j + 1) (Nat.succ_lt_succ hj) (Nat.succ_lt_succ hjk)) (fun hk => hlow (Nat.succ_lt_succ hk))
    have hu : unH a c b = false := by rw [unH_no]; rw [ahH_iff] at hb; simp only at hb; omega
    have e : withH (b :: r) a c L = b :: withH r a c L := by
      unfold withH
      by_cases hL : L = []
      · rw [if_pos hL, if_pos hL, List.filter_cons_of_pos (by simp [hu])]
      · rw [if_neg hL, if_neg hL, putR, hb]; simp
    rw [e, ih]
    by_cases hlt : k < r.length
    · rw [dif_pos hlt, dif_pos (by simpa using hlt)]
      have e2 : (b :: r)[k + 1]'(Nat.succ_lt_succ hlt) = r[k] := rfl
      rw [e2]
      by_cases hu2 : unH a c r[k] = true <;> simp [hu2]
    · rw [dif_neg hlt, dif_neg (by simpa using hlt)]
      simp
theorem own_lower {w : World} {B B' e size n : Nat} {v : Value} {xs : List Value} (h : w.ownsRow B e size v n xs) (hb : B' ≤ B) : w.ownsRow B' e size v n xs := by
  obtain ⟨h0, h⟩ := h
  refine ⟨h0, ?_⟩
  rcases h with h | ⟨g, cap, cur, h1, h2, h⟩
  · exact .inl h
  · exact .inr ⟨g, cap, cur, h1, Nat.le_trans hb h2, h⟩
end Go.Proofs.YtmjndpkfhdoljaaGreat.Hq
end
