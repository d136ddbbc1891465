import Derived.Test.YtmjndpkfhdoljaaGreatCm13
import Derived.Test.YtmjndpkfhdoljaaGreatCm05
import Derived.Test.YtmjndpkfhdoljaaGreatCm06
set_option maxHeartbeats 16000000
set_option maxRecDepth 100000
set_option linter.unusedVariables false
set_option linter.unusedSimpArgs false
namespace Go.Proofs.YtmjndpkfhdoljaaGreat
open Go.ChangeShapes Go.WideShapes Go.ChangeAt Go.RowKit
section
theorem ELgL : Elem Tryz.prog 157 93 1 24 := Elem.mk' (z := .slice none 0 0) (by kernel_rfl) (by kernel_rfl) (by decide) (by decide)
theorem sumG_map (S : List (RowS Lg)) (i j : Nat) : sumG S i j = (((S.map RowS.l).take i).map fun l => getG l ((j : Int) + 1)).sum := by
  unfold sumG
  rw [← List.map_take, List.map_map]; rfl
theorem addR_eq {S U : List (RowS Lg)} (h : S.map RowS.l = U.map RowS.l) : addR S = addR U := by
  have hl : S.length = U.length := by have := congrArg List.length h; simpa using this
  have h1 : (∀ s ∈ S, isG s.l = true) ↔ ∀ s ∈ U, isG s.l = true := by
    have e : ∀ X : List (RowS Lg), (∀ s ∈ X, isG s.l = true) ↔ ∀ l ∈ X.map RowS.l, isG l = true := fun X => by
      constructor
      · intro hx l hl
        obtain ⟨s, hs, rfl⟩ := List.mem_map.1 hl
        exact hx s hs
      · intro hx s hs
        exact hx _ (List.mem_map.2 ⟨s, hs, rfl⟩)
    rw [e, e, h]
  have h2 : ((List.range 8).map fun j : Nat => sumG S S.length j) = (List.range 8).map fun j : Nat => sumG U U.length j := List.map_congr_left fun j _ => by rw [sumG_map, sumG_map, h, hl]
  unfold addR
  rw [h2]
  by_cases hs : ∀ s ∈ S, isG s.l = true
  · rw [if_pos hs, if_pos (h1.1 hs)]
  · rw [if_neg hs, if_neg (fun h => hs (h1.2 h))]
noncomputable def addL (L : List (List Lg)) : Int × List Lg := addR (L.map fun l => ⟨none, 0, l⟩)
theorem addR_L (S : List (RowS Lg)) : addR S = addL (S.map RowS.l) := addR_eq (by simp [List.map_map, Function.comp])
theorem addR_len (S : List (RowS Lg)) : (addR S).2.length ≤ 8 := by
  unfold addR
  split
  · unfold ofR
    split
    · have := legsF_len 1 ((List.range 8).map fun j : Nat => sumG S S.length j)
      simpa using this
    · simp
  · simp
end
section
def ahH (x y : Pc) : Bool := keyLt x.ac x.cl y.ac y.cl
theorem ordH : Ord ahH := ord_key Pc.ac Pc.cl
theorem ahH_iff (x y : Pc) : ahH x y = true ↔ x.ac < y.ac ∨ x.ac = y.ac ∧ x.cl < y.cl := keyLt_iff _ _ _ _
def ahHd (x y : Po) : Bool := keyLt x.ac x.cl y.ac y.cl
def unH (a c : Int) (x : Pc) : Bool := x.ac == a && x.cl == c
def unHd (a c : Int) (x : Po) : Bool := x.ac == a && x.cl == c
theorem unH_iff (a c : Int) (x : Pc) : unH a c x = true ↔ x.ac = a ∧ x.cl = c := by simp [unH]
theorem unH_no (a c : Int) (x : Pc) : unH a c x = false ↔ ¬ (x.ac = a ∧ x.cl = c) := by rw [← unH_iff]; simp
theorem ah_is {w : World} (g : Po) (c : Pc) (g' : Po) (c' : Pc) (h : PoIs w g c) (h' : PoIs w g' c') : ahHd g g' = ahH c c' := by
  unfold ahHd ahH; rw [h.ac, h.cl, h'.ac, h'.cl]
theorem un_is {w : World} (a k : Int) (g : Po) (c : Pc) (h : PoIs w g c) : unHd a k g = unH a k c := by
  unfold unHd unH; rw [h.ac, h.cl]
def okH (x : Pc) : Bool := !(x.L.length == 0) && isG x.L
def isH (cs : List Pc) : Bool := cs.all okH && risingL ahH cs
def lotsH (cs : List Pc) (a c : Int) : List Lg := ((cs.find? (unH a c)).map Pc.L).getD []
def withH (cs : List Pc) (a c : Int) (L : List Lg) : List Pc := if L = [] then cs.filter (fun g => !unH a c g) else putR ahH cs ⟨a, c, L⟩
def chgHR (how : List Lg → Int × List Lg) (cs : List Pc) (a c : Int) : Int × List Pc :=
  if isH cs = false then (3, []) else if (how (lotsH cs a c)).1 ≠ 0 then ((how (lotsH cs a c)).1, []) else (0, withH cs a c (how (lotsH cs a c)).2)
def CapH (A : Option Addr) (n cap : Nat) : Prop := (A = none ∧ n = 0 ∧ cap = 0) ∨ (∃ b, A = some ⟨b, 0, none⟩ ∧ n ≤ cap ∧ cap ≤ maxLen)
theorem CapH.of_own {w : World} {B e s n c : Nat} {A : Option Addr} {xs : List Value} (h : w.ownsRow B e s (.slice A n c) n xs) : CapH A n c := by
  rcases h.2 with ⟨hv, h0⟩ | ⟨g, cap, cur, hv, hg, hh, hnc, hcm, _⟩
  · injection hv with e1 e2 e3; exact .inl ⟨e1, h0, e3⟩
  · injection hv with e1 e2 e3; subst e3; exact .inr ⟨g, e1, hnc, hcm⟩
def HRow (w' : World) (e : Ending) (R : List Pc) : Prop :=
  ∃ (l : List Po) (A' : Option Addr) (c' : Nat), e = .returned (.slice A' l.length c') ∧ Sl w' A' (rc Po.cells l) ∧ PoTab w' l R ∧ CapH A' l.length c'
def HRes (w' : World) (e : Ending) (R : Int × List Pc) : Prop :=
  ∃ (l : List Po) (A' : Option Addr) (c' : Nat), e = .returned (.tuple #[.slice A' l.length c', .int .i64 R.1]) ∧ Sl w' A' (rc Po.cells l) ∧ PoTab w' l R.2 ∧ CapH A' l.length c'
theorem HRes.nil (w' : World) (n : Int) : HRes w' (.returned (.tuple #[.slice none 0 0, .int .i64 n])) (n, []) := ⟨[], none, 0, rfl, Sl.nil, PoTab.nil _, .inl ⟨rfl, rfl, rfl⟩⟩
abbrev SoH (cs : List Pc) : Prop := cs.Pairwise (fun a b => ahH a b = true)
theorem isH_iff (cs : List Pc) : isH cs = true ↔ (∀ x ∈ cs, okH x = true) ∧ SoH cs := by
  unfold isH
  rw [Bool.and_eq_true, List.all_eq_true, rising_pairwise ordH]
theorem isH_sorted {cs : List Pc} (h : isH cs = true) : SoH cs := ((isH_iff cs).1 h).2
theorem isH_bad {cs : List Pc} {k : Nat} (h : k < cs.length) (hb : okH cs[k] = false) : isH cs = false := by
  rw [← Bool.not_eq_true]
  intro hi
  have := ((isH_iff cs).1 hi).1 _ (List.getElem_mem h)
  rw [hb] at this; cases this
theorem isH_low {cs : List Pc} {j : Nat} (h : j + 1 < cs.length) (hb : ahH (cs[j]'(Nat.lt_of_succ_lt h)) cs[j + 1] = false) : isH cs = false := by
  rw [← Bool.not_eq_true]
  intro hi
  have := List.pairwise_iff_getElem.1 (isH_sorted hi) j (j + 1) (by omega) h (by omega)
  rw [this] at hb; cases hb
theorem isH_end {cs : List Pc} (h1 : ∀ j, (hj : j < cs.length) → okH cs[j] = true) : isH cs = risingL ahH cs := by
  have : cs.all okH = true := by
    rw [List.all_eq_true]
    intro x hx
    obtain ⟨j, hj, rfl⟩ := List.getElem_of_mem hx
    exact h1 j hj
  unfold isH
  rw [this, Bool.true_and]
theorem okH_zero {x : Pc} (h : x.L.length = 0) : okH x = false := by
  unfold okH; rw [h]; rfl
theorem okH_some {x : Pc} (h : x.L.length ≠ 0) : okH x = isG x.L := by
  have : (x.L.length == 0) = false := by simpa using h
  unfold okH; rw [this]; rfl
theorem mem_putH {cs : List Pc} (h : SoH cs) (a c : Int) (L : List Lg) (y : Pc) : y ∈ putR ahH cs ⟨a, c, L⟩ ↔ y = ⟨a, c, L⟩ ∨ (y ∈ cs ∧ unH a c y = false) := by
  induction cs with
  | nil => simp [putR]
  | cons b r ih =>
    have ih := ih h.of_cons
    have hb : ∀ z ∈ r, ahH b z = true := (List.pairwise_cons.1 h).1
    unfold putR
    split
    · rename_i h1
      have hn : unH a c b = false := by rw [unH_no]; rw [ahH_iff] at h1; simp only at h1; omega
      rw [List.mem_cons, List.mem_cons, ih]
      constructor
      · rintro (rfl | h | h)
        · exact .inr ⟨.inl rfl, hn⟩
        · exact .inl h
        · exact .inr ⟨.inr h.1, h.2⟩
      · rintro (h | ⟨h | h, h2⟩)
        · exact .inr (.inl h)
        · exact .inl h
        · exact .inr (.inr ⟨h, h2⟩)
    · rename_i h1
      split
      · rename_i h2
        have hall : ∀ z ∈ b :: r, unH a c z = false := by
          intro z hz
          have hxz : ahH ⟨a, c, L⟩ z = true := by
            rcases List.mem_cons.1 hz with rfl | hz
            · exact h2
            · exact ordH.tr _ _ _ h2 (hb z hz)
          rw [unH_no]; rw [ahH_iff] at hxz; simp only at hxz; omega
        rw [List.mem_cons]
        exact ⟨fun h => h.imp id fun h => ⟨h, hall y h⟩, fun h => h.imp id fun h => h.1⟩
      · rename_i h2
        rw [ahH_iff] at h1 h2
        simp only at h1 h2
        have hbu : unH a c b = true := by rw [unH_iff]; omega
        have hr : ∀ z ∈ r, unH a c z = false := by
          intro z hz
          have := hb z hz
          rw [unH_no]; rw [unH_iff] at hbu; rw [ahH_iff] at this; omega
        rw [List.mem_cons, List.mem_cons]
        constructor
        · rintro (h | h)
          · exact .inl h
          · exact .inr ⟨.inr h, hr y h⟩
        · rintro (h | ⟨rfl | h, h3⟩)
          · exact .inl h
          · rw [hbu] at h3; cases h3
          · exact .inr h
theorem mem_with {cs : List Pc} (h : SoH cs) (a c : Int) (L : List Lg) (y : Pc) : y ∈ withH cs a c L ↔ (L ≠ [] ∧ y = ⟨a, c, L⟩) ∨ (y ∈ cs ∧ unH a c y = false) := by
  unfold withH
  split
  · rename_i hL
    rw [List.mem_filter]
    simp [hL]
  · rename_i hL
    rw [mem_putH h]
    simp [hL]
theorem with_sorted {cs : List Pc} (h : SoH cs) (a c : Int) (L : List Lg) : SoH (withH cs a c L) := by
  unfold withH
  split
  · exact h.filter _
  · exact pairwise_putR ordH _ _ h
theorem key_one {cs : List Pc} (h : SoH cs) {x y : Pc} (hx : x ∈ cs) (hy : y ∈ cs) (h1 : x.ac = y.ac) (h2 : x.cl = y.cl) : x = y := by
  induction cs with
  | nil => cases hx
  | cons b r ih =>
    have hb : ∀ z ∈ r, ahH b z = true := (List.pairwise_cons.1 h).1
    rcases List.mem_cons.1 hx with e1 | hx' <;> rcases List.mem_cons.1 hy with e2 | hy'
    · rw [e1, e2]
    · have := hb y hy'; rw [ahH_iff] at this; subst e1; omega
    · have := hb x hx'; rw [ahH_iff] at this; subst e2; omega
    · exact ih h.of_cons hx' hy'
theorem lots_mem {cs : List Pc} (h : SoH cs) {x : Pc} (hx : x ∈ cs) : lotsH cs x.ac x.cl = x.L := by
  unfold lotsH
  cases hf : cs.find? (unH x.ac x.cl) with
  | none => have := List.find?_eq_none.1 hf x hx; rw [(unH_iff _ _ _).2 ⟨rfl, rfl⟩] at this; exact absurd rfl this
  | some y =>
    obtain ⟨h1, h2⟩ := (unH_iff _ _ _).1 (List.find?_some hf)
    rw [key_one h hx (List.mem_of_find?_eq_some hf) h1.symm h2.symm]; rfl
theorem lots_cases (cs : List Pc) (a c : Int) : (lotsH cs a c = [] ∧ ∀ x ∈ cs, unH a c x = false) ∨ (∃ x ∈ cs, x.ac = a ∧ x.cl = c ∧ lotsH cs a c = x.L) := by
  unfold lotsH
  cases hf : cs.find? (unH a c) with
  | none => exact .inl ⟨rfl, fun x hx => by simpa using List.find?_eq_none.1 hf x hx⟩
  | some y =>
    obtain ⟨h1, h2⟩ := (unH_iff _ _ _).1 (List.find?_some hf)
    exact .inr ⟨y, List.mem_of_find?_eq_some hf, h1, h2, rfl⟩
theorem lots_in6 {cs : List Pc} (h : ∀ g ∈ cs, ∀ y ∈ g.L, In64 y.qty) (a c : Int) : ∀ y ∈ lotsH cs a c, In64 y.qty := by
  rcases lots_cases cs a c with ⟨e, _⟩ | ⟨x, hx, _, _, e⟩
  · rw [e]; intro y hy; cases hy
  · rw [e]; exact h x hx
theorem lotsH_len {cs : List Pc} {n : Nat} (h : ∀ g ∈ cs, g.L.length ≤ n) (a c : Int) : (lotsH cs a c).length ≤ n := by
  rcases lots_cases cs a c with ⟨e, _⟩ | ⟨x, hx, _, _, e⟩
  · rw [e]; simp
  · rw [e]; exact h x hx
theorem with_in6 {cs : List Pc} {L : List Lg} (hs : SoH cs) (h : ∀ g ∈ cs, ∀ y ∈ g.L, In64 y.qty) (hL : ∀ y ∈ L, In64 y.qty) (a c : Int) : ∀ g ∈ withH cs a c L, ∀ y ∈ g.L, In64 y.qty := by
  intro g hg
  rcases (mem_with hs a c L g).1 hg with ⟨_, rfl⟩ | ⟨h3, _⟩
  · exact hL
  · exact h g h3
theorem with_len {cs : List Pc} (a c : Int) (L : List Lg) : (withH cs a c L).length ≤ cs.length + 1 := by
  unfold withH
  split
  · exact Nat.le_succ_of_le (List.length_filter_le _ _)
  · exact length_putR _ _
theorem own_lower {w : World} {B B' e size n : Nat} {v : Value} {xs : List Value} (h : w.ownsRow B e size v n xs) (hb : B' ≤ B) : w.ownsRow B' e size v n xs := by
  obtain ⟨h0, h⟩ := h
  refine ⟨h0, ?_⟩
  rcases h with h | ⟨g, cap, cur, h1, h2, h⟩
  · exact .inl h
  · exact .inr ⟨g, cap, cur, h1, Nat.le_trans hb h2, h⟩
end
end Go.Proofs.YtmjndpkfhdoljaaGreat
