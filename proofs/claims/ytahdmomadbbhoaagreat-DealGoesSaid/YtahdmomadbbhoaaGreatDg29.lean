import Derived.Deep.RegionLaw
import Derived.Lib.SliceRun
import Derived.Test.YtahdmomadbbhoaaGreatDg02
import Derived.Test.YtahdmomadbbhoaaGreatDg03
import Derived.Test.YtahdmomadbbhoaaGreatDg04
import Derived.Test.YtahdmomadbbhoaaGreatDg28
import Derived.Test.YtahdmomadbbhoaaGreatDg23
import Derived.Test.YtahdmomadbbhoaaGreatDg27
section
namespace Go.Proofs.YtahdmomadbbhoaaGreat
open Go.ChangeShapes Go.WideShapes Go.ChangeAt Go.RowKit
set_option linter.unusedVariables false
set_option linter.unusedSimpArgs false

structure Un where
  (ac : Int) (cl : Int)
deriving DecidableEq
def Un.cells (g : Un) : List Value := [.int .i64 g.ac, .int .i64 g.cl]
def Un.val (g : Un) : Value := .agg #[.int .i64 g.ac, .int .i64 g.cl]
def Un.zero : Un := ⟨0, 0⟩
theorem Un.len (g : Un) : g.cells.length = 2 := rfl
theorem Un.one (g : Un) : ∀ u ∈ g.cells, u.oneCell' = true := by
  intro u hu
  simp only [Un.cells, List.mem_cons, List.not_mem_nil, or_false] at hu
  rcases hu with h | h <;> subst h <;> rfl
def Un.at (g : Un) (w : World) (b o : Nat) : Prop :=
  w.cell? ⟨b, o, none⟩ = some (.int .i64 g.ac) ∧ w.cell? ⟨b, o + 1, none⟩ = some (.int .i64 g.cl)
theorem Un.at_of {w : World} {b o : Nat} {g : Un} (h : ∀ j u, g.cells[j]? = some u → w.cell? ⟨b, o + j, none⟩ = some u) : g.at w b o :=
  ⟨h 0 _ rfl, h 1 _ rfl⟩
theorem Un.at_keep {w w' : World} {b o : Nat} {g : Un} (h : g.at w b o) (k : ∀ i, w'.cell? ⟨b, i, none⟩ = w.cell? ⟨b, i, none⟩) : g.at w' b o := by
  unfold Un.at at *
  simp only [k]
  exact h
theorem Sl.un {w : World} {A : Option Addr} {l : List Un} (h : Sl w A (rc Un.cells l)) {k : Nat} (hk : k < l.length) : ∃ b o, A = some ⟨b, o, none⟩ ∧ b < w.heap.size ∧ l[k].at w b (o + k * 2) := by
  obtain ⟨b, o, hA, hb, hc⟩ := Sl.elem (m := 2) Un.len (by decide) h hk
  exact ⟨b, o, hA, hb, Un.at_of hc⟩
theorem EUn : Elem Tryz.prog 121 28 2 16 := Elem.mk' (z := .agg #[.int .i64 0, .int .i64 0]) (by kernel_rfl) (by kernel_rfl) (by decide) (by decide)
def Un.Tells (F : Nat) (caps : Array Value) (p : Un → Bool) (B : Nat) (w : World) : Prop :=
  ∀ (g : Un) (W : World), Below B w W → Calls Tryz.prog F (#[g.val] ++ caps) W fun e w' => e = .returned (.bool (p g)) ∧ Below W.heap.size W w'
theorem Un.Tells.below {F : Nat} {caps : Array Value} {p : Un → Bool} {B : Nat} {w w1 : World} (h : Un.Tells F caps p B w) (hb : Below B w w1) {C : Nat} (hC : B ≤ C) : Un.Tells F caps p C w1 :=
  fun g W hW => h g W (hb.trans (hW.mono hC))
end Go.Proofs.YtahdmomadbbhoaaGreat
end
section
namespace Go.Proofs.YtahdmomadbbhoaaGreat
open Go.ChangeShapes Go.WideShapes Go.ChangeAt Go.RowKit
set_option linter.unusedVariables false
set_option linter.unusedSimpArgs false

def keyLt (a c a' c' : Int) : Bool := decide (a < a' ∨ a = a' ∧ c < c')
theorem keyLt_iff (a c a' c' : Int) : keyLt a c a' c' = true ↔ a < a' ∨ a = a' ∧ c < c' := by simp [keyLt]
theorem keyLt_not (a c a' c' : Int) : keyLt a c a' c' = false ↔ ¬ (a < a' ∨ a = a' ∧ c < c') := by rw [← keyLt_iff]; simp
theorem bext {a b : Bool} (h : a = true ↔ b = true) : a = b := by cases a <;> cases b <;> simp_all
theorem ord_key {α : Type} (f g : α → Int) : Ord (fun x y : α => keyLt (f x) (g x) (f y) (g y)) where
  tr := fun a b c h1 h2 => by simp only [keyLt_iff] at *; omega
  asy := fun a b h => by simp only [keyLt_iff, keyLt_not] at *; omega
  cong := fun a x b h1 h2 => bext (by simp only [keyLt_iff, keyLt_not] at *; omega)
  cong2 := fun a x b h1 h2 => bext (by simp only [keyLt_iff, keyLt_not] at *; omega)
def ahF (x y : Fw) : Bool := keyLt x.ac x.cl y.ac y.cl
theorem ordF : Ord ahF := ord_key Fw.ac Fw.cl
def ahUn (x y : Un) : Bool := keyLt x.ac x.cl y.ac y.cl
theorem ordUn : Ord ahUn := ord_key Un.ac Un.cl
def unF (a c : Int) (x : Fw) : Bool := x.ac == a && x.cl == c
theorem unF_iff (a c : Int) (x : Fw) : unF a c x = true ↔ x.ac = a ∧ x.cl = c := by simp [unF]
def isF (l : List Fw) : Bool := l.all (fun x => x.amt != 0) && risingL ahF l
def getF (l : List Fw) (a c : Int) : Int := (pickL (unF a c) Fw.zero l).amt
def sumU (l : List Fw) (a c : Int) : Int := ((l.filter (unF a c)).map Fw.amt).sum
def unitsU (l : List Fw) : List Un := l.foldl (fun us x => putR ahUn us ⟨x.ac, x.cl⟩) []
def purseOf (all : List Fw) : List Fw := ((unitsU all).map fun u => (⟨u.ac, u.cl, sumU all u.ac u.cl⟩ : Fw)).filter fun x => x.amt != 0
def fitI (z : Int) : Bool := decide (-9223372036854775808 ≤ z) && decide (z ≤ 9223372036854775807)
theorem fitI_iff (z : Int) : fitI z = true ↔ In64 z := by simp [fitI, In64]
def fitsU (all : List Fw) : Bool := (unitsU all).all fun u => fitI (sumU all u.ac u.cl)
def payR (l fs : List Fw) : Int × List Fw := if isF l = false then (3, []) else if fitsU (l ++ fs) = false then (7, []) else (0, purseOf (l ++ fs))
theorem sorted_ext {α : Type} {ah : α → α → Bool} (o : Ord ah) : ∀ (A B : List α), A.Pairwise (fun a b => ah a b = true) → B.Pairwise (fun a b => ah a b = true) → (∀ x, x ∈ A ↔ x ∈ B) → A = B
  | [], [], _, _, _ => rfl
  | [], b :: B, _, _, h => by have := (h b).2 (by simp); cases this
  | a :: A, [], _, _, h => by have := (h a).1 (by simp); cases this
  | a :: A, b :: B, hA, hB, h => by
    have irr : ∀ x, ah x x = false := fun x => by
      cases e : ah x x with
      | false => rfl
      | true => have := o.asy _ _ e; rw [e] at this; cases this
    have e : a = b := by
      rcases List.mem_cons.1 ((h a).1 (by simp)) with e | h1
      · exact e
      · rcases List.mem_cons.1 ((h b).2 (by simp)) with e | h2
        · exact e.symm
        · have h3 := List.rel_of_pairwise_cons hA h2
          have h4 := List.rel_of_pairwise_cons hB h1
          rw [o.asy _ _ h3] at h4; cases h4
    subst e
    have hx : ∀ x, x ∈ A ↔ x ∈ B := fun x => by
      constructor
      · intro hx
        rcases List.mem_cons.1 ((h x).1 (by simp [hx])) with e | h1
        · subst e
          have := List.rel_of_pairwise_cons hA hx
          rw [irr] at this; cases this
        · exact h1
      · intro hx
        rcases List.mem_cons.1 ((h x).2 (by simp [hx])) with e | h1
        · subst e
          have := List.rel_of_pairwise_cons hB hx
          rw [irr] at this; cases this
        · exact h1
    rw [sorted_ext o A B hA.of_cons hB.of_cons hx]
theorem mem_putUn (u : Un) : ∀ (us : List Un) (v : Un), v ∈ putR ahUn us u ↔ v = u ∨ v ∈ us
  | [], v => by simp [putR]
  | a :: r, v => by
    have ih := mem_putUn u r v
    unfold putR
    split
    · simp only [List.mem_cons, ih]
      constructor
      · rintro (h | h | h) <;> simp [h]
      · rintro (h | h | h) <;> simp [h]
    · split
      · simp
      · rename_i h1 h2
        have e : a = u := by
          simp only [ahUn, Bool.not_eq_true, keyLt_not] at h1 h2
          cases a; cases u
          simp only [Un.mk.injEq] at *
          omega
        subst e
        simp
theorem fold_units (l : List Fw) : ∀ us : List Un, us.Pairwise (fun a b => ahUn a b = true) → (l.foldl (fun us x => putR ahUn us ⟨x.ac, x.cl⟩) us).Pairwise (fun a b => ahUn a b = true) ∧ ∀ u, u ∈ l.foldl (fun us x => putR ahUn us ⟨x.ac, x.cl⟩) us ↔ u ∈ us ∨ ∃ x ∈ l, x.ac = u.ac ∧ x.cl = u.cl := by
  induction l with
  | nil => intro us h; exact ⟨h, fun u => by simp⟩
  | cons a r ih =>
    intro us h
    obtain ⟨h1, h2⟩ := ih _ (pairwise_putR ordUn ⟨a.ac, a.cl⟩ us h)
    refine ⟨h1, fun u => ?_⟩
    rw [List.foldl_cons, h2, mem_putUn]
    constructor
    · rintro ((h | h) | ⟨x, hx, hu⟩)
      · subst h; exact .inr ⟨a, by simp, rfl, rfl⟩
      · exact .inl h
      · exact .inr ⟨x, by simp [hx], hu⟩
    · rintro (h | ⟨x, hx, h3, h4⟩)
      · exact .inl (.inr h)
      · rcases List.mem_cons.1 hx with rfl | hx
        · exact .inl (.inl (by cases u; simp only at h3 h4; rw [h3, h4]))
        · exact .inr ⟨x, hx, h3, h4⟩
theorem unitsU_sorted (l : List Fw) : (unitsU l).Pairwise (fun a b => ahUn a b = true) := (fold_units l [] List.Pairwise.nil).1
theorem mem_unitsU (l : List Fw) (u : Un) : u ∈ unitsU l ↔ ∃ x ∈ l, x.ac = u.ac ∧ x.cl = u.cl := by
  have := (fold_units l [] List.Pairwise.nil).2 u
  simpa [unitsU] using this
theorem purseOf_sorted (all : List Fw) : (purseOf all).Pairwise (fun a b => ahF a b = true) := by
  unfold purseOf
  refine List.Pairwise.filter _ ?_
  rw [List.pairwise_map]
  exact (unitsU_sorted all).imp fun h => h
theorem mem_purseOf (all : List Fw) (x : Fw) : x ∈ purseOf all ↔ (∃ y ∈ all, y.ac = x.ac ∧ y.cl = x.cl) ∧ x.amt = sumU all x.ac x.cl ∧ x.amt ≠ 0 := by
  unfold purseOf
  rw [List.mem_filter, List.mem_map]
  constructor
  · rintro ⟨⟨u, hu, rfl⟩, h⟩
    exact ⟨(mem_unitsU all u).1 hu, rfl, by simpa using h⟩
  · rintro ⟨h1, h2, h3⟩
    refine ⟨⟨⟨x.ac, x.cl⟩, (mem_unitsU all _).2 h1, ?_⟩, by simpa using h3⟩
    cases x
    simp only at h2 ⊢
    rw [← h2]
theorem isF_sorted {l : List Fw} (h : isF l = true) : l.Pairwise (fun a b => ahF a b = true) := by
  simp only [isF, Bool.and_eq_true] at h
  exact (rising_pairwise ordF l).1 h.2
theorem isF_amt {l : List Fw} (h : isF l = true) : ∀ x ∈ l, x.amt ≠ 0 := by
  simp only [isF, Bool.and_eq_true, List.all_eq_true] at h
  intro x hx
  simpa using h.1 x hx
theorem isF_of {l : List Fw} (h1 : l.Pairwise (fun a b => ahF a b = true)) (h2 : ∀ x ∈ l, x.amt ≠ 0) : isF l = true := by
  simp only [isF, Bool.and_eq_true, List.all_eq_true]
  exact ⟨fun x hx => by simpa using h2 x hx, (rising_pairwise ordF l).2 h1⟩
theorem purse_unique {all out : List Fw} (h1 : out.Pairwise (fun a b => ahF a b = true)) (h2 : ∀ x, x ∈ out ↔ (∃ y ∈ all, y.ac = x.ac ∧ y.cl = x.cl) ∧ x.amt = sumU all x.ac x.cl ∧ x.amt ≠ 0) : out = purseOf all :=
  sorted_ext ordF _ _ h1 (purseOf_sorted all) fun x => by rw [h2, mem_purseOf]
theorem sumU_cons (x : Fw) (l : List Fw) (a c : Int) : sumU (x :: l) a c = (if unF a c x = true then x.amt else 0) + sumU l a c := by
  unfold sumU
  rw [List.filter_cons]
  split <;> simp
theorem sumU_append (l m : List Fw) (a c : Int) : sumU (l ++ m) a c = sumU l a c + sumU m a c := by
  simp [sumU]
end Go.Proofs.YtahdmomadbbhoaaGreat
end
section
namespace Go.Proofs.YtahdmomadbbhoaaGreat
open Go.ChangeShapes Go.WideShapes Go.ChangeAt Go.RowKit
set_option linter.unusedVariables false
set_option linter.unusedSimpArgs false

def ahH (x y : Pc) : Bool := keyLt x.ac x.cl y.ac y.cl
theorem ordH : Ord ahH := ord_key Pc.ac Pc.cl
theorem ahH_iff (x y : Pc) : ahH x y = true ↔ x.ac < y.ac ∨ x.ac = y.ac ∧ x.cl < y.cl := keyLt_iff _ _ _ _
def ahHd (x y : Po) : Bool := keyLt x.ac x.cl y.ac y.cl
def unH (a c : Int) (x : Pc) : Bool := x.ac == a && x.cl == c
def unHd (a c : Int) (x : Po) : Bool := x.ac == a && x.cl == c
theorem unH_iff (a c : Int) (x : Pc) : unH a c x = true ↔ x.ac = a ∧ x.cl = c := by simp [unH]
theorem unH_no (a c : Int) (x : Pc) : unH a c x = false ↔ ¬ (x.ac = a ∧ x.cl = c) := by rw [← unH_iff]; simp
theorem ah_is {w : World} (g : Po) (c : Pc) (g' : Po) (c' : Pc) (h : PoIs w g c) (h' : PoIs w g' c') : ahHd g g' = ahH c c' := by
  unfold ahHd ahH; rw [h.ac, h.cl, h'.ac, h'.cl]
theorem un_is {w : World} (a k : Int) (g : Po) (c : Pc) (h : PoIs w g c) : unHd a k g = unH a k c := by
  unfold unHd unH; rw [h.ac, h.cl]
def okH (x : Pc) : Bool := !(x.L.length == 0) && isG x.L
def isH (cs : List Pc) : Bool := cs.all okH && risingL ahH cs
def lotsH (cs : List Pc) (a c : Int) : List Lg := ((cs.find? (unH a c)).map Pc.L).getD []
def withH (cs : List Pc) (a c : Int) (L : List Lg) : List Pc := if L = [] then cs.filter (fun g => !unH a c g) else putR ahH cs ⟨a, c, L⟩
def chgHR (how : List Lg → Int × List Lg) (cs : List Pc) (a c : Int) : Int × List Pc :=
  if isH cs = false then (3, []) else if (how (lotsH cs a c)).1 ≠ 0 then ((how (lotsH cs a c)).1, []) else (0, withH cs a c (how (lotsH cs a c)).2)
def CapH (A : Option Addr) (n cap : Nat) : Prop := (A = none ∧ n = 0 ∧ cap = 0) ∨ (∃ b, A = some ⟨b, 0, none⟩ ∧ n ≤ cap ∧ cap ≤ maxLen)
theorem CapH.of_own {w : World} {B e s n c : Nat} {A : Option Addr} {xs : List Value} (h : w.ownsRow B e s (.slice A n c) n xs) : CapH A n c := by
  rcases h.2 with ⟨hv, h0⟩ | ⟨g, cap, cur, hv, hg, hh, hnc, hcm, _⟩
  · injection hv with e1 e2 e3; exact .inl ⟨e1, h0, e3⟩
  · injection hv with e1 e2 e3; subst e3; exact .inr ⟨g, e1, hnc, hcm⟩
def HRes (w' : World) (e : Ending) (R : Int × List Pc) : Prop :=
  ∃ (l : List Po) (A' : Option Addr) (c' : Nat), e = .returned (.tuple #[.slice A' l.length c', .int .i64 R.1]) ∧ Sl w' A' (rc Po.cells l) ∧ PoTab w' l R.2 ∧ CapH A' l.length c'
theorem HRes.nil (w' : World) (n : Int) : HRes w' (.returned (.tuple #[.slice none 0 0, .int .i64 n])) (n, []) := ⟨[], none, 0, rfl, Sl.nil, PoTab.nil _, .inl ⟨rfl, rfl, rfl⟩⟩
abbrev SoH (cs : List Pc) : Prop := cs.Pairwise (fun a b => ahH a b = true)
theorem isH_iff (cs : List Pc) : isH cs = true ↔ (∀ x ∈ cs, okH x = true) ∧ SoH cs := by
  unfold isH
  rw [Bool.and_eq_true, List.all_eq_true, rising_pairwise ordH]
theorem isH_sorted {cs : List Pc} (h : isH cs = true) : SoH cs := ((isH_iff cs).1 h).2
theorem isH_bad {cs : List Pc} {k : Nat} (h : k < cs.length) (hb : okH cs[k] = false) : isH cs = false := by
  rw [← Bool.not_eq_true]
  intro hi
  have := ((isH_iff cs).1 hi).1 _ (List.getElem_mem h)
  rw [hb] at this; cases this
theorem isH_low {cs : List Pc} {j : Nat} (h : j + 1 < cs.length) (hb : ahH (cs[j]'(Nat.lt_of_succ_lt h)) cs[j + 1] = false) : isH cs = false := by
  rw [← Bool.not_eq_true]
  intro hi
  have := List.pairwise_iff_getElem.1 (isH_sorted hi) j (j + 1) (by omega) h (by omega)
  rw [this] at hb; cases hb
theorem isH_end {cs : List Pc} (h1 : ∀ j, (hj : j < cs.length) → okH cs[j] = true) : isH cs = risingL ahH cs := by
  have : cs.all okH = true := by
    rw [List.all_eq_true]
    intro x hx
    obtain ⟨j, hj, rfl⟩ := List.getElem_of_mem hx
    exact h1 j hj
  unfold isH
  rw [this, Bool.true_and]
theorem okH_iff (x : Pc) : okH x = true ↔ x.L ≠ [] ∧ isG x.L = true := by
  unfold okH
  simp
theorem okH_zero {x : Pc} (h : x.L.length = 0) : okH x = false := by
  unfold okH; rw [h]; rfl
theorem okH_some {x : Pc} (h : x.L.length ≠ 0) : okH x = isG x.L := by
  have : (x.L.length == 0) = false := by simpa using h
  unfold okH; rw [this]; rfl
theorem mem_putH {cs : List Pc} (h : SoH cs) (a c : Int) (L : List Lg) (y : Pc) : y ∈ putR ahH cs ⟨a, c, L⟩ ↔ y = ⟨a, c, L⟩ ∨ (y ∈ cs ∧ unH a c y = false) := by
  induction cs with
  | nil => simp [putR]
  | cons b r ih =>
    have ih := ih h.of_cons
    have hb : ∀ z ∈ r, ahH b z = true := (List.pairwise_cons.1 h).1
    unfold putR
    split
    · rename_i h1
      have hn : unH a c b = false := by rw [unH_no]; rw [ahH_iff] at h1; simp only at h1; omega
      rw [List.mem_cons, List.mem_cons, ih]
      constructor
      · rintro (rfl | h | h)
        · exact .inr ⟨.inl rfl, hn⟩
        · exact .inl h
        · exact .inr ⟨.inr h.1, h.2⟩
      · rintro (h | ⟨h | h, h2⟩)
        · exact .inr (.inl h)
        · exact .inl h
        · exact .inr (.inr ⟨h, h2⟩)
    · rename_i h1
      split
      · rename_i h2
        have hall : ∀ z ∈ b :: r, unH a c z = false := by
          intro z hz
          have hxz : ahH ⟨a, c, L⟩ z = true := by
            rcases List.mem_cons.1 hz with rfl | hz
            · exact h2
            · exact ordH.tr _ _ _ h2 (hb z hz)
          rw [unH_no]; rw [ahH_iff] at hxz; simp only at hxz; omega
        rw [List.mem_cons]
        exact ⟨fun h => h.imp id fun h => ⟨h, hall y h⟩, fun h => h.imp id fun h => h.1⟩
      · rename_i h2
        rw [ahH_iff] at h1 h2
        simp only at h1 h2
        have hbu : unH a c b = true := by rw [unH_iff]; omega
        have hr : ∀ z ∈ r, unH a c z = false := by
          intro z hz
          have := hb z hz
          rw [unH_no]; rw [unH_iff] at hbu; rw [ahH_iff] at this; omega
        rw [List.mem_cons, List.mem_cons]
        constructor
        · rintro (h | h)
          · exact .inl h
          · exact .inr ⟨.inr h, hr y h⟩
        · rintro (h | ⟨rfl | h, h3⟩)
          · exact .inl h
          · rw [hbu] at h3; cases h3
          · exact .inr h
theorem mem_with {cs : List Pc} (h : SoH cs) (a c : Int) (L : List Lg) (y : Pc) : y ∈ withH cs a c L ↔ (L ≠ [] ∧ y = ⟨a, c, L⟩) ∨ (y ∈ cs ∧ unH a c y = false) := by
  unfold withH
  split
  · rename_i hL
    rw [List.mem_filter]
    simp [hL]
  · rename_i hL
    rw [mem_putH h]
    simp [hL]
theorem with_sorted {cs : List Pc} (h : SoH cs) (a c : Int) (L : List Lg) : SoH (withH cs a c L) := by
  unfold withH
  split
  · exact h.filter _
  · exact pairwise_putR ordH _ _ h
theorem with_is {cs : List Pc} {L : List Lg} (h : isH cs = true) (hL : isG L = true) (a c : Int) : isH (withH cs a c L) = true := by
  obtain ⟨h1, h2⟩ := (isH_iff cs).1 h
  refine (isH_iff _).2 ⟨fun x hx => ?_, with_sorted h2 a c L⟩
  rcases (mem_with h2 a c L x).1 hx with ⟨h3, rfl⟩ | ⟨h3, _⟩
  · exact (okH_iff _).2 ⟨h3, hL⟩
  · exact h1 x h3
theorem lots_cases (cs : List Pc) (a c : Int) : (lotsH cs a c = [] ∧ ∀ x ∈ cs, unH a c x = false) ∨ (∃ x ∈ cs, x.ac = a ∧ x.cl = c ∧ lotsH cs a c = x.L) := by
  unfold lotsH
  cases hf : cs.find? (unH a c) with
  | none => exact .inl ⟨rfl, fun x hx => by simpa using List.find?_eq_none.1 hf x hx⟩
  | some y =>
    obtain ⟨h1, h2⟩ := (unH_iff _ _ _).1 (List.find?_some hf)
    exact .inr ⟨y, List.mem_of_find?_eq_some hf, h1, h2, rfl⟩
theorem lots_in6 {cs : List Pc} (h : ∀ g ∈ cs, ∀ y ∈ g.L, In64 y.qty) (a c : Int) : ∀ y ∈ lotsH cs a c, In64 y.qty := by
  rcases lots_cases cs a c with ⟨e, _⟩ | ⟨x, hx, _, _, e⟩
  · rw [e]; intro y hy; cases hy
  · rw [e]; exact h x hx
theorem lotsH_len {cs : List Pc} {n : Nat} (h : ∀ g ∈ cs, g.L.length ≤ n) (a c : Int) : (lotsH cs a c).length ≤ n := by
  rcases lots_cases cs a c with ⟨e, _⟩ | ⟨x, hx, _, _, e⟩
  · rw [e]; simp
  · rw [e]; exact h x hx
theorem with_in6 {cs : List Pc} {L : List Lg} (hs : SoH cs) (h : ∀ g ∈ cs, ∀ y ∈ g.L, In64 y.qty) (hL : ∀ y ∈ L, In64 y.qty) (a c : Int) : ∀ g ∈ withH cs a c L, ∀ y ∈ g.L, In64 y.qty := by
  intro g hg
  rcases (mem_with hs a c L g).1 hg with ⟨_, rfl⟩ | ⟨h3, _⟩
  · exact hL
  · exact h g h3
theorem with_len {cs : List Pc} (a c : Int) (L : List Lg) : (withH cs a c L).length ≤ cs.length + 1 := by
  unfold withH
  split
  · exact Nat.le_succ_of_le (List.length_filter_le _ _)
  · exact length_putR _ _
theorem own_lower {w : World} {B B' e size n : Nat} {v : Value} {xs : List Value} (h : w.ownsRow B e size v n xs) (hb : B' ≤ B) : w.ownsRow B' e size v n xs := by
  obtain ⟨h0, h⟩ := h
  refine ⟨h0, ?_⟩
  rcases h with h | ⟨g, cap, cur, h1, h2, h⟩
  · exact .inl h
  · exact .inr ⟨g, cap, cur, h1, Nat.le_trans hb h2, h⟩
end Go.Proofs.YtahdmomadbbhoaaGreat
end
