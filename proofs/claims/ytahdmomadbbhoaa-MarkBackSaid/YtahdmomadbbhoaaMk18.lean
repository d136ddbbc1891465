import Derived.Test.YtahdmomadbbhoaaMk16
import Derived.Test.YtahdmomadbbhoaaMk17
import Derived.Test.YtahdmomadbbhoaaMk09
import Derived.Test.YtahdmomadbbhoaaMk02
import Derived.Test.YtahdmomadbbhoaaMk05
import Derived.Test.YtahdmomadbbhoaaMk08
section
namespace Go.Proofs.Ytahdmomadbbhoaa
open Go.ChangeShapes Go.WideShapes Go.ChangeAt Go.RowKit
set_option linter.unusedVariables false
set_option linter.unusedSimpArgs false

theorem in64_iff (z : Int) : inN z 63 ↔ In64 z := by rw [inN_63]; exact Iff.rfl
theorem fV_in (z : Int) : In64 (fV z) := by unfold fV; split <;> first | assumption | decide
end Go.Proofs.Ytahdmomadbbhoaa
end
section
namespace Go.Proofs.Ytahdmomadbbhoaa
open Go.ChangeShapes Go.WideShapes Go.ChangeAt Go.RowKit
set_option linter.unusedVariables false
set_option linter.unusedSimpArgs false

structure Bg where
  s : Bool
  A : Option Addr
  n : Nat
  c : Nat
def Bg.cells (g : Bg) : List Value := [.bool g.s, .slice g.A g.n g.c]
def Bg.zero : Bg := ⟨false, none, 0, 0⟩
theorem Bg.len (g : Bg) : g.cells.length = 2 := rfl
theorem Bg.one (g : Bg) : ∀ u ∈ g.cells, u.oneCell' = true := by
  intro u hu
  simp only [Bg.cells, List.mem_cons, List.not_mem_nil, or_false] at hu
  rcases hu with h | h <;> subst h <;> rfl
theorem Sl.bg {w : World} {A : Option Addr} {l : List Bg} (h : Sl w A (rc Bg.cells l)) {k : Nat} (hk : k < l.length) : ∃ b o, A = some ⟨b, o, none⟩ ∧ b < w.heap.size ∧ w.cell? ⟨b, o + k * 2, none⟩ = some (.bool l[k].s) ∧ w.cell? ⟨b, o + k * 2 + 1, none⟩ = some (.slice l[k].A l[k].n l[k].c) := by
  obtain ⟨b, o, hA, hb, hc⟩ := Sl.elem (m := 2) Bg.len (by decide) h hk
  exact ⟨b, o, hA, hb, hc 0 _ rfl, hc 1 _ rfl⟩
def BgF (w : World) (g : Nat) (B : List Bg) (f : Nat → Int) : Prop := ∀ j, (h : j < B.length) → BigAt w B[j].s B[j].A B[j].n B[j].c (f j) ∧ Fr g B[j].A B[j].n
theorem BgF.below {w w' : World} {g : Nat} {B : List Bg} {f : Nat → Int} (h : BgF w g B f) (hb : Below w.heap.size w w') : BgF w' g B f := fun j hj => ⟨(h j hj).1.below hb, (h j hj).2⟩
theorem BgF.far {w : World} {g : Nat} {B : List Bg} {f : Nat → Int} (h : BgF w g B f) {p : Addr} (hp : p.block < g) (v : Value) : BgF (w.setCell p v) g B f := fun j hj => by
  obtain ⟨h1, h2⟩ := h j hj
  exact ⟨h1.far (fun b o hA hn => by have := h2 b o hA hn; omega) v, h2⟩
theorem BgF.set {w : World} {g : Nat} {B : List Bg} {f : Nat → Int} (h : BgF w g B f) {k : Nat} {x : Bg} {z : Int} (hx : BigAt w x.s x.A x.n x.c z) (hf : Fr g x.A x.n) : BgF w g (B.set k x) (fun j => if j = k then z else f j) := fun j hj => by
  simp only [List.length_set] at hj
  rw [List.getElem_set]
  by_cases e : k = j
  · subst e; simp; exact ⟨hx, hf⟩
  · rw [if_neg e]
    have e2 : ¬ j = k := fun h => e h.symm
    simp only [if_neg e2]
    exact h j hj
def legsF : Int → List Int → List Lg
  | _, [] => []
  | i, q :: r => (if q = 0 then [] else [⟨i, q⟩]) ++ legsF (i + 1) r
def GRes (B : Nat) (w' : World) (e : Ending) (R : Int × List Lg) : Prop :=
  ∃ A' c', e = .returned (.tuple #[.slice A' R.2.length c', .int .i64 R.1]) ∧ w'.ownsRow B 64 2 (.slice A' R.2.length c') R.2.length (rc Lg.cells R.2)
theorem GRes.nil (B : Nat) (w' : World) (n : Int) : GRes B w' (.returned (.tuple #[.slice none 0 0, .int .i64 n])) (n, []) := ⟨none, 0, rfl, own_nil _ _ _⟩
end Go.Proofs.Ytahdmomadbbhoaa
end
section
namespace Go.Proofs.Ytahdmomadbbhoaa
open Go.ChangeShapes Go.WideShapes Go.ChangeAt Go.RowKit
set_option linter.unusedVariables false
set_option linter.unusedSimpArgs false

theorem rc_set_bg : ∀ (l : List Bg) (k : Nat) (h : k < l.length) (x : Bg), ((rc Bg.cells l).set (k * 2) (.bool x.s)).set (k * 2 + 1) (.slice x.A x.n x.c) = rc Bg.cells (l.set k x)
  | [], k, h, _ => by simp at h
  | a :: l, 0, _, x => by simp [rc, Bg.cells]
  | a :: l, k + 1, h, x => by
    have ih := rc_set_bg l k (by simpa using h) x
    rw [List.set_cons_succ, rc_cons, rc_cons, ← ih]
    have e1 : (k + 1) * 2 = k * 2 + 1 + 1 := by omega
    rw [e1]
    simp [Bg.cells]
theorem own_set_bg {w : World} {base g n c : Nat} {l : List Bg} (h : w.ownsRow base 48 2 (.slice (some ⟨g, 0, none⟩) n c) n (rc Bg.cells l)) {k : Nat} (hk : k < l.length) (x : Bg) :
    ((w.setCell ⟨g, k * 2, none⟩ (.bool x.s)).setCell ⟨g, k * 2 + 1, none⟩ (.slice x.A x.n x.c)).ownsRow base 48 2 (.slice (some ⟨g, 0, none⟩) n c) n (rc Bg.cells (l.set k x)) := by
  have hl := rc_length Bg.len l
  have h1 := own_set1 h (k := k * 2) (by omega) (.bool x.s)
  have h2 := own_set1 h1 (k := k * 2 + 1) (by rw [List.length_set]; omega) (.slice x.A x.n x.c)
  rw [rc_set_bg l k hk x] at h2
  exact h2
theorem BgF.congr {w : World} {g : Nat} {B : List Bg} {f f' : Nat → Int} (h : BgF w g B f) (e : ∀ j, j < B.length → f j = f' j) : BgF w g B f' := fun j hj => by rw [← e j hj]; exact h j hj
theorem BgF.zero (w : World) (g : Nat) : BgF w g (List.replicate 8 Bg.zero) (fun _ => 0) := fun j hj => by
  rw [List.getElem_replicate]
  exact ⟨BigAt.zero w, fun b o h => by cases h⟩
theorem getG_in {l : List Lg} (h : ∀ y ∈ l, In64 y.qty) (i : Int) : In64 (getG l i) := by
  unfold getG pickL
  cases hf : l.find? (inG i) with
  | none => simp [Lg.zero]; decide
  | some y => exact h y (List.mem_of_find?_eq_some hf)
structure KeepA (w : World) (B : List Bg) (f : Nat → Int) (V : World) : Prop where
  bel : Below w.heap.size w V
  own : V.ownsRow w.heap.size 48 2 (.slice (some ⟨w.heap.size, 0, none⟩) 8 8) 8 (rc Bg.cells B)
  num : BgF V (w.heap.size + 1) B f
  lt : w.heap.size < V.heap.size
theorem KeepA.step {w V V' : World} {B : List Bg} {f : Nat → Int} (h : KeepA w B f V) (hb : Below V.heap.size V V') : KeepA w B f V' :=
  ⟨since_step h.bel hb, own_below h.own hb, h.num.below hb, Nat.lt_of_lt_of_le h.lt hb.size⟩
theorem KeepA.drew {w V : World} {B : List Bg} {f : Nat → Int} (h : KeepA w B f V) : KeepA w B f V.drew := h.step ⟨rfl, rfl, rfl, Nat.le_refl _, fun _ _ => rfl⟩
theorem KeepA.got {w V : World} {B : List Bg} {f : Nat → Int} (h : KeepA w B f V) {k : Nat} (hk : k < B.length) : V.cell? ⟨w.heap.size, k * 2, none⟩ = some (.bool B[k].s) ∧ V.cell? ⟨w.heap.size, k * 2 + 1, none⟩ = some (.slice B[k].A B[k].n B[k].c) ∧ (∀ i, V.frozen? ⟨w.heap.size, i, none⟩ = false) := by
  obtain ⟨b, o, e, _, g0, g1⟩ := (Sl.of_own h.own).bg hk
  injection e with e
  injection e with e1 e2
  subst e1; subst e2
  rw [Nat.zero_add] at g0 g1
  exact ⟨g0, g1, (own_slice_g h.own).2.2.1⟩
theorem KeepA.set {w V : World} {B : List Bg} {f f' : Nat → Int} (h : KeepA w B f V) {k : Nat} (hk : k < B.length) {x : Bg} {z : Int} (hx : BigAt V x.s x.A x.n x.c z) (hf : Fr (w.heap.size + 1) x.A x.n) (he : ∀ j, j < B.length → (if j = k then z else f j) = f' j) :
    KeepA w (B.set k x) f' ((V.setCell ⟨w.heap.size, k * 2, none⟩ (.bool x.s)).setCell ⟨w.heap.size, k * 2 + 1, none⟩ (.slice x.A x.n x.c)) := by
  refine ⟨Below.setCell (Below.setCell h.bel (p := ⟨w.heap.size, k * 2, none⟩) (Nat.le_refl _) _) (p := ⟨w.heap.size, k * 2 + 1, none⟩) (Nat.le_refl _) _, own_set_bg h.own hk x, ?_, by simpa using h.lt⟩
  have hn := (h.num.far (p := ⟨w.heap.size, k * 2, none⟩) (Nat.lt_succ_self _) (.bool x.s)).far (p := ⟨w.heap.size, k * 2 + 1, none⟩) (Nat.lt_succ_self _) (.slice x.A x.n x.c)
  have hx2 : BigAt ((V.setCell ⟨w.heap.size, k * 2, none⟩ (.bool x.s)).setCell ⟨w.heap.size, k * 2 + 1, none⟩ (.slice x.A x.n x.c)) x.s x.A x.n x.c z :=
    (hx.far (fun b o hA hn => by have := hf b o hA hn; show b ≠ w.heap.size; omega) _).far (fun b o hA hn => by have := hf b o hA hn; show b ≠ w.heap.size; omega) _
  exact (hn.set (k := k) (x := x) hx2 hf).congr (by simpa using he)
end Go.Proofs.Ytahdmomadbbhoaa
end
section
namespace Go.Proofs.Ytahdmomadbbhoaa
open Go.ChangeShapes Go.WideShapes Go.ChangeAt Go.RowKit
set_option linter.unusedVariables false
set_option linter.unusedSimpArgs false

theorem getG_cons (x : Lg) (r : List Lg) (i : Int) : getG (x :: r) i = if x.ins = i then x.qty else getG r i := by
  unfold getG pickL
  rw [List.find?_cons]
  by_cases h : x.ins = i
  · rw [if_pos h, show inG i x = true by simp [inG, h]]; rfl
  · rw [if_neg h, show inG i x = false by simp [inG, h]]
theorem getG_none {l : List Lg} {i : Int} (h : ∀ x ∈ l, x.ins ≠ i) : getG l i = 0 := by
  induction l with
  | nil => rfl
  | cons x r ih => rw [getG_cons, if_neg (h x (by simp)), ih (fun y hy => h y (by simp [hy]))]
abbrev SoG (l : List Lg) : Prop := l.Pairwise (fun a b => a.ins < b.ins)
theorem risingG : ∀ l : List Lg, risingL ahG l = true ↔ SoG l
  | [] => by simp [risingL]
  | [a] => by simp [risingL]
  | a :: b :: r => by
    have ih := risingG (b :: r)
    simp only [risingL, Bool.and_eq_true, ih, ahG, decide_eq_true_eq]
    constructor
    · rintro ⟨h1, h2⟩
      refine List.Pairwise.cons ?_ h2
      intro c hc
      rcases List.mem_cons.1 hc with rfl | hc
      · exact h1
      · have := List.rel_of_pairwise_cons h2 hc
        omega
    · intro h
      exact ⟨List.rel_of_pairwise_cons h (by simp), h.of_cons⟩
theorem isG_iff (l : List Lg) : isG l = true ↔ (∀ x ∈ l, 1 ≤ x.ins ∧ x.ins ≤ 8 ∧ x.qty ≠ 0) ∧ SoG l := by
  unfold isG
  rw [Bool.and_eq_true, List.all_eq_true, risingG]
  refine and_congr_left fun _ => ⟨fun h x hx => ?_, fun h x hx => ?_⟩
  · have := h x hx
    unfold okG at this
    simp only [Bool.and_eq_true, decide_eq_true_eq, Bool.not_eq_true', beq_eq_false_iff_ne] at this
    exact ⟨this.1.1, this.1.2, this.2⟩
  · obtain ⟨h1, h2, h3⟩ := h x hx
    unfold okG
    simp [h1, h2, h3]
theorem legs_back : ∀ (n : Nat) (i : Int) (l : List Lg), SoG l → (∀ x ∈ l, i ≤ x.ins ∧ x.ins < i + n ∧ x.qty ≠ 0) → legsF i ((List.range n).map fun j : Nat => getG l (i + (j : Int))) = l
  | 0, i, [], _, _ => rfl
  | 0, i, x :: r, _, h => by have := h x (by simp); omega
  | n + 1, i, l, hs, h => by
    rw [List.range_succ_eq_map, List.map_cons, List.map_map, legsF]
    have e0 : i + ((0 : Nat) : Int) = i := by simp
    rw [e0]
    have ef : ∀ m : List Lg, ((fun j : Nat => getG m (i + (j : Int))) ∘ Nat.succ) = fun j : Nat => getG m (i + 1 + (j : Int)) := fun m => by
      funext j
      simp only [Function.comp]
      congr 1
      omega
    rw [ef]
    cases l with
    | nil =>
      rw [show getG [] i = 0 from rfl, if_pos rfl, legs_back n (i + 1) [] hs (fun x hx => by cases hx)]; rfl
    | cons x r =>
      obtain ⟨h1, h2, h3⟩ := h x (by simp)
      by_cases hx : x.ins = i
      · rw [getG_cons, if_pos hx, if_neg h3]
        have e2 : (List.range n).map (fun j : Nat => getG (x :: r) (i + 1 + (j : Int))) = (List.range n).map fun j : Nat => getG r (i + 1 + (j : Int)) := by
          refine List.map_congr_left fun j _ => ?_
          rw [getG_cons, if_neg (by omega)]
        rw [e2, legs_back n (i + 1) r hs.of_cons fun y hy => ?_]
        · obtain ⟨a, b⟩ := x
          simp only at hx
          subst hx
          rfl
        · have := List.rel_of_pairwise_cons hs hy
          have := h y (by simp [hy])
          omega
      · rw [getG_none (l := x :: r) (i := i) (fun y hy => by
          rcases List.mem_cons.1 hy with rfl | hy
          · exact hx
          · have := List.rel_of_pairwise_cons hs hy; omega), if_pos rfl, List.nil_append]
        refine legs_back n (i + 1) (x :: r) hs fun y hy => ?_
        have := h y hy
        rcases List.mem_cons.1 hy with rfl | hy2
        · omega
        · have := List.rel_of_pairwise_cons hs hy2
          omega
end Go.Proofs.Ytahdmomadbbhoaa
end
section
namespace Go.Proofs.Ytahdmomadbbhoaa
open Go.ChangeShapes Go.WideShapes Go.ChangeAt Go.RowKit
set_option linter.unusedVariables false
set_option linter.unusedSimpArgs false

section
variable {P : Program} {w : World}
end
def Apart (v u : Value) : Prop := ∀ g, v.ownBlock = some g → u.ownBlock ≠ some g
theorem Apart.symm {v u : Value} (h : Apart v u) : Apart u v := fun g h1 h2 => h g h2 h1
theorem Apart.none (u : Value) : Apart (.slice none 0 0) u := fun g h => by simp [Value.ownBlock] at h
theorem Apart.grow {w : World} {base e size n : Nat} {v v' u : Value} {xs : List Value} (h : Apart v u) (hu : w.ownsRow base e size u n xs) (hv : v'.ownBlock = v.ownBlock ∨ v'.ownBlock = some w.heap.size) : Apart v' u := by
  intro g h1 h2
  rcases hv with hv | hv
  · exact h g (hv ▸ h1) h2
  · rw [hv] at h1
    injection h1 with h1
    subst h1
    rcases hu.2 with ⟨rfl, _⟩ | ⟨g', cap, cur, rfl, _, hh, _⟩
    · simp [Value.ownBlock] at h2
    · simp only [Value.ownBlock, Option.some.injEq] at h2
      subst h2
      rw [Array.getElem?_eq_none (Nat.le_refl _)] at hh
      cases hh
section
variable {P : Program} {w : World}
end
theorem Bk.grown {w w' : World} {b : Nat} {cs : Array Value} {row : Option Nat} (h : Bk w b cs) (hg : w.grownBy w' row) (hne : row ≠ some b) : Bk w' b cs := by
  have hk := hg.block b h.1 (fun e => hne e.symm)
  exact ⟨Nat.lt_of_lt_of_le h.1 hg.size, fun o => (World.cell?_of_block (a := ⟨b, o, none⟩) hk).trans (h.2 o)⟩
end Go.Proofs.Ytahdmomadbbhoaa
end
section
namespace Go.Proofs.Ytahdmomadbbhoaa
open Go.ChangeShapes Go.WideShapes Go.ChangeAt Go.RowKit
set_option linter.unusedVariables false
set_option linter.unusedSimpArgs false

def ahH (x y : Pc) : Bool := keyLt x.ac x.cl y.ac y.cl
theorem ordH : Ord ahH := ord_key Pc.ac Pc.cl
def ahHd (x y : Po) : Bool := keyLt x.ac x.cl y.ac y.cl
def unH (a c : Int) (x : Pc) : Bool := x.ac == a && x.cl == c
theorem ah_is {w : World} (g : Po) (c : Pc) (g' : Po) (c' : Pc) (h : PoIs w g c) (h' : PoIs w g' c') : ahHd g g' = ahH c c' := by
  unfold ahHd ahH; rw [h.ac, h.cl, h'.ac, h'.cl]
def okH (x : Pc) : Bool := !(x.L.length == 0) && isG x.L
def isH (cs : List Pc) : Bool := cs.all okH && risingL ahH cs
def sumsH (cs : List Pc) (t : Int) : List Int := cs.map fun g => getG g.L t
def CapH (A : Option Addr) (n cap : Nat) : Prop := (A = none ∧ n = 0 ∧ cap = 0) ∨ (∃ b, A = some ⟨b, 0, none⟩ ∧ n ≤ cap ∧ cap ≤ maxLen)
theorem CapH.of_own {w : World} {B e s n c : Nat} {A : Option Addr} {xs : List Value} (h : w.ownsRow B e s (.slice A n c) n xs) : CapH A n c := by
  rcases h.2 with ⟨hv, h0⟩ | ⟨g, cap, cur, hv, hg, hh, hnc, hcm, _⟩
  · injection hv with e1 e2 e3; exact .inl ⟨e1, h0, e3⟩
  · injection hv with e1 e2 e3; subst e3; exact .inr ⟨g, e1, hnc, hcm⟩
def HRes (w' : World) (e : Ending) (R : Int × List Pc) : Prop :=
  ∃ (l : List Po) (A' : Option Addr) (c' : Nat), e = .returned (.tuple #[.slice A' l.length c', .int .i64 R.1]) ∧ Sl w' A' (rc Po.cells l) ∧ PoTab w' l R.2 ∧ CapH A' l.length c'
theorem HRes.nil (w' : World) (n : Int) : HRes w' (.returned (.tuple #[.slice none 0 0, .int .i64 n])) (n, []) := ⟨[], none, 0, rfl, Sl.nil, PoTab.nil _, .inl ⟨rfl, rfl, rfl⟩⟩
abbrev SoH (cs : List Pc) : Prop := cs.Pairwise (fun a b => ahH a b = true)
theorem isH_iff (cs : List Pc) : isH cs = true ↔ (∀ x ∈ cs, okH x = true) ∧ SoH cs := by
  unfold isH
  rw [Bool.and_eq_true, List.all_eq_true, rising_pairwise ordH]
theorem isH_sorted {cs : List Pc} (h : isH cs = true) : SoH cs := ((isH_iff cs).1 h).2
theorem isH_bad {cs : List Pc} {k : Nat} (h : k < cs.length) (hb : okH cs[k] = false) : isH cs = false := by
  rw [← Bool.not_eq_true]
  intro hi
  have := ((isH_iff cs).1 hi).1 _ (List.getElem_mem h)
  rw [hb] at this; cases this
theorem isH_low {cs : List Pc} {j : Nat} (h : j + 1 < cs.length) (hb : ahH (cs[j]'(Nat.lt_of_succ_lt h)) cs[j + 1] = false) : isH cs = false := by
  rw [← Bool.not_eq_true]
  intro hi
  have := List.pairwise_iff_getElem.1 (isH_sorted hi) j (j + 1) (by omega) h (by omega)
  rw [this] at hb; cases hb
theorem isH_end {cs : List Pc} (h1 : ∀ j, (hj : j < cs.length) → okH cs[j] = true) : isH cs = risingL ahH cs := by
  have : cs.all okH = true := by
    rw [List.all_eq_true]
    intro x hx
    obtain ⟨j, hj, rfl⟩ := List.getElem_of_mem hx
    exact h1 j hj
  unfold isH
  rw [this, Bool.true_and]
theorem okH_iff (x : Pc) : okH x = true ↔ x.L ≠ [] ∧ isG x.L = true := by
  unfold okH
  simp
theorem okH_zero {x : Pc} (h : x.L.length = 0) : okH x = false := by
  unfold okH; rw [h]; rfl
theorem okH_some {x : Pc} (h : x.L.length ≠ 0) : okH x = isG x.L := by
  have : (x.L.length == 0) = false := by simpa using h
  unfold okH; rw [this]; rfl
end Go.Proofs.Ytahdmomadbbhoaa
end
