import Derived.Test.YtahdmomadbbhoaaGreatDk12
import Derived.Test.YtahdmomadbbhoaaGreatDk13
import Derived.Test.YtahdmomadbbhoaaGreatDk11
import Derived.Test.YtahdmomadbbhoaaGreatDk16
section
namespace Go.Proofs.YtahdmomadbbhoaaGreat
open Go.ChangeShapes Go.WideShapes Go.ChangeAt Go.RowKit
set_option linter.unusedVariables false
set_option linter.unusedSimpArgs false

theorem BigAt.l128 {w : World} {s : Bool} {A : Option Addr} {n c : Nat} {z : Int} (h : BigAt w s A n c z) (hz : In128 z) : n ≤ 128 := h.len.2 (by
  rw [show (2 : Nat) ^ 128 = 340282366920938463463374607431768211456 from by decide]
  unfold In128 at hz
  omega)
structure BX (B : Nat) (w : World) (g : Nat) (s : Bool) (A : Option Addr) (n c : Nat) (z : Int) : Prop where
  bb : BB w g s A n c
  at_ : BigAt w s A n c z
  fr : Fr B A n
  hg : g < B
section
variable {B : Nat} {w w' : World} {g : Nat} {s : Bool} {A : Option Addr} {n c : Nat} {z : Int}
theorem BX.below (h : BX B w g s A n c z) (hb : Below w.heap.size w w') : BX B w' g s A n c z := ⟨h.bb.below hb, h.at_.below hb, h.fr, h.hg⟩
theorem BX.alloc (h : BX B w g s A n c z) (o : Obj) : BX B (w.alloc o) g s A n c z := h.below ((Below.refl _ _).alloc (Nat.le_refl _) o)
theorem BX.drew (h : BX B w g s A n c z) : BX B w.drew g s A n c z := h.below ⟨rfl, rfl, rfl, Nat.le_refl _, fun _ _ => rfl⟩
theorem BX.set (h : BX B w g s A n c z) {p : Addr} (hp : p.block < B) (hne : p.block ≠ g) (v : Value) : BX B (w.setCell p v) g s A n c z :=
  ⟨h.bb.far hne v, h.at_.far (fun b o hA hn => by have := h.fr b o hA hn; omega) v, h.fr, h.hg⟩
theorem BX.put (h : BX B w g s A n c z) {s' : Bool} {A' : Option Addr} {n' c' : Nat} {z' : Int} (hz : BigAt w s' A' n' c' z') (hf : Fr B A' n') :
    BX B ((w.setCell ⟨g, 0, none⟩ (.bool s')).setCell ⟨g, 1, none⟩ (.slice A' n' c')) g s' A' n' c' z' := by
  have hg := h.hg
  refine ⟨h.bb.set2 s' A' n' c', ?_, hf, hg⟩
  refine BigAt.far (BigAt.far hz ?_ _) ?_ _
  · intro b o hA hn
    have := hf b o hA hn
    show b ≠ g
    omega
  · intro b o hA hn
    have := hf b o hA hn
    show b ≠ g
    omega
theorem BX.pos (h : BX B w g s A n c z) : BX B (w.setCell ⟨g, 0, none⟩ (.bool false)) g false A n c (z.natAbs : Int) := by
  have hg := h.hg
  refine ⟨?_, ?_, h.fr, hg⟩
  · obtain ⟨h0, h1, h2, f1, f2⟩ := h.bb
    refine ⟨by simpa using h0, ?_, ?_, by simpa using f1, by simpa using f2⟩ <;> simp [cell_set, h1, h2]
  · refine BigAt.far h.at_.abs ?_ _
    intro b o hA hn
    have := h.fr b o hA hn
    show b ≠ g
    omega
theorem BX.new (hB : w.heap.size < B) (t : TypeId) : BX B (w.alloc (.cells #[.bool false, .slice none 0 0] t)) w.heap.size false none 0 0 0 :=
  ⟨BB.new w false none 0 0 t, BigAt.zero _, (fun b o h => by cases h), hB⟩
end
end Go.Proofs.YtahdmomadbbhoaaGreat
end
section
namespace Go.Proofs.YtahdmomadbbhoaaGreat
open Go.ChangeShapes Go.WideShapes Go.ChangeAt Go.RowKit
set_option linter.unusedVariables false
set_option linter.unusedSimpArgs false

structure Bg where
  s : Bool
  A : Option Addr
  n : Nat
  c : Nat
def Bg.cells (g : Bg) : List Value := [.bool g.s, .slice g.A g.n g.c]
def Bg.zero : Bg := ⟨false, none, 0, 0⟩
theorem Bg.len (g : Bg) : g.cells.length = 2 := rfl
theorem Bg.one (g : Bg) : ∀ u ∈ g.cells, u.oneCell' = true := by
  intro u hu
  simp only [Bg.cells, List.mem_cons, List.not_mem_nil, or_false] at hu
  rcases hu with h | h <;> subst h <;> rfl
theorem Sl.bg {w : World} {A : Option Addr} {l : List Bg} (h : Sl w A (rc Bg.cells l)) {k : Nat} (hk : k < l.length) : ∃ b o, A = some ⟨b, o, none⟩ ∧ b < w.heap.size ∧ w.cell? ⟨b, o + k * 2, none⟩ = some (.bool l[k].s) ∧ w.cell? ⟨b, o + k * 2 + 1, none⟩ = some (.slice l[k].A l[k].n l[k].c) := by
  obtain ⟨b, o, hA, hb, hc⟩ := Sl.elem (m := 2) Bg.len (by decide) h hk
  exact ⟨b, o, hA, hb, hc 0 _ rfl, hc 1 _ rfl⟩
def BgF (w : World) (g : Nat) (B : List Bg) (f : Nat → Int) : Prop := ∀ j, (h : j < B.length) → BigAt w B[j].s B[j].A B[j].n B[j].c (f j) ∧ Fr g B[j].A B[j].n
theorem BgF.below {w w' : World} {g : Nat} {B : List Bg} {f : Nat → Int} (h : BgF w g B f) (hb : Below w.heap.size w w') : BgF w' g B f := fun j hj => ⟨(h j hj).1.below hb, (h j hj).2⟩
theorem BgF.far {w : World} {g : Nat} {B : List Bg} {f : Nat → Int} (h : BgF w g B f) {p : Addr} (hp : p.block < g) (v : Value) : BgF (w.setCell p v) g B f := fun j hj => by
  obtain ⟨h1, h2⟩ := h j hj
  exact ⟨h1.far (fun b o hA hn => by have := h2 b o hA hn; omega) v, h2⟩
theorem BgF.set {w : World} {g : Nat} {B : List Bg} {f : Nat → Int} (h : BgF w g B f) {k : Nat} {x : Bg} {z : Int} (hx : BigAt w x.s x.A x.n x.c z) (hf : Fr g x.A x.n) : BgF w g (B.set k x) (fun j => if j = k then z else f j) := fun j hj => by
  simp only [List.length_set] at hj
  rw [List.getElem_set]
  by_cases e : k = j
  · subst e; simp; exact ⟨hx, hf⟩
  · rw [if_neg e]
    have e2 : ¬ j = k := fun h => e h.symm
    simp only [if_neg e2]
    exact h j hj
def legsF : Int → List Int → List Lg
  | _, [] => []
  | i, q :: r => (if q = 0 then [] else [⟨i, q⟩]) ++ legsF (i + 1) r
theorem legsF_len : ∀ (i : Int) (l : List Int), (legsF i l).length ≤ l.length
  | _, [] => Nat.le_refl _
  | i, q :: r => by
    have := legsF_len (i + 1) r
    unfold legsF
    split <;> simp <;> omega
open Classical in
noncomputable def ofR (l : List Int) : Int × List Lg := if ∀ q ∈ l, In64 q then (0, legsF 1 l) else (7, [])
def GRes (B : Nat) (w' : World) (e : Ending) (R : Int × List Lg) : Prop :=
  ∃ A' c', e = .returned (.tuple #[.slice A' R.2.length c', .int .i64 R.1]) ∧ w'.ownsRow B 75 2 (.slice A' R.2.length c') R.2.length (rc Lg.cells R.2)
theorem GRes.nil (B : Nat) (w' : World) (n : Int) : GRes B w' (.returned (.tuple #[.slice none 0 0, .int .i64 n])) (n, []) := ⟨none, 0, rfl, own_nil _ _ _⟩
end Go.Proofs.YtahdmomadbbhoaaGreat
end
section
namespace Go.Proofs.YtahdmomadbbhoaaGreat
open Go.ChangeShapes Go.WideShapes Go.ChangeAt Go.RowKit
set_option linter.unusedVariables false
set_option linter.unusedSimpArgs false

theorem rc_set_bg : ∀ (l : List Bg) (k : Nat) (h : k < l.length) (x : Bg), ((rc Bg.cells l).set (k * 2) (.bool x.s)).set (k * 2 + 1) (.slice x.A x.n x.c) = rc Bg.cells (l.set k x)
  | [], k, h, _ => by simp at h
  | a :: l, 0, _, x => by simp [rc, Bg.cells]
  | a :: l, k + 1, h, x => by
    have ih := rc_set_bg l k (by simpa using h) x
    rw [List.set_cons_succ, rc_cons, rc_cons, ← ih]
    have e1 : (k + 1) * 2 = k * 2 + 1 + 1 := by omega
    rw [e1]
    simp [Bg.cells]
theorem own_set_bg {w : World} {base g n c : Nat} {l : List Bg} (h : w.ownsRow base 50 2 (.slice (some ⟨g, 0, none⟩) n c) n (rc Bg.cells l)) {k : Nat} (hk : k < l.length) (x : Bg) :
    ((w.setCell ⟨g, k * 2, none⟩ (.bool x.s)).setCell ⟨g, k * 2 + 1, none⟩ (.slice x.A x.n x.c)).ownsRow base 50 2 (.slice (some ⟨g, 0, none⟩) n c) n (rc Bg.cells (l.set k x)) := by
  have hl := rc_length Bg.len l
  have h1 := own_set1 h (k := k * 2) (by omega) (.bool x.s)
  have h2 := own_set1 h1 (k := k * 2 + 1) (by rw [List.length_set]; omega) (.slice x.A x.n x.c)
  rw [rc_set_bg l k hk x] at h2
  exact h2
theorem BgF.congr {w : World} {g : Nat} {B : List Bg} {f f' : Nat → Int} (h : BgF w g B f) (e : ∀ j, j < B.length → f j = f' j) : BgF w g B f' := fun j hj => by rw [← e j hj]; exact h j hj
theorem BgF.zero (w : World) (g : Nat) : BgF w g (List.replicate 8 Bg.zero) (fun _ => 0) := fun j hj => by
  rw [List.getElem_replicate]
  exact ⟨BigAt.zero w, fun b o h => by cases h⟩
def sumG (S : List (RowS Lg)) (i : Nat) (j : Nat) : Int := ((S.take i).map fun s => getG s.l ((j : Int) + 1)).sum
theorem getG_in {l : List Lg} (h : ∀ y ∈ l, In64 y.qty) (i : Int) : In64 (getG l i) := by
  unfold getG pickL
  cases hf : l.find? (inG i) with
  | none => simp [Lg.zero]; decide
  | some y => exact h y (List.mem_of_find?_eq_some hf)
open Classical in
noncomputable def addR (S : List (RowS Lg)) : Int × List Lg := if ∀ s ∈ S, isG s.l = true then ofR ((List.range 8).map fun j => sumG S S.length j) else (3, [])
structure KeepA (w : World) (B : List Bg) (f : Nat → Int) (V : World) : Prop where
  bel : Below w.heap.size w V
  own : V.ownsRow w.heap.size 50 2 (.slice (some ⟨w.heap.size, 0, none⟩) 8 8) 8 (rc Bg.cells B)
  num : BgF V (w.heap.size + 1) B f
  lt : w.heap.size < V.heap.size
theorem KeepA.step {w V V' : World} {B : List Bg} {f : Nat → Int} (h : KeepA w B f V) (hb : Below V.heap.size V V') : KeepA w B f V' :=
  ⟨since_step h.bel hb, own_below h.own hb, h.num.below hb, Nat.lt_of_lt_of_le h.lt hb.size⟩
theorem KeepA.drew {w V : World} {B : List Bg} {f : Nat → Int} (h : KeepA w B f V) : KeepA w B f V.drew := h.step ⟨rfl, rfl, rfl, Nat.le_refl _, fun _ _ => rfl⟩
theorem KeepA.got {w V : World} {B : List Bg} {f : Nat → Int} (h : KeepA w B f V) {k : Nat} (hk : k < B.length) : V.cell? ⟨w.heap.size, k * 2, none⟩ = some (.bool B[k].s) ∧ V.cell? ⟨w.heap.size, k * 2 + 1, none⟩ = some (.slice B[k].A B[k].n B[k].c) ∧ (∀ i, V.frozen? ⟨w.heap.size, i, none⟩ = false) := by
  obtain ⟨b, o, e, _, g0, g1⟩ := (Sl.of_own h.own).bg hk
  injection e with e
  injection e with e1 e2
  subst e1; subst e2
  rw [Nat.zero_add] at g0 g1
  exact ⟨g0, g1, (own_slice_g h.own).2.2.1⟩
theorem KeepA.set {w V : World} {B : List Bg} {f f' : Nat → Int} (h : KeepA w B f V) {k : Nat} (hk : k < B.length) {x : Bg} {z : Int} (hx : BigAt V x.s x.A x.n x.c z) (hf : Fr (w.heap.size + 1) x.A x.n) (he : ∀ j, j < B.length → (if j = k then z else f j) = f' j) :
    KeepA w (B.set k x) f' ((V.setCell ⟨w.heap.size, k * 2, none⟩ (.bool x.s)).setCell ⟨w.heap.size, k * 2 + 1, none⟩ (.slice x.A x.n x.c)) := by
  refine ⟨Below.setCell (Below.setCell h.bel (p := ⟨w.heap.size, k * 2, none⟩) (Nat.le_refl _) _) (p := ⟨w.heap.size, k * 2 + 1, none⟩) (Nat.le_refl _) _, own_set_bg h.own hk x, ?_, by simpa using h.lt⟩
  have hn := (h.num.far (p := ⟨w.heap.size, k * 2, none⟩) (Nat.lt_succ_self _) (.bool x.s)).far (p := ⟨w.heap.size, k * 2 + 1, none⟩) (Nat.lt_succ_self _) (.slice x.A x.n x.c)
  have hx2 : BigAt ((V.setCell ⟨w.heap.size, k * 2, none⟩ (.bool x.s)).setCell ⟨w.heap.size, k * 2 + 1, none⟩ (.slice x.A x.n x.c)) x.s x.A x.n x.c z :=
    (hx.far (fun b o hA hn => by have := hf b o hA hn; show b ≠ w.heap.size; omega) _).far (fun b o hA hn => by have := hf b o hA hn; show b ≠ w.heap.size; omega) _
  exact (hn.set (k := k) (x := x) hx2 hf).congr (by simpa using he)
end Go.Proofs.YtahdmomadbbhoaaGreat
end
