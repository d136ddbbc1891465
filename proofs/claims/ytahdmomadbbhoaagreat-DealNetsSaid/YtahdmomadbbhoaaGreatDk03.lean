import Derived.Deep.RegionLaw
import Derived.Lib.SliceRun
import Derived.Test.YtahdmomadbbhoaaGreatDk02
import Derived.Deep.DeepCutAuto
import Derived.Deep.RegionHeld3
section
namespace Go.Proofs.YtahdmomadbbhoaaGreat
open Go.ChangeShapes Go.WideShapes Go.ChangeAt Go.RowKit
set_option linter.unusedVariables false
set_option linter.unusedSimpArgs false

structure Iq where
  (id : Int) (mult : Int) (price : Int) (nxt : Int) (mv : Option Addr) (mvL mvC : Nat)
deriving DecidableEq
def Iq.cells (g : Iq) : List Value := [.int .i64 g.id, .int .i64 g.mult, .int .i64 g.price, .int .i64 g.nxt, .slice g.mv g.mvL g.mvC]
def Iq.val (g : Iq) : Value := .agg #[.int .i64 g.id, .int .i64 g.mult, .int .i64 g.price, .int .i64 g.nxt, .slice g.mv g.mvL g.mvC]
def Iq.zero : Iq := ⟨0, 0, 0, 0, none, 0, 0⟩
theorem Iq.len (g : Iq) : g.cells.length = 5 := rfl
theorem Iq.one (g : Iq) : ∀ u ∈ g.cells, u.oneCell' = true := by
  intro u hu
  simp only [Iq.cells, List.mem_cons, List.not_mem_nil, or_false] at hu
  rcases hu with h | h | h | h | h <;> subst h <;> rfl
def Iq.at (g : Iq) (w : World) (b o : Nat) : Prop :=
  w.cell? ⟨b, o, none⟩ = some (.int .i64 g.id) ∧ w.cell? ⟨b, o + 1, none⟩ = some (.int .i64 g.mult) ∧ w.cell? ⟨b, o + 2, none⟩ = some (.int .i64 g.price) ∧ w.cell? ⟨b, o + 3, none⟩ = some (.int .i64 g.nxt) ∧ w.cell? ⟨b, o + 4, none⟩ = some (.slice g.mv g.mvL g.mvC)
theorem Iq.at_of {w : World} {b o : Nat} {g : Iq} (h : ∀ j u, g.cells[j]? = some u → w.cell? ⟨b, o + j, none⟩ = some u) : g.at w b o :=
  ⟨h 0 _ rfl, h 1 _ rfl, h 2 _ rfl, h 3 _ rfl, h 4 _ rfl⟩
theorem Iq.at_keep {w w' : World} {b o : Nat} {g : Iq} (h : g.at w b o) (k : ∀ i, w'.cell? ⟨b, i, none⟩ = w.cell? ⟨b, i, none⟩) : g.at w' b o := by
  unfold Iq.at at *
  simp only [k]
  exact h
def Iq.Tells (F : Nat) (caps : Array Value) (p : Iq → Bool) (B : Nat) (w : World) : Prop :=
  ∀ (g : Iq) (W : World), Below B w W → Calls Tryz.prog F (#[g.val] ++ caps) W fun e w' => e = .returned (.bool (p g)) ∧ Below W.heap.size W w'
theorem Iq.Tells.below {F : Nat} {caps : Array Value} {p : Iq → Bool} {B : Nat} {w w1 : World} (h : Iq.Tells F caps p B w) (hb : Below B w w1) {C : Nat} (hC : B ≤ C) : Iq.Tells F caps p C w1 :=
  fun g W hW => h g W (hb.trans (hW.mono hC))
end Go.Proofs.YtahdmomadbbhoaaGreat
end
section
namespace Go.Proofs.YtahdmomadbbhoaaGreat
open Go.ChangeShapes Go.WideShapes Go.ChangeAt Go.RowKit
set_option linter.unusedVariables false
set_option linter.unusedSimpArgs false

def Iq.Df (p : Iq → Bool) (l : List Iq) (n c g B : Nat) (w : World) (i j : Value) (wr : World) : Prop :=
  ∃ (kk jj : Nat) (l' : List Iq), i = .int .i64 kk ∧ j = .int .i64 jj ∧ jj ≤ n ∧ kk < jj ∧ l'.length = n ∧ l'.take kk = (l.take jj).filter (fun g => !p g) ∧ (∀ t, jj ≤ t → l'[t]? = l[t]?) ∧
    wr.ownsRow B 26 5 (.slice (some ⟨g, 0, none⟩) n c) n (rc Iq.cells l') ∧ Below B w wr
end Go.Proofs.YtahdmomadbbhoaaGreat
end
section
namespace Go.Proofs.YtahdmomadbbhoaaGreat
open Go.ChangeShapes Go.WideShapes Go.ChangeAt Go.RowKit
set_option linter.unusedVariables false
set_option linter.unusedSimpArgs false

def Iq.Tells2 (F : Nat) (caps : Array Value) (ah : Iq → Iq → Bool) (B : Nat) (w : World) : Prop :=
  ∀ (a b : Iq) (W : World), Below B w W → Calls Tryz.prog F (#[a.val, b.val] ++ caps) W fun e w' => e = .returned (.bool (ah a b)) ∧ Below W.heap.size W w'
theorem Iq.Tells2.below {F : Nat} {caps : Array Value} {ah : Iq → Iq → Bool} {B : Nat} {w w1 : World} (h : Iq.Tells2 F caps ah B w) (hb : Below B w w1) {C : Nat} (hC : B ≤ C) : Iq.Tells2 F caps ah C w1 :=
  fun a b W hW => h a b W (hb.trans (hW.mono hC))
structure Iq.Bx (w : World) (b : Nat) (g : Iq) : Prop where
  lt : b < w.heap.size
  at_ : g.at w b 0
  hp : w.heap[b]? = some (.cells g.cells.toArray 26 (0, 0))
theorem Iq.Bx.new (w : World) (g : Iq) : Iq.Bx (w.alloc (.cells g.cells.toArray 26)) w.heap.size g := by
  have h := heap_alloc_new w (.cells g.cells.toArray 26 (0, 0))
  refine ⟨by simp, Iq.at_of fun j u hu => ?_, h⟩
  rw [Nat.zero_add, cell_of_row _ _ j g.cells.toArray 26 (0, 0) h]
  simpa using hu
theorem Iq.Bx.below {w w' : World} {b : Nat} {g : Iq} (h : Iq.Bx w b g) (hb : Below w.heap.size w w') : Iq.Bx w' b g :=
  ⟨Nat.lt_of_lt_of_le h.lt hb.size, Iq.at_keep h.at_ fun i => hb.cell (p := ⟨b, i, none⟩) h.lt, (hb.block b h.lt).trans h.hp⟩
theorem Iq.Bx.sl {w : World} {b : Nat} {g : Iq} (h : Iq.Bx w b g) : Sl w (some ⟨b, 0, none⟩) g.cells := by
  intro _
  refine ⟨b, 0, rfl, fun j u hu => ?_⟩
  rw [Nat.zero_add, cell_of_row _ _ j g.cells.toArray 26 (0, 0) h.hp]
  simpa using hu
theorem Iq.Bx.got {w : World} {b : Nat} {g : Iq} (h : Iq.Bx w b g) : w.cell? ⟨b, 0, none⟩ = some (.int .i64 g.id) ∧ w.cell? ⟨b, 1, none⟩ = some (.int .i64 g.mult) ∧ w.cell? ⟨b, 2, none⟩ = some (.int .i64 g.price) ∧ w.cell? ⟨b, 3, none⟩ = some (.int .i64 g.nxt) ∧ w.cell? ⟨b, 4, none⟩ = some (.slice g.mv g.mvL g.mvC) := by
  have := h.at_
  unfold Iq.at at this
  simpa only [Nat.zero_add] using this
end Go.Proofs.YtahdmomadbbhoaaGreat
end
section
namespace Go.Proofs.YtahdmomadbbhoaaGreat
open Go.ChangeShapes Go.WideShapes Go.ChangeAt Go.RowKit
set_option linter.unusedVariables false
set_option linter.unusedSimpArgs false

structure Sx where
  (n : Int)
deriving DecidableEq
def Sx.cells (g : Sx) : List Value := [.int .i64 g.n]
def Sx.val (g : Sx) : Value := .int .i64 g.n
def Sx.zero : Sx := ⟨0⟩
theorem Sx.len (g : Sx) : g.cells.length = 1 := rfl
theorem Sx.one (g : Sx) : ∀ u ∈ g.cells, u.oneCell' = true := by
  intro u hu
  simp only [Sx.cells, List.mem_cons, List.not_mem_nil, or_false] at hu
  subst hu; rfl
def Sx.at (g : Sx) (w : World) (b o : Nat) : Prop :=
  w.cell? ⟨b, o, none⟩ = some (.int .i64 g.n) ∧ True
theorem Sx.at_of {w : World} {b o : Nat} {g : Sx} (h : ∀ j u, g.cells[j]? = some u → w.cell? ⟨b, o + j, none⟩ = some u) : g.at w b o :=
  ⟨h 0 _ rfl, trivial⟩
theorem Sx.at_keep {w w' : World} {b o : Nat} {g : Sx} (h : g.at w b o) (k : ∀ i, w'.cell? ⟨b, i, none⟩ = w.cell? ⟨b, i, none⟩) : g.at w' b o := by
  unfold Sx.at at *
  simp only [k]
  exact h
theorem Sl.sx {w : World} {A : Option Addr} {l : List Sx} (h : Sl w A (rc Sx.cells l)) {k : Nat} (hk : k < l.length) : ∃ b o, A = some ⟨b, o, none⟩ ∧ b < w.heap.size ∧ l[k].at w b (o + k) := by
  obtain ⟨b, o, hA, hb, hc⟩ := Sl.elem (m := 1) Sx.len (by decide) h hk
  exact ⟨b, o, hA, hb, Sx.at_of (by simpa only [Nat.mul_one] using hc)⟩
def Sx.Tells (F : Nat) (caps : Array Value) (p : Sx → Bool) (B : Nat) (w : World) : Prop :=
  ∀ (g : Sx) (W : World), Below B w W → Calls Tryz.prog F (#[g.val] ++ caps) W fun e w' => e = .returned (.bool (p g)) ∧ Below W.heap.size W w'
theorem Sx.Tells.below {F : Nat} {caps : Array Value} {p : Sx → Bool} {B : Nat} {w w1 : World} (h : Sx.Tells F caps p B w) (hb : Below B w w1) {C : Nat} (hC : B ≤ C) : Sx.Tells F caps p C w1 :=
  fun g W hW => h g W (hb.trans (hW.mono hC))
end Go.Proofs.YtahdmomadbbhoaaGreat
end
section
namespace Go.Proofs.YtahdmomadbbhoaaGreat
open Go.ChangeShapes Go.WideShapes Go.ChangeAt Go.RowKit
set_option linter.unusedVariables false
set_option linter.unusedSimpArgs false

def Sx.Df (p : Sx → Bool) (l : List Sx) (n c g B : Nat) (w : World) (i j : Value) (wr : World) : Prop :=
  ∃ (kk jj : Nat) (l' : List Sx), i = .int .i64 kk ∧ j = .int .i64 jj ∧ jj ≤ n ∧ kk < jj ∧ l'.length = n ∧ l'.take kk = (l.take jj).filter (fun g => !p g) ∧ (∀ t, jj ≤ t → l'[t]? = l[t]?) ∧
    wr.ownsRow B 2 1 (.slice (some ⟨g, 0, none⟩) n c) n (rc Sx.cells l') ∧ Below B w wr
end Go.Proofs.YtahdmomadbbhoaaGreat
end
section
namespace Go.Proofs.YtahdmomadbbhoaaGreat
open Go.ChangeShapes Go.WideShapes Go.ChangeAt Go.RowKit
set_option linter.unusedVariables false
set_option linter.unusedSimpArgs false

def Sx.Tells2 (F : Nat) (caps : Array Value) (ah : Sx → Sx → Bool) (B : Nat) (w : World) : Prop :=
  ∀ (a b : Sx) (W : World), Below B w W → Calls Tryz.prog F (#[a.val, b.val] ++ caps) W fun e w' => e = .returned (.bool (ah a b)) ∧ Below W.heap.size W w'
theorem Sx.Tells2.below {F : Nat} {caps : Array Value} {ah : Sx → Sx → Bool} {B : Nat} {w w1 : World} (h : Sx.Tells2 F caps ah B w) (hb : Below B w w1) {C : Nat} (hC : B ≤ C) : Sx.Tells2 F caps ah C w1 :=
  fun a b W hW => h a b W (hb.trans (hW.mono hC))
structure Sx.Bx (w : World) (b : Nat) (g : Sx) : Prop where
  lt : b < w.heap.size
  at_ : g.at w b 0
  hp : w.heap[b]? = some (.cells g.cells.toArray 2 (0, 0))
theorem Sx.Bx.new (w : World) (g : Sx) : Sx.Bx (w.alloc (.cells g.cells.toArray 2)) w.heap.size g := by
  have h := heap_alloc_new w (.cells g.cells.toArray 2 (0, 0))
  refine ⟨by simp, Sx.at_of fun j u hu => ?_, h⟩
  rw [Nat.zero_add, cell_of_row _ _ j g.cells.toArray 2 (0, 0) h]
  simpa using hu
theorem Sx.Bx.below {w w' : World} {b : Nat} {g : Sx} (h : Sx.Bx w b g) (hb : Below w.heap.size w w') : Sx.Bx w' b g :=
  ⟨Nat.lt_of_lt_of_le h.lt hb.size, Sx.at_keep h.at_ fun i => hb.cell (p := ⟨b, i, none⟩) h.lt, (hb.block b h.lt).trans h.hp⟩
theorem Sx.Bx.sl {w : World} {b : Nat} {g : Sx} (h : Sx.Bx w b g) : Sl w (some ⟨b, 0, none⟩) g.cells := by
  intro _
  refine ⟨b, 0, rfl, fun j u hu => ?_⟩
  rw [Nat.zero_add, cell_of_row _ _ j g.cells.toArray 2 (0, 0) h.hp]
  simpa using hu
theorem Sx.Bx.got {w : World} {b : Nat} {g : Sx} (h : Sx.Bx w b g) : w.cell? ⟨b, 0, none⟩ = some (.int .i64 g.n) ∧ True := by
  have := h.at_
  unfold Sx.at at this
  simpa only [Nat.zero_add] using this
end Go.Proofs.YtahdmomadbbhoaaGreat
end
section
namespace Go.Proofs.YtahdmomadbbhoaaGreat
open Go.ChangeShapes Go.WideShapes Go.ChangeAt Go.RowKit
set_option linter.unusedVariables false
set_option linter.unusedSimpArgs false
section
variable {α : Type}
def putR (ah : α → α → Bool) : List α → α → List α
  | [], x => [x]
  | a :: r, x => if ah a x then a :: putR ah r x else if ah x a then x :: a :: r else x :: r
theorem putL_eq (ah : α → α → Bool) (x : α) : ∀ l : List α, putL ah l x = putR ah l x := by
  intro l
  induction l with
  | nil => rfl
  | cons a r ih =>
    unfold putR
    by_cases h : ah a x = true
    · rw [if_pos h, ← ih]
      unfold putL
      rw [List.findIdx?_cons, h]
      simp only [Bool.not_true, Bool.false_eq_true, if_false]
      cases hf : r.findIdx? (fun y => !ah y x) with
      | none => simp
      | some k =>
        have hk : k < r.length := by rw [List.findIdx?_eq_some_iff_getElem] at hf; exact hf.1
        simp only [Option.map_some, List.getElem?_cons_succ, List.getElem?_eq_getElem hk]
        split <;> simp
    · have h' : ah a x = false := by simpa using h
      rw [if_neg h]
      unfold putL
      rw [List.findIdx?_cons, h']
      simp only [Bool.not_false, if_true, List.getElem?_cons_zero]
      split <;> simp
structure Ord (ah : α → α → Bool) : Prop where
  tr : ∀ a b c, ah a b = true → ah b c = true → ah a c = true
  asy : ∀ a b, ah a b = true → ah b a = false
  cong : ∀ a x b, ah a x = false → ah x a = false → ah a b = ah x b
  cong2 : ∀ a x b, ah a x = false → ah x a = false → ah b a = ah b x
theorem rising_pairwise {ah : α → α → Bool} (o : Ord ah) : ∀ l : List α, risingL ah l = true ↔ l.Pairwise (fun a b => ah a b = true)
  | [] => by simp [risingL]
  | [a] => by simp [risingL]
  | a :: b :: r => by
    have ih := rising_pairwise o (b :: r)
    simp only [risingL, Bool.and_eq_true, ih]
    constructor
    · rintro ⟨h1, h2⟩
      refine List.Pairwise.cons ?_ h2
      intro c hc
      rcases List.mem_cons.1 hc with rfl | hc
      · exact h1
      · exact o.tr _ _ _ h1 (List.rel_of_pairwise_cons h2 hc)
    · intro h
      exact ⟨List.rel_of_pairwise_cons h (by simp), h.of_cons⟩
theorem mem_putR {ah : α → α → Bool} (x : α) : ∀ (l : List α) (y : α), y ∈ putR ah l x → y = x ∨ y ∈ l
  | [], y, h => by simp [putR] at h; exact .inl h
  | a :: r, y, h => by
    unfold putR at h
    split at h
    · rcases List.mem_cons.1 h with h | h
      · exact .inr (by simp [h])
      · rcases mem_putR x r y h with h | h
        · exact .inl h
        · exact .inr (by simp [h])
    · split at h
      · rcases List.mem_cons.1 h with h | h
        · exact .inl h
        · exact .inr h
      · rcases List.mem_cons.1 h with h | h
        · exact .inl h
        · exact .inr (by simp [h])
theorem pairwise_putR {ah : α → α → Bool} (o : Ord ah) (x : α) : ∀ (l : List α), l.Pairwise (fun a b => ah a b = true) → (putR ah l x).Pairwise (fun a b => ah a b = true)
  | [], _ => by simp [putR]
  | a :: r, hp => by
    have ha : ∀ b ∈ r, ah a b = true := fun b hb => List.rel_of_pairwise_cons hp hb
    unfold putR
    by_cases h : ah a x = true
    · rw [if_pos h]
      refine List.Pairwise.cons (fun b hb => ?_) (pairwise_putR o x r hp.of_cons)
      rcases mem_putR x r b hb with rfl | hb
      · exact h
      · exact ha b hb
    · rw [if_neg h]
      have h' : ah a x = false := by simpa using h
      by_cases h2 : ah x a = true
      · rw [if_pos h2]
        refine List.Pairwise.cons (fun b hb => ?_) hp
        rcases List.mem_cons.1 hb with rfl | hb
        · exact h2
        · exact o.tr _ _ _ h2 (ha b hb)
      · rw [if_neg h2]
        have h2' : ah x a = false := by simpa using h2
        exact List.Pairwise.cons (fun b hb => by rw [← o.cong a x b h' h2']; exact ha b hb) hp.of_cons
theorem length_putR {ah : α → α → Bool} (x : α) : ∀ (l : List α), (putR ah l x).length ≤ l.length + 1
  | [] => by simp [putR]
  | a :: r => by
    have := length_putR (ah := ah) x r
    unfold putR
    split
    · simp; omega
    · split <;> simp
end
end Go.Proofs.YtahdmomadbbhoaaGreat
end
section
namespace Go.Proofs.YtahdmomadbbhoaaGreat
open Go.ChangeShapes Go.WideShapes Go.ChangeAt Go.RowKit
set_option linter.unusedVariables false
set_option linter.unusedSimpArgs false

theorem own_kept_types {w w' : World} {B B' e e' s s' : Nat} {v v' : Value} {n n' : Nat} {xs ys : List Value} (hne : e ≠ e') (h : w.ownsRow B e s v n xs) (ho : w.ownsRow B' e' s' v' n' ys) (hg : w.grownBy w' v'.ownBlock) : w'.ownsRow B e s v n xs := by
  refine h.kept hg ?_
  rcases h.2 with ⟨rfl, _⟩ | ⟨g, cap, cur, rfl, _, hh, _⟩
  · exact .inl rfl
  · right
    rcases ho.2 with ⟨rfl, _⟩ | ⟨g', cap', cur', rfl, _, hh', _⟩
    · simp [Value.ownBlock]
    · simp only [Value.ownBlock, ne_eq, Option.some.injEq]
      intro e
      subst e
      rw [hh] at hh'
      injection hh' with hh'
      injection hh' with _ e
      exact absurd e hne
theorem own_setFar' {w : World} {B e size n : Nat} {v : Value} {xs : List Value} (h : w.ownsRow B e size v n xs) {p : Addr} (hp : p.block < B) (u : Value) : (w.setCell p u).ownsRow B e size v n xs := by
  obtain ⟨h1, h2⟩ := h
  refine ⟨h1, ?_⟩
  rcases h2 with h2 | ⟨g, cap, cur, hv, hg, hh, hr⟩
  · exact .inl h2
  · refine .inr ⟨g, cap, cur, hv, hg, ?_, hr⟩
    have hne : p.block ≠ g := by omega
    rw [← hh]
    unfold World.setCell
    simp [Array.getElem?_modify, hne]
end Go.Proofs.YtahdmomadbbhoaaGreat
end
