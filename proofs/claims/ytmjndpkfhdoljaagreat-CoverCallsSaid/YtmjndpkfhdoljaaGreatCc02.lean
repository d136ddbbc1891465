import Derived.Test.YtmjndpkfhdoljaaGreatCc01
import Derived.Deep.RegionLaw
import Derived.Lib.SliceRun
import Derived.Deep.DeepCutAuto
import Derived.Deep.RegionHeld3
set_option maxHeartbeats 16000000
set_option maxRecDepth 100000
set_option linter.unusedVariables false
set_option linter.unusedSimpArgs false
namespace Go.Proofs.YtmjndpkfhdoljaaGreat
open Go.ChangeShapes Go.WideShapes Go.ChangeAt Go.RowKit
section
section
variable {α : Type}
def putR (ah : α → α → Bool) : List α → α → List α
  | [], x => [x]
  | a :: r, x => if ah a x then a :: putR ah r x else if ah x a then x :: a :: r else x :: r
structure Ord (ah : α → α → Bool) : Prop where
  tr : ∀ a b c, ah a b = true → ah b c = true → ah a c = true
  asy : ∀ a b, ah a b = true → ah b a = false
  cong : ∀ a x b, ah a x = false → ah x a = false → ah a b = ah x b
  cong2 : ∀ a x b, ah a x = false → ah x a = false → ah b a = ah b x
def eqv (ah : α → α → Bool) (x y : α) : Bool := !ah x y && !ah y x
theorem rising_pairwise {ah : α → α → Bool} (o : Ord ah) : ∀ l : List α, risingL ah l = true ↔ l.Pairwise (fun a b => ah a b = true)
  | [] => by simp [risingL]
  | [a] => by simp [risingL]
  | a :: b :: r => by
    have ih := rising_pairwise o (b :: r)
    simp only [risingL, Bool.and_eq_true, ih]
    constructor
    · rintro ⟨h1, h2⟩
      refine List.Pairwise.cons ?_ h2
      intro c hc
      rcases List.mem_cons.1 hc with rfl | hc
      · exact h1
      · exact o.tr _ _ _ h1 (List.rel_of_pairwise_cons h2 hc)
    · intro h
      exact ⟨List.rel_of_pairwise_cons h (by simp), h.of_cons⟩
theorem mem_putR {ah : α → α → Bool} (x : α) : ∀ (l : List α) (y : α), y ∈ putR ah l x → y = x ∨ y ∈ l
  | [], y, h => by simp [putR] at h; exact .inl h
  | a :: r, y, h => by
    unfold putR at h
    split at h
    · rcases List.mem_cons.1 h with h | h
      · exact .inr (by simp [h])
      · rcases mem_putR x r y h with h | h
        · exact .inl h
        · exact .inr (by simp [h])
    · split at h
      · rcases List.mem_cons.1 h with h | h
        · exact .inl h
        · exact .inr h
      · rcases List.mem_cons.1 h with h | h
        · exact .inl h
        · exact .inr (by simp [h])
theorem pairwise_putR {ah : α → α → Bool} (o : Ord ah) (x : α) : ∀ (l : List α), l.Pairwise (fun a b => ah a b = true) → (putR ah l x).Pairwise (fun a b => ah a b = true)
  | [], _ => by simp [putR]
  | a :: r, hp => by
    have ha : ∀ b ∈ r, ah a b = true := fun b hb => List.rel_of_pairwise_cons hp hb
    unfold putR
    by_cases h : ah a x = true
    · rw [if_pos h]
      refine List.Pairwise.cons (fun b hb => ?_) (pairwise_putR o x r hp.of_cons)
      rcases mem_putR x r b hb with rfl | hb
      · exact h
      · exact ha b hb
    · rw [if_neg h]
      have h' : ah a x = false := by simpa using h
      by_cases h2 : ah x a = true
      · rw [if_pos h2]
        refine List.Pairwise.cons (fun b hb => ?_) hp
        rcases List.mem_cons.1 hb with rfl | hb
        · exact h2
        · exact o.tr _ _ _ h2 (ha b hb)
      · rw [if_neg h2]
        have h2' : ah x a = false := by simpa using h2
        exact List.Pairwise.cons (fun b hb => by rw [← o.cong a x b h' h2']; exact ha b hb) hp.of_cons
theorem length_putR {ah : α → α → Bool} (x : α) : ∀ (l : List α), (putR ah l x).length ≤ l.length + 1
  | [] => by simp [putR]
  | a :: r => by
    have := length_putR (ah := ah) x r
    unfold putR
    split
    · simp; omega
    · split <;> simp
def refPut (ah : α → α → Bool) (l : List α) (x : α) : List α :=
  (l.filter fun y => !eqv ah x y).take ((l.filter fun y => !eqv ah x y).findIdx fun y => !ah y x) ++ x :: (l.filter fun y => !eqv ah x y).drop ((l.filter fun y => !eqv ah x y).findIdx fun y => !ah y x)
theorem refPut_eq {ah : α → α → Bool} (o : Ord ah) (x : α) : ∀ l : List α, l.Pairwise (fun a b => ah a b = true) → refPut ah l x = putR ah l x := by
  intro l
  induction l with
  | nil => intro _; simp [refPut, putR]
  | cons a r ih =>
    intro hp
    have hr := hp.of_cons
    have ha : ∀ b ∈ r, ah a b = true := fun b hb => List.rel_of_pairwise_cons hp hb
    unfold putR
    by_cases h : ah a x = true
    · rw [if_pos h, ← ih hr]
      have h2 := o.asy _ _ h
      unfold refPut
      rw [List.filter_cons]
      have he : eqv ah x a = false := by simp [eqv, h]
      simp only [he, Bool.not_false, if_true, List.findIdx_cons, h, Bool.not_true, cond_false, List.take_succ_cons, List.drop_succ_cons, List.cons_append]
    · have h' : ah a x = false := by simpa using h
      rw [if_neg h]
      have hall : ∀ b ∈ r, ah x b = true → eqv ah x b = false ∧ ah b x = false := fun b hb hxb => ⟨by simp [eqv, hxb], o.asy _ _ hxb⟩
      by_cases h2 : ah x a = true
      · rw [if_pos h2]
        have hf : (a :: r).filter (fun y => !eqv ah x y) = a :: r := by
          rw [List.filter_eq_self]
          intro b hb
          rcases List.mem_cons.1 hb with rfl | hb
          · simp [eqv, h2]
          · simp [eqv, o.tr _ _ _ h2 (ha b hb)]
        unfold refPut
        rw [hf, List.findIdx_cons, h']
        simp
      · have h2' : ah x a = false := by simpa using h2
        rw [if_neg h2]
        have hx : ∀ b ∈ r, ah x b = true := fun b hb => by rw [← o.cong a x b h' h2']; exact ha b hb
        have hf : (a :: r).filter (fun y => !eqv ah x y) = r := by
          rw [List.filter_cons]
          have he : eqv ah x a = true := by simp [eqv, h', h2']
          simp only [he, Bool.not_true, Bool.false_eq_true, if_false]
          rw [List.filter_eq_self]
          intro b hb
          simp [eqv, hx b hb]
        unfold refPut
        rw [hf]
        cases r with
        | nil => simp
        | cons b s =>
          rw [List.findIdx_cons, o.asy _ _ (hx b (by simp))]
          simp
end
end
section
def isCl (c : Int) : Bool := decide (1 ≤ c) && decide (c ≤ 16)
def ahN (x y : Nt) : Bool := decide (x.n < y.n)
end
section
structure Ac where
  (id : Int) (mem : Int) (kind : Int) (cl : Option Addr) (clL clC : Nat)
deriving DecidableEq
def Ac.cells (g : Ac) : List Value := [.int .i64 g.id, .int .i64 g.mem, .int .i64 g.kind, .slice g.cl g.clL g.clC]
def Ac.val (g : Ac) : Value := .agg #[.int .i64 g.id, .int .i64 g.mem, .int .i64 g.kind, .slice g.cl g.clL g.clC]
def Ac.zero : Ac := ⟨0, 0, 0, none, 0, 0⟩
theorem Ac.len (g : Ac) : g.cells.length = 4 := rfl
theorem Ac.one (g : Ac) : ∀ u ∈ g.cells, u.oneCell' = true := by
  intro u hu
  simp only [Ac.cells, List.mem_cons, List.not_mem_nil, or_false] at hu
  rcases hu with h | h | h | h <;> subst h <;> rfl
def Ac.at (g : Ac) (w : World) (b o : Nat) : Prop :=
  w.cell? ⟨b, o, none⟩ = some (.int .i64 g.id) ∧ w.cell? ⟨b, o + 1, none⟩ = some (.int .i64 g.mem) ∧ w.cell? ⟨b, o + 2, none⟩ = some (.int .i64 g.kind) ∧ w.cell? ⟨b, o + 3, none⟩ = some (.slice g.cl g.clL g.clC)
theorem Ac.at_of {w : World} {b o : Nat} {g : Ac} (h : ∀ j u, g.cells[j]? = some u → w.cell? ⟨b, o + j, none⟩ = some u) : g.at w b o :=
  ⟨h 0 _ rfl, h 1 _ rfl, h 2 _ rfl, h 3 _ rfl⟩
theorem Ac.at_keep {w w' : World} {b o : Nat} {g : Ac} (h : g.at w b o) (k : ∀ i, w'.cell? ⟨b, i, none⟩ = w.cell? ⟨b, i, none⟩) : g.at w' b o := by
  unfold Ac.at at *
  simp only [k]
  exact h
theorem Sl.ac {w : World} {A : Option Addr} {l : List Ac} (h : Sl w A (rc Ac.cells l)) {k : Nat} (hk : k < l.length) : ∃ b o, A = some ⟨b, o, none⟩ ∧ b < w.heap.size ∧ l[k].at w b (o + k * 4) := by
  obtain ⟨b, o, hA, hb, hc⟩ := Sl.elem (m := 4) Ac.len (by decide) h hk
  exact ⟨b, o, hA, hb, Ac.at_of hc⟩
theorem EAc : Elem Tryz.prog 52 31 4 48 := Elem.mk' (z := .agg #[.int .i64 0, .int .i64 0, .int .i64 0, .slice none 0 0]) (by kernel_rfl) (by kernel_rfl) (by decide) (by decide)
def Ac.Tells (F : Nat) (caps : Array Value) (p : Ac → Bool) (B : Nat) (w : World) : Prop :=
  ∀ (g : Ac) (W : World), Below B w W → Calls Tryz.prog F (#[g.val] ++ caps) W fun e w' => e = .returned (.bool (p g)) ∧ Below W.heap.size W w'
theorem Ac.Tells.below {F : Nat} {caps : Array Value} {p : Ac → Bool} {B : Nat} {w w1 : World} (h : Ac.Tells F caps p B w) (hb : Below B w w1) {C : Nat} (hC : B ≤ C) : Ac.Tells F caps p C w1 :=
  fun g W hW => h g W (hb.trans (hW.mono hC))
end
section
def Ac.Tells2 (F : Nat) (caps : Array Value) (ah : Ac → Ac → Bool) (B : Nat) (w : World) : Prop :=
  ∀ (a b : Ac) (W : World), Below B w W → Calls Tryz.prog F (#[a.val, b.val] ++ caps) W fun e w' => e = .returned (.bool (ah a b)) ∧ Below W.heap.size W w'
theorem Ac.Tells2.below {F : Nat} {caps : Array Value} {ah : Ac → Ac → Bool} {B : Nat} {w w1 : World} (h : Ac.Tells2 F caps ah B w) (hb : Below B w w1) {C : Nat} (hC : B ≤ C) : Ac.Tells2 F caps ah C w1 :=
  fun a b W hW => h a b W (hb.trans (hW.mono hC))
structure Ac.Bx (w : World) (b : Nat) (g : Ac) : Prop where
  lt : b < w.heap.size
  at_ : g.at w b 0
  hp : w.heap[b]? = some (.cells g.cells.toArray 31 (0, 0))
theorem Ac.Bx.new (w : World) (g : Ac) : Ac.Bx (w.alloc (.cells g.cells.toArray 31)) w.heap.size g := by
  have h := heap_alloc_new w (.cells g.cells.toArray 31 (0, 0))
  refine ⟨by simp, Ac.at_of fun j u hu => ?_, h⟩
  rw [Nat.zero_add, cell_of_row _ _ j g.cells.toArray 31 (0, 0) h]
  simpa using hu
theorem Ac.Bx.below {w w' : World} {b : Nat} {g : Ac} (h : Ac.Bx w b g) (hb : Below w.heap.size w w') : Ac.Bx w' b g :=
  ⟨Nat.lt_of_lt_of_le h.lt hb.size, Ac.at_keep h.at_ fun i => hb.cell (p := ⟨b, i, none⟩) h.lt, (hb.block b h.lt).trans h.hp⟩
theorem Ac.Bx.sl {w : World} {b : Nat} {g : Ac} (h : Ac.Bx w b g) : Sl w (some ⟨b, 0, none⟩) g.cells := by
  intro _
  refine ⟨b, 0, rfl, fun j u hu => ?_⟩
  rw [Nat.zero_add, cell_of_row _ _ j g.cells.toArray 31 (0, 0) h.hp]
  simpa using hu
theorem Ac.Bx.got {w : World} {b : Nat} {g : Ac} (h : Ac.Bx w b g) : w.cell? ⟨b, 0, none⟩ = some (.int .i64 g.id) ∧ w.cell? ⟨b, 1, none⟩ = some (.int .i64 g.mem) ∧ w.cell? ⟨b, 2, none⟩ = some (.int .i64 g.kind) ∧ w.cell? ⟨b, 3, none⟩ = some (.slice g.cl g.clL g.clC) := by
  have := h.at_
  unfold Ac.at at this
  simpa only [Nat.zero_add] using this
end
section
def okC (id mem kind : Int) (L : List Nt) : Prop :=
  1 ≤ id ∧ id ≤ 16 ∧ 1 ≤ mem ∧ mem ≤ 8 ∧ 1 ≤ kind ∧ kind ≤ 4 ∧ (kind = 1 → L.length = 0) ∧ (kind = 4 → L.length ≤ 1) ∧ (∀ j, (h : j < L.length) → isCl L[j].n = true) ∧ risingL ahN L = true
end
end Go.Proofs.YtmjndpkfhdoljaaGreat
