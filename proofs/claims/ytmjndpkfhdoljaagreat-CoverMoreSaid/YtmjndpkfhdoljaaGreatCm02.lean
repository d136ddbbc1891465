import Derived.Test.YtmjndpkfhdoljaaGreatCm01
import Derived.Deep.RegionLaw
import Derived.Lib.SliceRun
import Derived.Deep.DeepCutAuto
import Derived.Deep.RegionHeld3
set_option maxHeartbeats 16000000
set_option maxRecDepth 100000
set_option linter.unusedVariables false
set_option linter.unusedSimpArgs false
namespace Go.Proofs.YtmjndpkfhdoljaaGreat
open Go.ChangeShapes Go.WideShapes Go.ChangeAt Go.RowKit
section
section
variable {α : Type}
def putR (ah : α → α → Bool) : List α → α → List α
  | [], x => [x]
  | a :: r, x => if ah a x then a :: putR ah r x else if ah x a then x :: a :: r else x :: r
structure Ord (ah : α → α → Bool) : Prop where
  tr : ∀ a b c, ah a b = true → ah b c = true → ah a c = true
  asy : ∀ a b, ah a b = true → ah b a = false
  cong : ∀ a x b, ah a x = false → ah x a = false → ah a b = ah x b
  cong2 : ∀ a x b, ah a x = false → ah x a = false → ah b a = ah b x
def eqv (ah : α → α → Bool) (x y : α) : Bool := !ah x y && !ah y x
theorem rising_pairwise {ah : α → α → Bool} (o : Ord ah) : ∀ l : List α, risingL ah l = true ↔ l.Pairwise (fun a b => ah a b = true)
  | [] => by simp [risingL]
  | [a] => by simp [risingL]
  | a :: b :: r => by
    have ih := rising_pairwise o (b :: r)
    simp only [risingL, Bool.and_eq_true, ih]
    constructor
    · rintro ⟨h1, h2⟩
      refine List.Pairwise.cons ?_ h2
      intro c hc
      rcases List.mem_cons.1 hc with rfl | hc
      · exact h1
      · exact o.tr _ _ _ h1 (List.rel_of_pairwise_cons h2 hc)
    · intro h
      exact ⟨List.rel_of_pairwise_cons h (by simp), h.of_cons⟩
theorem mem_putR {ah : α → α → Bool} (x : α) : ∀ (l : List α) (y : α), y ∈ putR ah l x → y = x ∨ y ∈ l
  | [], y, h => by simp [putR] at h; exact .inl h
  | a :: r, y, h => by
    unfold putR at h
    split at h
    · rcases List.mem_cons.1 h with h | h
      · exact .inr (by simp [h])
      · rcases mem_putR x r y h with h | h
        · exact .inl h
        · exact .inr (by simp [h])
    · split at h
      · rcases List.mem_cons.1 h with h | h
        · exact .inl h
        · exact .inr h
      · rcases List.mem_cons.1 h with h | h
        · exact .inl h
        · exact .inr (by simp [h])
theorem pairwise_putR {ah : α → α → Bool} (o : Ord ah) (x : α) : ∀ (l : List α), l.Pairwise (fun a b => ah a b = true) → (putR ah l x).Pairwise (fun a b => ah a b = true)
  | [], _ => by simp [putR]
  | a :: r, hp => by
    have ha : ∀ b ∈ r, ah a b = true := fun b hb => List.rel_of_pairwise_cons hp hb
    unfold putR
    by_cases h : ah a x = true
    · rw [if_pos h]
      refine List.Pairwise.cons (fun b hb => ?_) (pairwise_putR o x r hp.of_cons)
      rcases mem_putR x r b hb with rfl | hb
      · exact h
      · exact ha b hb
    · rw [if_neg h]
      have h' : ah a x = false := by simpa using h
      by_cases h2 : ah x a = true
      · rw [if_pos h2]
        refine List.Pairwise.cons (fun b hb => ?_) hp
        rcases List.mem_cons.1 hb with rfl | hb
        · exact h2
        · exact o.tr _ _ _ h2 (ha b hb)
      · rw [if_neg h2]
        have h2' : ah x a = false := by simpa using h2
        exact List.Pairwise.cons (fun b hb => by rw [← o.cong a x b h' h2']; exact ha b hb) hp.of_cons
theorem length_putR {ah : α → α → Bool} (x : α) : ∀ (l : List α), (putR ah l x).length ≤ l.length + 1
  | [] => by simp [putR]
  | a :: r => by
    have := length_putR (ah := ah) x r
    unfold putR
    split
    · simp; omega
    · split <;> simp
def refPut (ah : α → α → Bool) (l : List α) (x : α) : List α :=
  (l.filter fun y => !eqv ah x y).take ((l.filter fun y => !eqv ah x y).findIdx fun y => !ah y x) ++ x :: (l.filter fun y => !eqv ah x y).drop ((l.filter fun y => !eqv ah x y).findIdx fun y => !ah y x)
theorem refPut_eq {ah : α → α → Bool} (o : Ord ah) (x : α) : ∀ l : List α, l.Pairwise (fun a b => ah a b = true) → refPut ah l x = putR ah l x := by
  intro l
  induction l with
  | nil => intro _; simp [refPut, putR]
  | cons a r ih =>
    intro hp
    have hr := hp.of_cons
    have ha : ∀ b ∈ r, ah a b = true := fun b hb => List.rel_of_pairwise_cons hp hb
    unfold putR
    by_cases h : ah a x = true
    · rw [if_pos h, ← ih hr]
      have h2 := o.asy _ _ h
      unfold refPut
      rw [List.filter_cons]
      have he : eqv ah x a = false := by simp [eqv, h]
      simp only [he, Bool.not_false, if_true, List.findIdx_cons, h, Bool.not_true, cond_false, List.take_succ_cons, List.drop_succ_cons, List.cons_append]
    · have h' : ah a x = false := by simpa using h
      rw [if_neg h]
      have hall : ∀ b ∈ r, ah x b = true → eqv ah x b = false ∧ ah b x = false := fun b hb hxb => ⟨by simp [eqv, hxb], o.asy _ _ hxb⟩
      by_cases h2 : ah x a = true
      · rw [if_pos h2]
        have hf : (a :: r).filter (fun y => !eqv ah x y) = a :: r := by
          rw [List.filter_eq_self]
          intro b hb
          rcases List.mem_cons.1 hb with rfl | hb
          · simp [eqv, h2]
          · simp [eqv, o.tr _ _ _ h2 (ha b hb)]
        unfold refPut
        rw [hf, List.findIdx_cons, h']
        simp
      · have h2' : ah x a = false := by simpa using h2
        rw [if_neg h2]
        have hx : ∀ b ∈ r, ah x b = true := fun b hb => by rw [← o.cong a x b h' h2']; exact ha b hb
        have hf : (a :: r).filter (fun y => !eqv ah x y) = r := by
          rw [List.filter_cons]
          have he : eqv ah x a = true := by simp [eqv, h', h2']
          simp only [he, Bool.not_true, Bool.false_eq_true, if_false]
          rw [List.filter_eq_self]
          intro b hb
          simp [eqv, hx b hb]
        unfold refPut
        rw [hf]
        cases r with
        | nil => simp
        | cons b s =>
          rw [List.findIdx_cons, o.asy _ _ (hx b (by simp))]
          simp
end
end
section
def isCl (c : Int) : Bool := decide (1 ≤ c) && decide (c ≤ 16)
def ahN (x y : Nt) : Bool := decide (x.n < y.n)
end
section
structure Ac where
  (id : Int) (mem : Int) (kind : Int) (cl : Option Addr) (clL clC : Nat)
deriving DecidableEq
def Ac.cells (g : Ac) : List Value := [.int .i64 g.id, .int .i64 g.mem, .int .i64 g.kind, .slice g.cl g.clL g.clC]
def Ac.val (g : Ac) : Value := .agg #[.int .i64 g.id, .int .i64 g.mem, .int .i64 g.kind, .slice g.cl g.clL g.clC]
def Ac.zero : Ac := ⟨0, 0, 0, none, 0, 0⟩
theorem Ac.len (g : Ac) : g.cells.length = 4 := rfl
theorem Ac.one (g : Ac) : ∀ u ∈ g.cells, u.oneCell' = true := by
  intro u hu
  simp only [Ac.cells, List.mem_cons, List.not_mem_nil, or_false] at hu
  rcases hu with h | h | h | h <;> subst h <;> rfl
def Ac.at (g : Ac) (w : World) (b o : Nat) : Prop :=
  w.cell? ⟨b, o, none⟩ = some (.int .i64 g.id) ∧ w.cell? ⟨b, o + 1, none⟩ = some (.int .i64 g.mem) ∧ w.cell? ⟨b, o + 2, none⟩ = some (.int .i64 g.kind) ∧ w.cell? ⟨b, o + 3, none⟩ = some (.slice g.cl g.clL g.clC)
theorem Ac.at_of {w : World} {b o : Nat} {g : Ac} (h : ∀ j u, g.cells[j]? = some u → w.cell? ⟨b, o + j, none⟩ = some u) : g.at w b o :=
  ⟨h 0 _ rfl, h 1 _ rfl, h 2 _ rfl, h 3 _ rfl⟩
theorem Ac.at_keep {w w' : World} {b o : Nat} {g : Ac} (h : g.at w b o) (k : ∀ i, w'.cell? ⟨b, i, none⟩ = w.cell? ⟨b, i, none⟩) : g.at w' b o := by
  unfold Ac.at at *
  simp only [k]
  exact h
theorem Sl.ac {w : World} {A : Option Addr} {l : List Ac} (h : Sl w A (rc Ac.cells l)) {k : Nat} (hk : k < l.length) : ∃ b o, A = some ⟨b, o, none⟩ ∧ b < w.heap.size ∧ l[k].at w b (o + k * 4) := by
  obtain ⟨b, o, hA, hb, hc⟩ := Sl.elem (m := 4) Ac.len (by decide) h hk
  exact ⟨b, o, hA, hb, Ac.at_of hc⟩
def Ac.Tells (F : Nat) (caps : Array Value) (p : Ac → Bool) (B : Nat) (w : World) : Prop :=
  ∀ (g : Ac) (W : World), Below B w W → Calls Tryz.prog F (#[g.val] ++ caps) W fun e w' => e = .returned (.bool (p g)) ∧ Below W.heap.size W w'
theorem Ac.Tells.below {F : Nat} {caps : Array Value} {p : Ac → Bool} {B : Nat} {w w1 : World} (h : Ac.Tells F caps p B w) (hb : Below B w w1) {C : Nat} (hC : B ≤ C) : Ac.Tells F caps p C w1 :=
  fun g W hW => h g W (hb.trans (hW.mono hC))
end
section
def Ac.Tells2 (F : Nat) (caps : Array Value) (ah : Ac → Ac → Bool) (B : Nat) (w : World) : Prop :=
  ∀ (a b : Ac) (W : World), Below B w W → Calls Tryz.prog F (#[a.val, b.val] ++ caps) W fun e w' => e = .returned (.bool (ah a b)) ∧ Below W.heap.size W w'
theorem Ac.Tells2.below {F : Nat} {caps : Array Value} {ah : Ac → Ac → Bool} {B : Nat} {w w1 : World} (h : Ac.Tells2 F caps ah B w) (hb : Below B w w1) {C : Nat} (hC : B ≤ C) : Ac.Tells2 F caps ah C w1 :=
  fun a b W hW => h a b W (hb.trans (hW.mono hC))
structure Ac.Bx (w : World) (b : Nat) (g : Ac) : Prop where
  lt : b < w.heap.size
  at_ : g.at w b 0
  hp : w.heap[b]? = some (.cells g.cells.toArray 31 (0, 0))
theorem Ac.Bx.new (w : World) (g : Ac) : Ac.Bx (w.alloc (.cells g.cells.toArray 31)) w.heap.size g := by
  have h := heap_alloc_new w (.cells g.cells.toArray 31 (0, 0))
  refine ⟨by simp, Ac.at_of fun j u hu => ?_, h⟩
  rw [Nat.zero_add, cell_of_row _ _ j g.cells.toArray 31 (0, 0) h]
  simpa using hu
theorem Ac.Bx.below {w w' : World} {b : Nat} {g : Ac} (h : Ac.Bx w b g) (hb : Below w.heap.size w w') : Ac.Bx w' b g :=
  ⟨Nat.lt_of_lt_of_le h.lt hb.size, Ac.at_keep h.at_ fun i => hb.cell (p := ⟨b, i, none⟩) h.lt, (hb.block b h.lt).trans h.hp⟩
theorem Ac.Bx.sl {w : World} {b : Nat} {g : Ac} (h : Ac.Bx w b g) : Sl w (some ⟨b, 0, none⟩) g.cells := by
  intro _
  refine ⟨b, 0, rfl, fun j u hu => ?_⟩
  rw [Nat.zero_add, cell_of_row _ _ j g.cells.toArray 31 (0, 0) h.hp]
  simpa using hu
theorem Ac.Bx.got {w : World} {b : Nat} {g : Ac} (h : Ac.Bx w b g) : w.cell? ⟨b, 0, none⟩ = some (.int .i64 g.id) ∧ w.cell? ⟨b, 1, none⟩ = some (.int .i64 g.mem) ∧ w.cell? ⟨b, 2, none⟩ = some (.int .i64 g.kind) ∧ w.cell? ⟨b, 3, none⟩ = some (.slice g.cl g.clL g.clC) := by
  have := h.at_
  unfold Ac.at at this
  simpa only [Nat.zero_add] using this
end
section
def okC (id mem kind : Int) (L : List Nt) : Prop :=
  1 ≤ id ∧ id ≤ 16 ∧ 1 ≤ mem ∧ mem ≤ 8 ∧ 1 ≤ kind ∧ kind ≤ 4 ∧ (kind = 1 → L.length = 0) ∧ (kind = 4 → L.length ≤ 1) ∧ (∀ j, (h : j < L.length) → isCl L[j].n = true) ∧ risingL ahN L = true
end
section
structure Un where
  (ac : Int) (cl : Int)
deriving DecidableEq
def Un.cells (g : Un) : List Value := [.int .i64 g.ac, .int .i64 g.cl]
def Un.val (g : Un) : Value := .agg #[.int .i64 g.ac, .int .i64 g.cl]
def Un.zero : Un := ⟨0, 0⟩
theorem Un.len (g : Un) : g.cells.length = 2 := rfl
theorem Un.one (g : Un) : ∀ u ∈ g.cells, u.oneCell' = true := by
  intro u hu
  simp only [Un.cells, List.mem_cons, List.not_mem_nil, or_false] at hu
  rcases hu with h | h <;> subst h <;> rfl
def Un.at (g : Un) (w : World) (b o : Nat) : Prop :=
  w.cell? ⟨b, o, none⟩ = some (.int .i64 g.ac) ∧ w.cell? ⟨b, o + 1, none⟩ = some (.int .i64 g.cl)
theorem Un.at_of {w : World} {b o : Nat} {g : Un} (h : ∀ j u, g.cells[j]? = some u → w.cell? ⟨b, o + j, none⟩ = some u) : g.at w b o :=
  ⟨h 0 _ rfl, h 1 _ rfl⟩
theorem Un.at_keep {w w' : World} {b o : Nat} {g : Un} (h : g.at w b o) (k : ∀ i, w'.cell? ⟨b, i, none⟩ = w.cell? ⟨b, i, none⟩) : g.at w' b o := by
  unfold Un.at at *
  simp only [k]
  exact h
theorem Sl.un {w : World} {A : Option Addr} {l : List Un} (h : Sl w A (rc Un.cells l)) {k : Nat} (hk : k < l.length) : ∃ b o, A = some ⟨b, o, none⟩ ∧ b < w.heap.size ∧ l[k].at w b (o + k * 2) := by
  obtain ⟨b, o, hA, hb, hc⟩ := Sl.elem (m := 2) Un.len (by decide) h hk
  exact ⟨b, o, hA, hb, Un.at_of hc⟩
theorem EUn : Elem Tryz.prog 37 41 2 16 := Elem.mk' (z := .agg #[.int .i64 0, .int .i64 0]) (by kernel_rfl) (by kernel_rfl) (by decide) (by decide)
def Un.Tells (F : Nat) (caps : Array Value) (p : Un → Bool) (B : Nat) (w : World) : Prop :=
  ∀ (g : Un) (W : World), Below B w W → Calls Tryz.prog F (#[g.val] ++ caps) W fun e w' => e = .returned (.bool (p g)) ∧ Below W.heap.size W w'
theorem Un.Tells.below {F : Nat} {caps : Array Value} {p : Un → Bool} {B : Nat} {w w1 : World} (h : Un.Tells F caps p B w) (hb : Below B w w1) {C : Nat} (hC : B ≤ C) : Un.Tells F caps p C w1 :=
  fun g W hW => h g W (hb.trans (hW.mono hC))
end
section
def Un.Tells2 (F : Nat) (caps : Array Value) (ah : Un → Un → Bool) (B : Nat) (w : World) : Prop :=
  ∀ (a b : Un) (W : World), Below B w W → Calls Tryz.prog F (#[a.val, b.val] ++ caps) W fun e w' => e = .returned (.bool (ah a b)) ∧ Below W.heap.size W w'
theorem Un.Tells2.below {F : Nat} {caps : Array Value} {ah : Un → Un → Bool} {B : Nat} {w w1 : World} (h : Un.Tells2 F caps ah B w) (hb : Below B w w1) {C : Nat} (hC : B ≤ C) : Un.Tells2 F caps ah C w1 :=
  fun a b W hW => h a b W (hb.trans (hW.mono hC))
structure Un.Bx (w : World) (b : Nat) (g : Un) : Prop where
  lt : b < w.heap.size
  at_ : g.at w b 0
  hp : w.heap[b]? = some (.cells g.cells.toArray 41 (0, 0))
theorem Un.Bx.new (w : World) (g : Un) : Un.Bx (w.alloc (.cells g.cells.toArray 41)) w.heap.size g := by
  have h := heap_alloc_new w (.cells g.cells.toArray 41 (0, 0))
  refine ⟨by simp, Un.at_of fun j u hu => ?_, h⟩
  rw [Nat.zero_add, cell_of_row _ _ j g.cells.toArray 41 (0, 0) h]
  simpa using hu
theorem Un.Bx.below {w w' : World} {b : Nat} {g : Un} (h : Un.Bx w b g) (hb : Below w.heap.size w w') : Un.Bx w' b g :=
  ⟨Nat.lt_of_lt_of_le h.lt hb.size, Un.at_keep h.at_ fun i => hb.cell (p := ⟨b, i, none⟩) h.lt, (hb.block b h.lt).trans h.hp⟩
theorem Un.Bx.sl {w : World} {b : Nat} {g : Un} (h : Un.Bx w b g) : Sl w (some ⟨b, 0, none⟩) g.cells := by
  intro _
  refine ⟨b, 0, rfl, fun j u hu => ?_⟩
  rw [Nat.zero_add, cell_of_row _ _ j g.cells.toArray 41 (0, 0) h.hp]
  simpa using hu
theorem Un.Bx.got {w : World} {b : Nat} {g : Un} (h : Un.Bx w b g) : w.cell? ⟨b, 0, none⟩ = some (.int .i64 g.ac) ∧ w.cell? ⟨b, 1, none⟩ = some (.int .i64 g.cl) := by
  have := h.at_
  unfold Un.at at this
  simpa only [Nat.zero_add] using this
end
section
theorem own_lit {w : World} {B n size : Nat} (cs : List Value) (e : TypeId) (hB : B ≤ w.heap.size) (hl : cs.length = n * size) (hn : n ≤ maxLen) :
    (w.alloc (.cells cs.toArray e)).ownsRow B e size (.slice (some ⟨w.heap.size, 0, none⟩) n n) n cs :=
  ⟨hl, .inr ⟨w.heap.size, n, cs.toArray, rfl, hB, heap_alloc_new w _, Nat.le_refl _, hn, by simpa using hl, by rw [← hl]; simp⟩⟩
def unL (id kind : Int) (L : List Nt) : List Un := if kind = 1 then [⟨id, 0⟩] else L.map fun x => ⟨id, x.n⟩
theorem unL_len (id kind : Int) (L : List Nt) : (unL id kind L).length ≤ L.length + 1 := by unfold unL; split <;> simp
def UnRes (B : Nat) (w' : World) (e : Ending) (l : List Un) : Prop := ∃ A' c', e = .returned (.slice A' l.length c') ∧ w'.ownsRow B 41 2 (.slice A' l.length c') l.length (rc Un.cells l)
def isU (u x : Un) : Bool := decide (u = x)
theorem atU_in (u : Un) (l : List Un) : decide (0 ≤ atL (isU u) l) = decide (u ∈ l) := by
  rcases atL_cases (isU u) l with ⟨h0, hno⟩ | ⟨k, hk, h0, hpk, _⟩
  · rw [h0]
    have : ¬ u ∈ l := fun hm => by
      obtain ⟨j, hj, rfl⟩ := List.getElem_of_mem hm
      have := hno j hj
      simp [isU] at this
    simp [this]
  · rw [h0]
    have : u ∈ l := by
      have : u = l[k] := by simpa [isU] using hpk
      rw [this]; exact List.getElem_mem hk
    simp [this]
theorem units_any (id mem kind : Int) (A : Option Addr) (cap : Nat) (L : List Nt) (w : World) (hl : L.length ≤ 900000) (hs : Sl w A (rc Nt.cells L)) :
    Calls Tryz.prog 59 #[.agg #[.int .i64 id, .int .i64 mem, .int .i64 kind, .slice A L.length cap]] w fun e w' => UnRes w.heap.size w' e (unL id kind L) ∧ Below w.heap.size w w' := by
  have hB0 := since_alloc (Below.refl _ w) (.cells #[.int .i64 id, .int .i64 mem, .int .i64 kind, .slice A L.length cap] 31)
  have hV0 : Ac.Bx (w.alloc (.cells #[.int .i64 id, .int .i64 mem, .int .i64 kind, .slice A L.length cap] 31)) w.heap.size ⟨id, mem, kind, A, L.length, cap⟩ := Ac.Bx.new w ⟨id, mem, kind, A, L.length, cap⟩
  have hs0 := hs.alloc (.cells #[.int .i64 id, .int .i64 mem, .int .i64 kind, .slice A L.length cap] 31)
  obtain ⟨g0, g1, g2, g3⟩ := hV0.got
  simp only at g0 g1 g2 g3
  by_cases hk : kind = 1
  · have HE : Hid (unL id kind L = [⟨id, 0⟩]) := Lib.hid (if_pos hk)
    have hkb : (kind == 1) = true := by simpa using hk
    clear hk
    go_enter Tryz.func59, Tryz.ntmps59
    go_wp2_with fail
    go_ret
    rw [HE.out]
    have hO := own_lit (w := w.alloc (.cells #[.int .i64 id, .int .i64 mem, .int .i64 kind, .slice A L.length cap] 31)) (B := w.heap.size) (n := 1) (size := 2) (Un.cells ⟨id, 0⟩) 41 (by simp) rfl (by decide)
    exact ⟨⟨_, _, rfl, by simpa [rc, Un.cells] using hO⟩, since_alloc hB0 _⟩
  · have HE : Hid (unL id kind L = L.map fun x => ⟨id, x.n⟩) := Lib.hid (if_neg hk)
    have hkb : (kind == 1) = false := by simpa using hk
    clear hk
    go_enter Tryz.func59, Tryz.ntmps59
    go_upto_region 3 with fail
    generalize hWW : w.alloc (.cells #[.int .i64 id, .int .i64 mem, .int .i64 kind, .slice A L.length cap] 31) = W at *
    clear hWW g0 g1 g2 g3
    have hBW := hB0
    have hWs := hBW.size
    have hsW := hs0
    have HV : Hid (∀ V, Below W.heap.size W V → Ac.Bx V w.heap.size ⟨id, mem, kind, A, L.length, cap⟩) := Lib.hid fun V hV => hV0.below hV
    have HV0 := (HV.out _ (Below.refl _ _)).got
    obtain ⟨q0, q1, q2, q3⟩ := HV0
    simp only at q0 q1 q2 q3
    go_wp2_with (first
      | (at_make; refine wpList_mk rfl (.const (.int .i64 0)) (.tmp 15) rfl EUn L.length rfl rfl rfl (by omega) (by unfold maxLen; omega) (Nat.le_refl _) ?_; intro W2 hownW hbW; have q0 := (HV.out _ hbW).got.1; have q1 := (HV.out _ hbW).got.2.1; have q2 := (HV.out _ hbW).got.2.2.1; have q3 := (HV.out _ hbW).got.2.2.2; simp only at q0 q1 q2 q3)
      | fail)
    go_loopw [3, 20] (fun out i wr => ∃ (k : Nat) (A' : Option Addr) (c' : Nat), k ≤ L.length ∧ i = .int .i64 k ∧ out = .slice A' k c' ∧ wr.ownsRow W.heap.size 41 2 (.slice A' k c') k (rc Un.cells ((L.take k).map fun x => (⟨id, x.n⟩ : Un))) ∧ Below W.heap.size W wr) (fun _ i _ => L.length - (intOf i).toNat)
    case atStart => exact ⟨0, _, _, by omega, rfl, rfl, by simpa [rc] using hownW, hbW⟩
    case round =>
      obtain ⟨k, A', c', hk, rfl, rfl, hown, hBr⟩ := hrel
      have hBw := hBW.trans (hBr.mono hWs)
      obtain ⟨q0, q1, q2, q3⟩ := (HV.out _ hBr).got
      simp only at q0 q1 q2 q3
      by_cases hlt : k < L.length
      · obtain ⟨b, o, rfl, hbw, hg⟩ := (hsW.below hBr).nt hlt
        obtain ⟨n0, _⟩ := hg
        have hlk : (k : Int) < (L.length : Int) := by omega
        have hge : (0 : Int) ≤ (k : Int) := by omega
        have HT : Hid ((L.take (k + 1)).map (fun x => (⟨id, x.n⟩ : Un)) = (L.take k).map (fun x => (⟨id, x.n⟩ : Un)) ++ [⟨id, L[k].n⟩]) := Lib.hid (by rw [take_snoc L k hlt, List.map_append]; rfl)
        have hrb := hBr.size
        go_wp2_with (first
          | (at_builtin; refine wpList_app rfl (.tmp 24) (.tmp 29) rfl EUn rfl rfl (hown.alloc _) (m := 1) (news := (⟨id, L[k].n⟩ : Un).cells) rfl (Sl.new_ _ _ _) (Un.one _) (by unfold maxLen; omega) (by omega) (by simp only [World.size_alloc]; omega) ?_; intro A2 c2 w2 hown2 hg2 hb2)
          | fail)
        go_roundw
        case rel =>
          refine ⟨k + 1, A2, c2, by omega, by go_num, rfl, ?_, ?_⟩
          · rw [HT.out, rc_append]
            simpa [rc] using hown2
          · exact (hBr.alloc hrb _).trans hb2
        case measure => simp [intOf]; omega
      · obtain rfl : k = L.length := by omega
        rw [List.take_length] at hown
        have hown2 := own_base hown hWs
        have hml : (L.map fun x => (⟨id, x.n⟩ : Un)).length = L.length := by simp
        go_wp2_with fail
        go_ret
        rw [HE.out]
        refine ⟨⟨A', c', ?_, ?_⟩, hBw⟩
        · rw [hml]; rfl
        · rw [hml]; exact hown2
theorem runits_any_Acct4 (id mem kind : Int) (A : Option Addr) (cap : Nat) (L : List Nt) (w : World) (hl : L.length ≤ 900000) (hs : Sl w A (rc Nt.cells L)) :
    Calls Tryz.prog 7 #[.agg #[.int .i64 id, .int .i64 mem, .int .i64 kind, .slice A L.length cap]] w fun e w' => UnRes w.heap.size w' e (unL id kind L) ∧ Below w.heap.size w w' := by
  have hB0 := since_alloc (Below.refl _ w) (.cells #[.int .i64 id, .int .i64 mem, .int .i64 kind, .slice A L.length cap] 31)
  have hV0 : Ac.Bx (w.alloc (.cells #[.int .i64 id, .int .i64 mem, .int .i64 kind, .slice A L.length cap] 31)) w.heap.size ⟨id, mem, kind, A, L.length, cap⟩ := Ac.Bx.new w ⟨id, mem, kind, A, L.length, cap⟩
  have hs0 := hs.alloc (.cells #[.int .i64 id, .int .i64 mem, .int .i64 kind, .slice A L.length cap] 31)
  obtain ⟨g0, g1, g2, g3⟩ := hV0.got
  simp only at g0 g1 g2 g3
  by_cases hk : kind = 1
  · have HE : Hid (unL id kind L = [⟨id, 0⟩]) := Lib.hid (if_pos hk)
    have hkb : (kind == 1) = true := by simpa using hk
    clear hk
    go_enter Tryz.func7, Tryz.ntmps7
    go_wp2_with (first
      | (at_builtin; refine wpList_app rfl (.tmp 8) (.tmp 12) rfl EUn rfl rfl (own_nil w.heap.size _ _) (m := 1) (news := (⟨id, 0⟩ : Un).cells) rfl (Sl.new1 _ _ _ _) (Un.one _) (by unfold maxLen; omega) (by omega) (by simp; omega) ?_; intro A2 c2 w2 hown2 hg2 hb2)
      | fail)
    go_ret
    rw [HE.out]
    exact ⟨⟨A2, c2, rfl, by simpa [rc] using hown2⟩, (since_alloc hB0 _).trans (hb2.mono (by simp))⟩
  · have HE : Hid (unL id kind L = L.map fun x => ⟨id, x.n⟩) := Lib.hid (if_neg hk)
    have hkb : (kind == 1) = false := by simpa using hk
    clear hk
    go_enter Tryz.func7, Tryz.ntmps7
    go_upto_region 4 with fail
    generalize hWW : w.alloc (.cells #[.int .i64 id, .int .i64 mem, .int .i64 kind, .slice A L.length cap] 31) = W at *
    clear hWW g0 g1 g2 g3
    have hBW := hB0
    have hWs := hBW.size
    have hsW := hs0
    have HV : Hid (∀ V, Below W.heap.size W V → Ac.Bx V w.heap.size ⟨id, mem, kind, A, L.length, cap⟩) := Lib.hid fun V hV => hV0.below hV
    have HV0 := (HV.out _ (Below.refl _ _)).got
    obtain ⟨q0, q1, q2, q3⟩ := HV0
    simp only at q0 q1 q2 q3
    go_wp2_with fail
    go_loopw [3, 4] (fun out i wr => ∃ (k : Nat) (A' : Option Addr) (c' : Nat), k ≤ L.length ∧ i = .int .i64 k ∧ out = .slice A' k c' ∧ wr.ownsRow W.heap.size 41 2 (.slice A' k c') k (rc Un.cells ((L.take k).map fun x => (⟨id, x.n⟩ : Un))) ∧ Below W.heap.size W wr) (fun _ i _ => L.length - (intOf i).toNat)
    case atStart => exact ⟨0, none, 0, by omega, rfl, rfl, own_nil _ _ _, Below.refl _ _⟩
    case round =>
      obtain ⟨k, A', c', hk, rfl, rfl, hown, hBr⟩ := hrel
      have hBw := hBW.trans (hBr.mono hWs)
      obtain ⟨q0, q1, q2, q3⟩ := (HV.out _ hBr).got
      simp only at q0 q1 q2 q3
      by_cases hlt : k < L.length
      · obtain ⟨b, o, rfl, hbw, hg⟩ := (hsW.below hBr).nt hlt
        obtain ⟨n0, _⟩ := hg
        have hcw : W.cell? ⟨b, o + k, none⟩ = some (.int .i64 L[k].n) := by
          obtain ⟨b', o', e, hb', hg'⟩ := hsW.nt hlt
          injection e with e; injection e with e1 e2 e3; subst e1; subst e2; exact hg'.1
        have hlk : (k : Int) < (L.length : Int) := by omega
        have hge : (0 : Int) ≤ (k : Int) := by omega
        have HT : Hid ((L.take (k + 1)).map (fun x => (⟨id, x.n⟩ : Un)) = (L.take k).map (fun x => (⟨id, x.n⟩ : Un)) ++ [⟨id, L[k].n⟩]) := Lib.hid (by rw [take_snoc L k hlt, List.map_append]; rfl)
        have hrb := hBr.size
        have HQ : Hid (∀ V, Below W.heap.size wr V → Ac.Bx V w.heap.size ⟨id, mem, kind, some ⟨b, o, none⟩, L.length, cap⟩) := Lib.hid fun V hV => HV.out V (hBr.trans hV)
        obtain ⟨nn, hnn⟩ : ∃ y, L[k].n = y := ⟨_, rfl⟩
        rw [hnn] at n0 HT
        have hbl := World.block_lt_of_cell? _ _ hcw
        have HN0 : Hid (∀ V, Below W.heap.size wr V → V.cell? ⟨b, o + k, none⟩ = some (.int .i64 nn)) := Lib.hid fun V hV => ((hBr.trans hV).cell (p := ⟨b, o + k, none⟩) hbl).trans (by rw [hcw, hnn])
        clear hnn hcw hBw hB0 hs0 hV0
        go_wp2_with fail
        refine wp_region_held_drew (S := (fun V => Below W.heap.size wr V)) (by kernel_rfl) (by exact (Below.refl _ _).drew) (fun hHeld => ?_)
        refine tkI 0 21 rfl (by intro w hSw; obtain ⟨q0, q1, q2, q3⟩ := (HQ.out _ hSw).got; simp only at q0 q1 q2 q3; have n0 := HN0.out _ hSw; go_simp <;> with_reducible rfl) hHeld ?_; simp only [pqZ]
        refine tkI 1 22 rfl (by intro w hSw; obtain ⟨q0, q1, q2, q3⟩ := (HQ.out _ hSw).got; simp only at q0 q1 q2 q3; have n0 := HN0.out _ hSw; go_simp <;> with_reducible rfl) hHeld ?_; simp only [pqZ]
        refine tkI 2 23 rfl (by intro w hSw; obtain ⟨q0, q1, q2, q3⟩ := (HQ.out _ hSw).got; simp only at q0 q1 q2 q3; have n0 := HN0.out _ hSw; go_simp <;> with_reducible rfl) hHeld ?_; simp only [pqZ]
        refine tkI 3 24 rfl (by intro w hSw; obtain ⟨q0, q1, q2, q3⟩ := (HQ.out _ hSw).got; simp only at q0 q1 q2 q3; have n0 := HN0.out _ hSw; go_simp <;> with_reducible rfl) hHeld ?_; simp only [pqZ]
        refine tkI 4 25 rfl (by intro w hSw; obtain ⟨q0, q1, q2, q3⟩ := (HQ.out _ hSw).got; simp only at q0 q1 q2 q3; have n0 := HN0.out _ hSw; go_simp <;> with_reducible rfl) hHeld ?_; simp only [pqZ]
        refine tkI 5 26 rfl (by intro w hSw; obtain ⟨q0, q1, q2, q3⟩ := (HQ.out _ hSw).got; simp only at q0 q1 q2 q3; have n0 := HN0.out _ hSw; go_simp <;> with_reducible rfl) hHeld ?_; simp only [pqZ]
        refine tkI 6 27 rfl (by intro w hSw; obtain ⟨q0, q1, q2, q3⟩ := (HQ.out _ hSw).got; simp only at q0 q1 q2 q3; have n0 := HN0.out _ hSw; go_simp <;> with_reducible rfl) hHeld ?_; simp only [pqZ]
        refine tkI 7 28 rfl (by intro w hSw; obtain ⟨q0, q1, q2, q3⟩ := (HQ.out _ hSw).got; simp only at q0 q1 q2 q3; have n0 := HN0.out _ hSw; go_simp <;> with_reducible rfl) hHeld ?_; simp only [pqZ]
        refine tkI 8 29 rfl (by intro w hSw; obtain ⟨q0, q1, q2, q3⟩ := (HQ.out _ hSw).got; simp only at q0 q1 q2 q3; have n0 := HN0.out _ hSw; go_simp <;> with_reducible rfl) hHeld ?_; simp only [pqZ]
        refine rdZ 9 30 rfl (by kernel_rfl) (fun K hK => ?_)
        have hHd := hHeld
        obtain ⟨q0, q1, q2, q3⟩ := (HQ.out _ hHd).got; simp only at q0 q1 q2 q3; have n0 := HN0.out _ hHd
        have hA := Below.alloc hHeld hrb (.cells (⟨id, nn⟩ : Un).cells.toArray 41)
        have hKeep := hA
        have HU := Un.Bx.new wr.drew ⟨id, nn⟩
        have hown1 := World.ownsRow.alloc (w := wr.drew) hown (.cells (⟨id, nn⟩ : Un).cells.toArray 41)
        skip
        go_simp
        refine hK.out _ _ (by (try dsimp only); exact hKeep) (fun hHeld => ?_); clear hK K hKeep; try simp only [pqZ]
        refine rdZ 10 31 rfl (by kernel_rfl) (fun K hK => ?_)
        refine step_app rfl (.tmp 21) (.tmp 30) rfl EUn (n := k) (m := 1) (c := c') (d := 1) (A := A') (B := some ⟨wr.drew.heap.size, 0, none⟩) (by simp [Act.eval, Act.put]; done) (by simp [Act.eval, Act.put]; done) hown1 (by rw [Un.len]) HU.sl (Un.one _) (by unfold maxLen; omega) (by omega) (Nat.le_trans hrb hHeld.size) ?_
        intro A2 c2 u2 hown2 hg2 hb2
        have hKeep := hHeld.trans hb2
        refine hK.out _ _ (by (try dsimp only); exact hKeep) (fun hHeld => ?_); clear hK K hKeep; try simp only [pqZ]
        refine tkI 11 3 rfl (by intro w hSw; obtain ⟨q0, q1, q2, q3⟩ := (HQ.out _ hSw).got; simp only at q0 q1 q2 q3; have n0 := HN0.out _ hSw; go_simp <;> with_reducible rfl) hHeld ?_; simp only [pqZ]
        refine wpAnyH_done (by kernel_rfl) ?_ _
        have hB2 := hBr.trans hHeld
        go_wp2_with fail
        go_roundw
        case rel =>
          refine ⟨k + 1, A2, c2, by omega, by go_num, rfl, ?_, hB2⟩
          rw [HT.out, rc_append]
          simpa [rc] using hown2
        case measure => simp [intOf]; omega
      · obtain rfl : k = L.length := by omega
        rw [List.take_length] at hown
        have hown2 := own_base hown hWs
        have hml : (L.map fun x => (⟨id, x.n⟩ : Un)).length = L.length := by simp
        go_wp2_with fail
        go_ret
        rw [HE.out]
        refine ⟨⟨A', c', ?_, ?_⟩, hBw⟩
        · rw [hml]; rfl
        · rw [hml]; exact hown2
end
end Go.Proofs.YtmjndpkfhdoljaaGreat
