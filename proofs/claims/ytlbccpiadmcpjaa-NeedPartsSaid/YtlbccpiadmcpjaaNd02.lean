import Derived.Laws.NewBlocks
import Derived.Lib.AppendZerosOnto
import Derived.Lib.Overlaps
import Derived.Test.YtlbccpiadmcpjaaNd01
import Derived.Deep.RegionLaw
import Derived.Lib.SliceRun
import Derived.Deep.DeepCutAuto
import Derived.Deep.RegionHeld3
section
namespace Go.Proofs.Ytlbccpiadmcpjaa
open Go.ChangeShapes Go.WideShapes Go.ChangeAt Go.RowKit
set_option linter.unusedVariables false
set_option linter.unusedSimpArgs false

section
variable {P : Program}
end

section
variable {w : World} {base : Nat} {e : TypeId} {size n c : Nat} {xs : List Value}
theorem own_set1 {g k : Nat} (h : w.ownsRow base e size (.slice (some ⟨g, 0, none⟩) n c) n xs) (hk : k < xs.length) (v : Value) :
    (w.setCell ⟨g, k, none⟩ v).ownsRow base e size (.slice (some ⟨g, 0, none⟩) n c) n (xs.set k v) := by
  refine ⟨by simpa using h.1, ?_⟩
  rcases h.2 with ⟨hv, _⟩ | ⟨g', cap, cur, hv, hb, hg, hnc, hcm, hcs, ht⟩
  · cases hv
  · injection hv with e1 e2 e3
    injection e1 with e1
    injection e1 with e1
    subst e1; subst e3
    have hkc : k < cur.size := by
      have h2 := h.1
      have : n * size ≤ c * size := Nat.mul_le_mul_right _ hnc
      omega
    refine .inr ⟨g, c, cur.set! k v, rfl, hb, ?_, hnc, hcm, by simpa using hcs, ?_⟩
    · rw [setCell_eq_setRow w g k cur e (0, 0) v hg]
      first | exact setRow_heap _ _ _ _ _ _ hg | simpa using setRow_heap _ _ _ _ _ _ hg
    · rw [← ht]
      simp
      rw [List.take_set]
theorem own_slice_g {g : Nat} (h : w.ownsRow base e size (.slice (some ⟨g, 0, none⟩) n c) n xs) : base ≤ g ∧ g < w.heap.size ∧ (∀ i, w.frozen? ⟨g, i, none⟩ = false) ∧ ∀ j u, xs[j]? = some u → w.cell? ⟨g, j, none⟩ = some u := by
  have hc := World.ownsRow.cells h (g := g) rfl
  rcases h.2 with ⟨hv, _⟩ | ⟨g', cap, cur, hv, hb, hg, hnc, hcm, hcs, ht⟩
  · cases hv
  · injection hv with e1 e2 e3
    injection e1 with e1
    injection e1 with e1
    subst e1; subst e3
    refine ⟨hb, ?_, fun i => by simp [World.frozen?, hg], fun j u hu => ?_⟩
    · rcases Nat.lt_or_ge g w.heap.size with hlt | hge
      · exact hlt
      · rw [Array.getElem?_eq_none hge] at hg; cases hg
    · have := hc j u hu
      rwa [addr_add, Nat.zero_add] at this
theorem own_below {w w' : World} {B e size n : Nat} {v : Value} {xs : List Value} (h : w.ownsRow B e size v n xs) (hb : Below w.heap.size w w') : w'.ownsRow B e size v n xs := by
  obtain ⟨h1, h2⟩ := h
  refine ⟨h1, ?_⟩
  rcases h2 with h2 | ⟨g, cap, cur, hv, hg, hh, hr⟩
  · exact .inl h2
  · refine .inr ⟨g, cap, cur, hv, hg, ?_, hr⟩
    have hlt : g < w.heap.size := by
      rcases Nat.lt_or_ge g w.heap.size with hlt | hge
      · exact hlt
      · rw [Array.getElem?_eq_none hge] at hh; cases hh
    rw [hb.block g hlt]
    exact hh
end

def Ent (P : Program) (F : FuncId) : Prop := ∀ args w, (callFunc F args).run P w = .ok (.enter F args) w
theorem Ent.of {P : Program} {F : FuncId} (h : ((P.funcs[F]?).map fun f => (f.name == "runtime.NumGoroutine", f.body.isSome)) = some (false, true)) : Ent P F := by
  intro args w
  cases hf : P.funcs[F]? with
  | none => rw [hf] at h; simp at h
  | some fn =>
    rw [hf] at h
    simp only [Option.map_some, Option.some.injEq, Prod.mk.injEq] at h
    have h1 : fn.name ≠ "runtime.NumGoroutine" := by simpa using h.1
    cases hb : fn.body with
    | none => rw [hb] at h; simp at h
    | some c => simp [callFunc, hf, h1, hb]
theorem step_app {P : Program} {w : World} {ops : Array Oper} {o : Oper} {a : Act} {K : Act → World → Prop} {Q : Exit → Act → World → Prop} {Z : Prop} (hgd : o.guard = none) (s x : Operand) {t e : TypeId} {size bytes : Nat}
    (ho : o.op = .call { callee := .builtin .append, args := #[s, x], argTypes := #[t, t] }) (E : Elem P t e size bytes) {base n m c d : Nat} {A B : Option Addr} {xs news : List Value}
    (hs : a.eval s = .slice A n c) (hx : a.eval x = .slice B m d)
    (hown : w.ownsRow base e size (.slice A n c) n xs) (hl : news.length = m * size) (hr : Sl w B news) (h1 : ∀ u ∈ news, u.oneCell' = true)
    (h63 : n + m ≤ maxLen) (hb : (n + m) * bytes ≤ 140737488355328) (hbase : base ≤ w.heap.size)
    (h : ∀ A' c' w', w'.ownsRow base e size (.slice A' (n + m) c') (n + m) (xs ++ news) → w.grownBy w' (Value.slice A n c).ownBlock → Below base w w' → K (a.put o.dst (.slice A' (n + m) c')) w') :
    if Region.wanted o (yielded ops a.tmps) = true then Oper.wp P o a w K Q else Z := by
  have hw : Region.wanted o (yielded ops a.tmps) = true := by simp [Region.wanted, hgd]
  rw [if_pos hw]
  exact wp_app s x ho E hs hx hown hl hr h1 h63 hb hbase h
theorem own_base {w : World} {base base' e size n : Nat} {v : Value} {xs : List Value} (h : w.ownsRow base e size v n xs) (hb : base' ≤ base) : w.ownsRow base' e size v n xs := by
  obtain ⟨h1, h2⟩ := h
  refine ⟨h1, ?_⟩
  rcases h2 with h2 | ⟨g, cap, cur, hv, hg, hr⟩
  · exact .inl h2
  · exact .inr ⟨g, cap, cur, hv, Nat.le_trans hb hg, hr⟩
def rc {α : Type} (f : α → List Value) (l : List α) : List Value := (l.map f).flatten
section
variable {α : Type} {f : α → List Value} {m : Nat}
theorem rc_cons (a : α) (l : List α) : rc f (a :: l) = f a ++ rc f l := by simp [rc]
theorem rc_append (a b : List α) : rc f (a ++ b) = rc f a ++ rc f b := by simp [rc]
theorem rc_length (hf : ∀ a, (f a).length = m) (l : List α) : (rc f l).length = l.length * m := by
  induction l with
  | nil => simp [rc]
  | cons a l ih => rw [rc_cons, List.length_append, ih, hf, List.length_cons, Nat.add_mul]; omega
theorem rc_one (h1 : ∀ a, ∀ u ∈ f a, u.oneCell' = true) (l : List α) : ∀ u ∈ rc f l, u.oneCell' = true := by
  intro u hu
  simp only [rc, List.mem_flatten, List.mem_map] at hu
  obtain ⟨_, ⟨g, _, rfl⟩, hu⟩ := hu
  exact h1 g u hu
theorem rc_at (hf : ∀ a, (f a).length = m) : ∀ (l : List α) (k : Nat) (h : k < l.length) (j : Nat), j < m → (rc f l)[k * m + j]? = (f l[k])[j]? := by
  intro l
  induction l with
  | nil => intro k h; simp at h
  | cons a l ih =>
    intro k h j hj
    rw [rc_cons]
    cases k with
    | zero => rw [List.getElem?_append_left (by rw [hf]; omega)]; simp
    | succ k =>
      rw [List.getElem?_append_right (by rw [hf, Nat.add_mul]; omega), hf, show (k + 1) * m + j - m = k * m + j from by rw [Nat.add_mul]; omega]
      rw [ih k (by simpa using h) j hj]
      simp
theorem rc_take (hf : ∀ a, (f a).length = m) (l : List α) (k : Nat) : (rc f l).take (k * m) = rc f (l.take k) := by
  induction l generalizing k with
  | nil => simp [rc]
  | cons a l ih =>
    cases k with
    | zero => simp [rc]
    | succ k =>
      rw [rc_cons, List.take_succ_cons, rc_cons, List.take_append, hf, show (k + 1) * m - m = k * m from by rw [Nat.add_mul]; omega, ih, List.take_of_length_le (by rw [hf, Nat.add_mul]; omega)]
theorem Sl.elem {w : World} {A : Option Addr} {l : List α} (hf : ∀ a, (f a).length = m) (hm : 0 < m) (h : Sl w A (rc f l)) {k : Nat} (hk : k < l.length) :
    ∃ b o, A = some ⟨b, o, none⟩ ∧ b < w.heap.size ∧ ∀ j u, (f l[k])[j]? = some u → w.cell? ⟨b, o + k * m + j, none⟩ = some u := by
  have hlen := rc_length hf l
  have hpos : k * m + 0 < (rc f l).length := by
    rw [hlen]
    have : (k + 1) * m ≤ l.length * m := Nat.mul_le_mul_right _ hk
    rw [Nat.add_mul] at this
    omega
  obtain ⟨b, o, hA, hc⟩ := h (by intro e; rw [e] at hpos; simp at hpos)
  have hg : ∀ j u, (f l[k])[j]? = some u → w.cell? ⟨b, o + k * m + j, none⟩ = some u := by
    intro j u hu
    have hj : j < m := by
      have := (List.getElem?_eq_some_iff.1 hu).1
      rwa [hf] at this
    rw [Nat.add_assoc]
    exact hc _ _ ((rc_at hf l k hk j hj).trans hu)
  have hmem := hc (k * m + 0) _ (List.getElem?_eq_getElem hpos)
  exact ⟨b, o, hA, World.block_lt_of_cell? _ _ hmem, hg⟩
end

section
variable {α : Type}
def atL (p : α → Bool) (l : List α) : Int := match l.findIdx? p with | some k => (k : Int) | none => -1
theorem atL_cases (p : α → Bool) (l : List α) : (atL p l = -1 ∧ ∀ j, (hj : j < l.length) → p l[j] = false) ∨
    ∃ k : Nat, ∃ hk : k < l.length, atL p l = k ∧ p l[k] = true ∧ ∀ j, (hj : j < k) → p l[j] = false := by
  rcases h : l.findIdx? p with _ | k
  · left
    have e : atL p l = -1 := by unfold atL; rw [h]
    rw [List.findIdx?_eq_none_iff] at h
    exact ⟨e, fun j hj => h _ (List.getElem_mem hj)⟩
  · right
    have e : atL p l = k := by unfold atL; rw [h]
    rw [List.findIdx?_eq_some_iff_getElem] at h
    obtain ⟨hk, h1, h2⟩ := h
    exact ⟨k, hk, e, h1, fun j hj => by simpa using h2 j hj⟩
theorem atL_none {p : α → Bool} {l : List α} (h : ∀ j, (hj : j < l.length) → p l[j] = false) : atL p l = -1 := by
  rcases atL_cases p l with ⟨h1, _⟩ | ⟨k, hk, _, h2, _⟩
  · exact h1
  · rw [h k hk] at h2; cases h2
theorem atL_some {p : α → Bool} {l : List α} {k : Nat} (hk : k < l.length) (h : ∀ j, (hj : j < k) → p l[j] = false) (he : p l[k] = true) : atL p l = k := by
  rcases atL_cases p l with ⟨_, h1⟩ | ⟨k', hk', h1, h2, h3⟩
  · rw [h1 k hk] at he; cases he
  · rcases Nat.lt_trichotomy k k' with h4 | h4 | h4
    · rw [h3 k h4] at he; cases he
    · rw [h1, h4]
    · rw [h k' h4] at h2; cases h2
def pickL (p : α → Bool) (z : α) (l : List α) : α := (l.find? p).getD z
theorem find_none {p : α → Bool} {l : List α} (h : ∀ j, (hj : j < l.length) → p l[j] = false) : l.find? p = none := by
  rw [List.find?_eq_none]
  intro x hx
  obtain ⟨j, hj, rfl⟩ := List.getElem_of_mem hx
  rw [h j hj]; decide
theorem find_some {p : α → Bool} {l : List α} {k : Nat} (hk : k < l.length) (h : ∀ j, (hj : j < k) → p (l[j]'(by omega)) = false) (he : p l[k] = true) : l.find? p = some l[k] := by
  rw [List.find?_eq_some_iff_getElem]
  exact ⟨he, k, hk, rfl, fun j hj => by rw [h j hj]; rfl⟩
def risingL (ah : α → α → Bool) : List α → Bool
  | a :: b :: r => ah a b && risingL ah (b :: r)
  | _ => true
theorem risingL_iff (ah : α → α → Bool) : ∀ (l : List α), risingL ah l = true ↔ ∀ k, (h : k + 1 < l.length) → ah (l[k]'(by omega)) l[k + 1] = true
  | [] => by simp [risingL]
  | [a] => by simp [risingL]
  | a :: b :: r => by
    have ih := risingL_iff ah (b :: r)
    simp only [risingL, Bool.and_eq_true, ih]
    constructor
    · rintro ⟨h0, h⟩ k hk
      cases k with
      | zero => simpa using h0
      | succ k => have := h k (by simpa using hk); simpa using this
    · intro h
      refine ⟨by simpa using h 0 (by simp), fun k hk => ?_⟩
      have := h (k + 1) (by simpa using hk)
      simpa using this
theorem risingL_false {ah : α → α → Bool} {l : List α} {k : Nat} (h : k + 1 < l.length) (hn : ah (l[k]'(by omega)) l[k + 1] = false) : risingL ah l = false := by
  cases hr : risingL ah l with
  | false => rfl
  | true => rw [(risingL_iff ah l).1 hr k h] at hn; cases hn
end
end Go.Proofs.Ytlbccpiadmcpjaa
end
section
namespace Go.Proofs.Ytlbccpiadmcpjaa
open Go.ChangeShapes Go.WideShapes Go.ChangeAt Go.RowKit
set_option linter.unusedVariables false
set_option linter.unusedSimpArgs false

structure Nt where
  (n : Int)
deriving DecidableEq
def Nt.cells (g : Nt) : List Value := [.int .i64 g.n]
def Nt.val (g : Nt) : Value := .int .i64 g.n
def Nt.zero : Nt := ⟨0⟩
theorem Nt.len (g : Nt) : g.cells.length = 1 := rfl
theorem Nt.one (g : Nt) : ∀ u ∈ g.cells, u.oneCell' = true := by
  intro u hu
  simp only [Nt.cells, List.mem_cons, List.not_mem_nil, or_false] at hu
  subst hu; rfl
def Nt.at (g : Nt) (w : World) (b o : Nat) : Prop :=
  w.cell? ⟨b, o, none⟩ = some (.int .i64 g.n) ∧ True
theorem Nt.at_of {w : World} {b o : Nat} {g : Nt} (h : ∀ j u, g.cells[j]? = some u → w.cell? ⟨b, o + j, none⟩ = some u) : g.at w b o :=
  ⟨h 0 _ rfl, trivial⟩
theorem Nt.at_keep {w w' : World} {b o : Nat} {g : Nt} (h : g.at w b o) (k : ∀ i, w'.cell? ⟨b, i, none⟩ = w.cell? ⟨b, i, none⟩) : g.at w' b o := by
  unfold Nt.at at *
  simp only [k]
  exact h
theorem Sl.nt {w : World} {A : Option Addr} {l : List Nt} (h : Sl w A (rc Nt.cells l)) {k : Nat} (hk : k < l.length) : ∃ b o, A = some ⟨b, o, none⟩ ∧ b < w.heap.size ∧ l[k].at w b (o + k) := by
  obtain ⟨b, o, hA, hb, hc⟩ := Sl.elem (m := 1) Nt.len (by decide) h hk
  exact ⟨b, o, hA, hb, Nt.at_of (by simpa only [Nat.mul_one] using hc)⟩
def Nt.Tells (F : Nat) (caps : Array Value) (p : Nt → Bool) (B : Nat) (w : World) : Prop :=
  ∀ (g : Nt) (W : World), Below B w W → Calls Try.prog F (#[g.val] ++ caps) W fun e w' => e = .returned (.bool (p g)) ∧ Below W.heap.size W w'
theorem Nt.Tells.below {F : Nat} {caps : Array Value} {p : Nt → Bool} {B : Nat} {w w1 : World} (h : Nt.Tells F caps p B w) (hb : Below B w w1) {C : Nat} (hC : B ≤ C) : Nt.Tells F caps p C w1 :=
  fun g W hW => h g W (hb.trans (hW.mono hC))
end Go.Proofs.Ytlbccpiadmcpjaa
end
section
namespace Go.Proofs.Ytlbccpiadmcpjaa
open Go.ChangeShapes Go.WideShapes Go.ChangeAt Go.RowKit
set_option linter.unusedVariables false
set_option linter.unusedSimpArgs false

def Nt.Tells2 (F : Nat) (caps : Array Value) (ah : Nt → Nt → Bool) (B : Nat) (w : World) : Prop :=
  ∀ (a b : Nt) (W : World), Below B w W → Calls Try.prog F (#[a.val, b.val] ++ caps) W fun e w' => e = .returned (.bool (ah a b)) ∧ Below W.heap.size W w'
theorem Nt.Tells2.below {F : Nat} {caps : Array Value} {ah : Nt → Nt → Bool} {B : Nat} {w w1 : World} (h : Nt.Tells2 F caps ah B w) (hb : Below B w w1) {C : Nat} (hC : B ≤ C) : Nt.Tells2 F caps ah C w1 :=
  fun a b W hW => h a b W (hb.trans (hW.mono hC))
structure Nt.Bx (w : World) (b : Nat) (g : Nt) : Prop where
  lt : b < w.heap.size
  at_ : g.at w b 0
  hp : w.heap[b]? = some (.cells g.cells.toArray 3 (0, 0))
theorem Nt.Bx.new (w : World) (g : Nt) : Nt.Bx (w.alloc (.cells g.cells.toArray 3)) w.heap.size g := by
  have h := heap_alloc_new w (.cells g.cells.toArray 3 (0, 0))
  refine ⟨by simp, Nt.at_of fun j u hu => ?_, h⟩
  rw [Nat.zero_add, cell_of_row _ _ j g.cells.toArray 3 (0, 0) h]
  simpa using hu
theorem Nt.Bx.below {w w' : World} {b : Nat} {g : Nt} (h : Nt.Bx w b g) (hb : Below w.heap.size w w') : Nt.Bx w' b g :=
  ⟨Nat.lt_of_lt_of_le h.lt hb.size, Nt.at_keep h.at_ fun i => hb.cell (p := ⟨b, i, none⟩) h.lt, (hb.block b h.lt).trans h.hp⟩
theorem Nt.Bx.sl {w : World} {b : Nat} {g : Nt} (h : Nt.Bx w b g) : Sl w (some ⟨b, 0, none⟩) g.cells := by
  intro _
  refine ⟨b, 0, rfl, fun j u hu => ?_⟩
  rw [Nat.zero_add, cell_of_row _ _ j g.cells.toArray 3 (0, 0) h.hp]
  simpa using hu
theorem Nt.Bx.got {w : World} {b : Nat} {g : Nt} (h : Nt.Bx w b g) : w.cell? ⟨b, 0, none⟩ = some (.int .i64 g.n) ∧ True := by
  have := h.at_
  unfold Nt.at at this
  simpa only [Nat.zero_add] using this
end Go.Proofs.Ytlbccpiadmcpjaa
end
section
namespace Go.Proofs.Ytlbccpiadmcpjaa
open Go.ChangeShapes Go.WideShapes Go.ChangeAt Go.RowKit
set_option linter.unusedVariables false
set_option linter.unusedSimpArgs false
section
variable {α : Type}
def putR (ah : α → α → Bool) : List α → α → List α
  | [], x => [x]
  | a :: r, x => if ah a x then a :: putR ah r x else if ah x a then x :: a :: r else x :: r
structure Ord (ah : α → α → Bool) : Prop where
  tr : ∀ a b c, ah a b = true → ah b c = true → ah a c = true
  asy : ∀ a b, ah a b = true → ah b a = false
  cong : ∀ a x b, ah a x = false → ah x a = false → ah a b = ah x b
  cong2 : ∀ a x b, ah a x = false → ah x a = false → ah b a = ah b x
theorem rising_pairwise {ah : α → α → Bool} (o : Ord ah) : ∀ l : List α, risingL ah l = true ↔ l.Pairwise (fun a b => ah a b = true)
  | [] => by simp [risingL]
  | [a] => by simp [risingL]
  | a :: b :: r => by
    have ih := rising_pairwise o (b :: r)
    simp only [risingL, Bool.and_eq_true, ih]
    constructor
    · rintro ⟨h1, h2⟩
      refine List.Pairwise.cons ?_ h2
      intro c hc
      rcases List.mem_cons.1 hc with rfl | hc
      · exact h1
      · exact o.tr _ _ _ h1 (List.rel_of_pairwise_cons h2 hc)
    · intro h
      exact ⟨List.rel_of_pairwise_cons h (by simp), h.of_cons⟩
end
end Go.Proofs.Ytlbccpiadmcpjaa
end
section
namespace Go.Proofs.Ytlbccpiadmcpjaa
open Go.ChangeShapes Go.WideShapes Go.ChangeAt Go.RowKit
set_option linter.unusedVariables false
set_option linter.unusedSimpArgs false

def isCl (c : Int) : Bool := decide (1 ≤ c) && decide (c ≤ 16)
def ahN (x y : Nt) : Bool := decide (x.n < y.n)
end Go.Proofs.Ytlbccpiadmcpjaa
end
section
namespace Go.Proofs.Ytlbccpiadmcpjaa
open Go.ChangeShapes Go.WideShapes Go.ChangeAt Go.RowKit
set_option linter.unusedVariables false
set_option linter.unusedSimpArgs false

structure Ac where
  (id : Int) (mem : Int) (kind : Int) (cl : Option Addr) (clL clC : Nat)
deriving DecidableEq
def Ac.cells (g : Ac) : List Value := [.int .i64 g.id, .int .i64 g.mem, .int .i64 g.kind, .slice g.cl g.clL g.clC]
def Ac.val (g : Ac) : Value := .agg #[.int .i64 g.id, .int .i64 g.mem, .int .i64 g.kind, .slice g.cl g.clL g.clC]
def Ac.zero : Ac := ⟨0, 0, 0, none, 0, 0⟩
theorem Ac.len (g : Ac) : g.cells.length = 4 := rfl
theorem Ac.one (g : Ac) : ∀ u ∈ g.cells, u.oneCell' = true := by
  intro u hu
  simp only [Ac.cells, List.mem_cons, List.not_mem_nil, or_false] at hu
  rcases hu with h | h | h | h <;> subst h <;> rfl
def Ac.at (g : Ac) (w : World) (b o : Nat) : Prop :=
  w.cell? ⟨b, o, none⟩ = some (.int .i64 g.id) ∧ w.cell? ⟨b, o + 1, none⟩ = some (.int .i64 g.mem) ∧ w.cell? ⟨b, o + 2, none⟩ = some (.int .i64 g.kind) ∧ w.cell? ⟨b, o + 3, none⟩ = some (.slice g.cl g.clL g.clC)
theorem Ac.at_of {w : World} {b o : Nat} {g : Ac} (h : ∀ j u, g.cells[j]? = some u → w.cell? ⟨b, o + j, none⟩ = some u) : g.at w b o :=
  ⟨h 0 _ rfl, h 1 _ rfl, h 2 _ rfl, h 3 _ rfl⟩
theorem Ac.at_keep {w w' : World} {b o : Nat} {g : Ac} (h : g.at w b o) (k : ∀ i, w'.cell? ⟨b, i, none⟩ = w.cell? ⟨b, i, none⟩) : g.at w' b o := by
  unfold Ac.at at *
  simp only [k]
  exact h
theorem Sl.ac {w : World} {A : Option Addr} {l : List Ac} (h : Sl w A (rc Ac.cells l)) {k : Nat} (hk : k < l.length) : ∃ b o, A = some ⟨b, o, none⟩ ∧ b < w.heap.size ∧ l[k].at w b (o + k * 4) := by
  obtain ⟨b, o, hA, hb, hc⟩ := Sl.elem (m := 4) Ac.len (by decide) h hk
  exact ⟨b, o, hA, hb, Ac.at_of hc⟩
def Ac.Tells (F : Nat) (caps : Array Value) (p : Ac → Bool) (B : Nat) (w : World) : Prop :=
  ∀ (g : Ac) (W : World), Below B w W → Calls Try.prog F (#[g.val] ++ caps) W fun e w' => e = .returned (.bool (p g)) ∧ Below W.heap.size W w'
theorem Ac.Tells.below {F : Nat} {caps : Array Value} {p : Ac → Bool} {B : Nat} {w w1 : World} (h : Ac.Tells F caps p B w) (hb : Below B w w1) {C : Nat} (hC : B ≤ C) : Ac.Tells F caps p C w1 :=
  fun g W hW => h g W (hb.trans (hW.mono hC))
end Go.Proofs.Ytlbccpiadmcpjaa
end
