import Derived.Laws.NewBlocks
import Derived.Lib.AppendZerosOnto
import Derived.Lib.Overlaps
import Derived.Test.YtpmnjojednbnpaaGreatDoorWr00
import Derived.BigQuiet
import Derived.Deep.CutBlock
import Derived.Deep.CutRange
import Derived.Deep.DeepCutAuto
import Derived.Deep.RegionHeld3
import Derived.Deep.RegionLaw
import Derived.IntWalk
import Derived.Laws.Bits64
import Derived.Laws.BitsAllLaws
import Derived.Lib.AppendStr
import Derived.Laws.DeepNot64
import Derived.Laws.IdiomStrings
import Derived.Lib.SliceRun
import Derived.Lib.SlBytesConst
section
namespace Go.Proofs.YtpmnjojednbnpaaGreatDoor
open Go.ChangeShapes Go.WideShapes Go.ChangeAt Go.RowKit
set_option linter.unusedVariables false
set_option linter.unusedSimpArgs false

section
variable {P : Program}
end

section
variable {w : World} {base : Nat} {e : TypeId} {size n c : Nat} {xs : List Value}
theorem own_below {w w' : World} {B e size n : Nat} {v : Value} {xs : List Value} (h : w.ownsRow B e size v n xs) (hb : Below w.heap.size w w') : w'.ownsRow B e size v n xs := by
  obtain ⟨h1, h2⟩ := h
  refine ⟨h1, ?_⟩
  rcases h2 with h2 | ⟨g, cap, cur, hv, hg, hh, hr⟩
  · exact .inl h2
  · refine .inr ⟨g, cap, cur, hv, hg, ?_, hr⟩
    have hlt : g < w.heap.size := by
      rcases Nat.lt_or_ge g w.heap.size with hlt | hge
      · exact hlt
      · rw [Array.getElem?_eq_none hge] at hh; cases hh
    rw [hb.block g hlt]
    exact hh
end

def Ent (P : Program) (F : FuncId) : Prop := ∀ args w, (callFunc F args).run P w = .ok (.enter F args) w
theorem Ent.of {P : Program} {F : FuncId} (h : ((P.funcs[F]?).map fun f => (f.name == "runtime.NumGoroutine", f.body.isSome)) = some (false, true)) : Ent P F := by
  intro args w
  cases hf : P.funcs[F]? with
  | none => rw [hf] at h; simp at h
  | some fn =>
    rw [hf] at h
    simp only [Option.map_some, Option.some.injEq, Prod.mk.injEq] at h
    have h1 : fn.name ≠ "runtime.NumGoroutine" := by simpa using h.1
    cases hb : fn.body with
    | none => rw [hb] at h; simp at h
    | some c => simp [callFunc, hf, h1, hb]
def rc {α : Type} (f : α → List Value) (l : List α) : List Value := (l.map f).flatten
section
variable {α : Type} {f : α → List Value} {m : Nat}
theorem rc_cons (a : α) (l : List α) : rc f (a :: l) = f a ++ rc f l := by simp [rc]
theorem rc_length (hf : ∀ a, (f a).length = m) (l : List α) : (rc f l).length = l.length * m := by
  induction l with
  | nil => simp [rc]
  | cons a l ih => rw [rc_cons, List.length_append, ih, hf, List.length_cons, Nat.add_mul]; omega
theorem rc_at (hf : ∀ a, (f a).length = m) : ∀ (l : List α) (k : Nat) (h : k < l.length) (j : Nat), j < m → (rc f l)[k * m + j]? = (f l[k])[j]? := by
  intro l
  induction l with
  | nil => intro k h; simp at h
  | cons a l ih =>
    intro k h j hj
    rw [rc_cons]
    cases k with
    | zero => rw [List.getElem?_append_left (by rw [hf]; omega)]; simp
    | succ k =>
      rw [List.getElem?_append_right (by rw [hf, Nat.add_mul]; omega), hf, show (k + 1) * m + j - m = k * m + j from by rw [Nat.add_mul]; omega]
      rw [ih k (by simpa using h) j hj]
      simp
theorem rc_take (hf : ∀ a, (f a).length = m) (l : List α) (k : Nat) : (rc f l).take (k * m) = rc f (l.take k) := by
  induction l generalizing k with
  | nil => simp [rc]
  | cons a l ih =>
    cases k with
    | zero => simp [rc]
    | succ k =>
      rw [rc_cons, List.take_succ_cons, rc_cons, List.take_append, hf, show (k + 1) * m - m = k * m from by rw [Nat.add_mul]; omega, ih, List.take_of_length_le (by rw [hf, Nat.add_mul]; omega)]
theorem Sl.elem {w : World} {A : Option Addr} {l : List α} (hf : ∀ a, (f a).length = m) (hm : 0 < m) (h : Sl w A (rc f l)) {k : Nat} (hk : k < l.length) :
    ∃ b o, A = some ⟨b, o, none⟩ ∧ b < w.heap.size ∧ ∀ j u, (f l[k])[j]? = some u → w.cell? ⟨b, o + k * m + j, none⟩ = some u := by
  have hlen := rc_length hf l
  have hpos : k * m + 0 < (rc f l).length := by
    rw [hlen]
    have : (k + 1) * m ≤ l.length * m := Nat.mul_le_mul_right _ hk
    rw [Nat.add_mul] at this
    omega
  obtain ⟨b, o, hA, hc⟩ := h (by intro e; rw [e] at hpos; simp at hpos)
  have hg : ∀ j u, (f l[k])[j]? = some u → w.cell? ⟨b, o + k * m + j, none⟩ = some u := by
    intro j u hu
    have hj : j < m := by
      have := (List.getElem?_eq_some_iff.1 hu).1
      rwa [hf] at this
    rw [Nat.add_assoc]
    exact hc _ _ ((rc_at hf l k hk j hj).trans hu)
  have hmem := hc (k * m + 0) _ (List.getElem?_eq_getElem hpos)
  exact ⟨b, o, hA, World.block_lt_of_cell? _ _ hmem, hg⟩
end

section
variable {α : Type}
end
end Go.Proofs.YtpmnjojednbnpaaGreatDoor
end
section
namespace Go.Proofs.YtpmnjojednbnpaaGreatDoor
open Go.ChangeShapes Go.WideShapes Go.ChangeAt Go.RowKit
set_option linter.unusedVariables false
set_option linter.unusedSimpArgs false

def In64p (z : Int) : Prop := -9223372036854775808 ≤ z ∧ z ≤ 9223372036854775807
end Go.Proofs.YtpmnjojednbnpaaGreatDoor
end
section
namespace Go.Proofs.YtpmnjojednbnpaaGreatDoor
open Go.ChangeShapes Go.WideShapes Go.ChangeAt Go.RowKit
set_option linter.unusedVariables false
set_option linter.unusedSimpArgs false

section
variable {P : Program} {w : World}
theorem run_app2 {t ty e : TypeId} {size bytes : Nat} (E : Elem P t e size bytes) {base n m c d : Nat} {A B : Option Addr} {xs news : List Value}
    (hown : w.ownsRow base e size (.slice A n c) n xs) (hl : news.length = m * size) (hm : 0 < m) (hr : Sl w B news) (h1 : ∀ u ∈ news, u.oneCell' = true)
    (h63 : n + m ≤ maxLen) (hb : (n + m) * bytes ≤ 140737488355328) (hbase : base ≤ w.heap.size) :
    ∃ A' c' w', (Builtin.append_ #[t, t] ty #[.slice A n c, .slice B m d]).run P w = .ok (.slice A' (n + m) c') w' ∧ w'.ownsRow base e size (.slice A' (n + m) c') (n + m) (xs ++ news) ∧
      w.grownBy w' (Value.slice A n c).ownBlock ∧ ((Value.slice A' (n + m) c').ownBlock = (Value.slice A n c).ownBlock ∨ (Value.slice A' (n + m) c').ownBlock = some w.heap.size) ∧ Below base w w' := by
  obtain ⟨i, z, hi, hz, hsize, hby, hzs⟩ := E.info
  have hne : news ≠ [] := by
    intro h0
    rw [h0, List.length_nil] at hl
    rcases Nat.mul_eq_zero.1 hl.symm with h | h
    · omega
    · have := E.pos; omega
  obtain ⟨b, o, rfl, hc⟩ := hr hne
  obtain ⟨v', w', hrun, h2, h3, _, h5⟩ := run_append_own_at (P := P) w base t ty e i z size bytes E.und hi hz hsize hby hzs E.pos _ n xs hown ⟨b, o, none⟩ m d news hl
    (fun j u hu => by rw [addr_add]; exact hc j u hu) h1 h63 hb hbase
  obtain ⟨A', c', rfl⟩ := own_form h2
  exact ⟨A', c', w', hrun, h2, h3, h5, below_of_grown h3 hbase (own_ge hown)⟩
end
def Apart (v u : Value) : Prop := ∀ g, v.ownBlock = some g → u.ownBlock ≠ some g
theorem Apart.symm {v u : Value} (h : Apart v u) : Apart u v := fun g h1 h2 => h g h2 h1
theorem Apart.none (u : Value) : Apart (.slice none 0 0) u := fun g h => by simp [Value.ownBlock] at h
theorem Apart.grow {w : World} {base e size n : Nat} {v v' u : Value} {xs : List Value} (h : Apart v u) (hu : w.ownsRow base e size u n xs) (hv : v'.ownBlock = v.ownBlock ∨ v'.ownBlock = some w.heap.size) : Apart v' u := by
  intro g h1 h2
  rcases hv with hv | hv
  · exact h g (hv ▸ h1) h2
  · rw [hv] at h1
    injection h1 with h1
    subst h1
    rcases hu.2 with ⟨rfl, _⟩ | ⟨g', cap, cur, rfl, _, hh, _⟩
    · simp [Value.ownBlock] at h2
    · simp only [Value.ownBlock, Option.some.injEq] at h2
      subst h2
      rw [Array.getElem?_eq_none (Nat.le_refl _)] at hh
      cases hh
section
variable {P : Program} {w : World}
end
theorem own_far1 {w : World} {base e size n : Nat} {v : Value} {xs : List Value} (h : w.ownsRow base e size v n xs) {p : Addr} (hp : v.ownBlock ≠ some p.block) (u : Value) : (w.setCell p u).ownsRow base e size v n xs := by
  obtain ⟨h1, h2⟩ := h
  refine ⟨h1, ?_⟩
  rcases h2 with h2 | ⟨g, cap, cur, hv, hg, hh, hr⟩
  · exact .inl h2
  · refine .inr ⟨g, cap, cur, hv, hg, ?_, hr⟩
    rw [Below.heap_setCell]
    · exact hh
    · intro e
      subst hv
      subst e
      exact hp rfl
theorem own_type {w : World} {base e size n g t : Nat} {v : Value} {xs : List Value} {cs : Array Value} {fr : Nat × Nat} (h : w.ownsRow base e size v n xs) (hg : w.heap[g]? = some (.cells cs t fr)) (hne : e ≠ t) : v.ownBlock ≠ some g := by
  rcases h.2 with ⟨rfl, _⟩ | ⟨g', cap, cur, rfl, _, hh, _⟩
  · simp [Value.ownBlock]
  · simp only [Value.ownBlock, ne_eq, Option.some.injEq]
    intro e1
    subst e1
    rw [hg] at hh
    injection hh with hh
    injection hh with _ e2
    exact hne e2.symm
theorem Bk.grown {w w' : World} {b : Nat} {cs : Array Value} {row : Option Nat} (h : Bk w b cs) (hg : w.grownBy w' row) (hne : row ≠ some b) : Bk w' b cs := by
  have hk := hg.block b h.1 (fun e => hne e.symm)
  exact ⟨Nat.lt_of_lt_of_le h.1 hg.size, fun o => (World.cell?_of_block (a := ⟨b, o, none⟩) hk).trans (h.2 o)⟩
end Go.Proofs.YtpmnjojednbnpaaGreatDoor
end
section
namespace Go.Proofs.YtpmnjojednbnpaaGreatDoor
open Go.ChangeShapes Go.WideShapes Go.ChangeAt Go.RowKit
set_option linter.unusedVariables false
set_option linter.unusedSimpArgs false

structure RowS (α : Type) where
  A : Option Addr
  c : Nat
  l : List α
section
variable {α : Type}
def RowS.cells (s : RowS α) : List Value := [.slice s.A s.l.length s.c]
theorem RowS.len (s : RowS α) : s.cells.length = 1 := rfl
theorem RowS.one (s : RowS α) : ∀ u ∈ s.cells, u.oneCell' = true := by
  intro u hu
  simp only [RowS.cells, List.mem_cons, List.not_mem_nil, or_false] at hu
  subst hu; rfl
def RowS.all (S : List (RowS α)) : List α := (S.map RowS.l).flatten
def RowsOk (w : World) (f : α → List Value) (S : List (RowS α)) : Prop := ∀ s ∈ S, Sl w s.A (rc f s.l)
theorem RowsOk.below {w w' : World} {f : α → List Value} {S : List (RowS α)} (h : RowsOk w f S) (hb : Below w.heap.size w w') : RowsOk w' f S := fun s hs => (h s hs).below hb
theorem RowsOk.alloc {w : World} {f : α → List Value} {S : List (RowS α)} (h : RowsOk w f S) (o : Obj) : RowsOk (w.alloc o) f S := fun s hs => (h s hs).alloc o
theorem RowsOk.drew {w : World} {f : α → List Value} {S : List (RowS α)} (h : RowsOk w f S) : RowsOk w.drew f S := h
theorem rd_rowsP {w : World} {f : α → List Value} {p : α → Prop} {s : Shape} {A : Option Addr} {n c : Nat} (hf : ∀ r, Rd w s r → ∃ g, r = f g ∧ p g) (h : Rd w (.sl s) [.slice A n c]) :
    ∃ l : List α, l.length = n ∧ n ≤ c ∧ c ≤ maxLen ∧ Sl w A (rc f l) ∧ ∀ y ∈ l, p y := by
  obtain ⟨A', n', c', rows, e, h1, h2, h3, h4, h5⟩ := h
  simp only [List.cons.injEq, Value.slice.injEq, and_true] at e
  obtain ⟨rfl, rfl, rfl⟩ := e
  have key : ∀ rows : List (List Value), (∀ r ∈ rows, Rd w s r) → ∃ l : List α, l.length = rows.length ∧ rows.flatten = rc f l ∧ ∀ y ∈ l, p y := by
    intro rows
    induction rows with
    | nil => intro _; exact ⟨[], rfl, rfl, fun y hy => by cases hy⟩
    | cons r rows ih =>
      intro h
      obtain ⟨l, a1, a2, a3⟩ := ih (fun x hx => h x (by simp [hx]))
      obtain ⟨x, rfl, hx⟩ := hf r (h r (by simp))
      refine ⟨x :: l, by simp [a1], by simp [a2, rc], fun y hy => ?_⟩
      rcases List.mem_cons.1 hy with rfl | hy
      · exact hx
      · exact a3 y hy
  obtain ⟨l, a1, a2, a3⟩ := key rows h5
  rw [a2] at h4
  exact ⟨l, by omega, h1, h2, h4, a3⟩
end
end Go.Proofs.YtpmnjojednbnpaaGreatDoor
end
section
namespace Go.Proofs.YtpmnjojednbnpaaGreatDoor
open Go.ChangeShapes Go.WideShapes Go.ChangeAt Go.RowKit
set_option linter.unusedVariables false
set_option linter.unusedSimpArgs false

structure Chg (g : Nat) (row : Option Nat) (w w' : World) : Prop where
  os : w'.os = w.os
  tape : w'.tape = w.tape
  output : w'.output = w.output
  size : w.heap.size ≤ w'.heap.size
  block : ∀ k, k < w.heap.size → k ≠ g → some k ≠ row → w'.heap[k]? = w.heap[k]?
theorem Chg.refl (g : Nat) (row : Option Nat) (w : World) : Chg g row w w := ⟨rfl, rfl, rfl, Nat.le_refl _, fun _ _ _ _ => rfl⟩
theorem Chg.of_below {g : Nat} {row : Option Nat} {w w' : World} (h : Below w.heap.size w w') : Chg g row w w' := ⟨h.os, h.tape, h.output, h.size, fun k hk _ _ => h.block k hk⟩
theorem Chg.of_grown {g : Nat} {row : Option Nat} {w w' : World} (h : w.grownBy w' row) : Chg g row w w' := ⟨h.os, h.tape, h.output, h.size, fun k hk _ hr => h.block k hk hr⟩
theorem Chg.set {g : Nat} {row : Option Nat} {w : World} (i : Nat) (v : Value) : Chg g row w (w.setCell ⟨g, i, none⟩ v) :=
  ⟨rfl, rfl, rfl, by simp, fun k _ hk _ => Below.heap_setCell _ _ _ _ hk⟩
theorem Chg.trans {g : Nat} {row row1 : Option Nat} {w w1 w2 : World} (h : Chg g row w w1) (k : Chg g row1 w1 w2) (hr : row1 = row ∨ ∃ b, row1 = some b ∧ w.heap.size ≤ b) : Chg g row w w2 :=
  ⟨k.os.trans h.os, k.tape.trans h.tape, k.output.trans h.output, Nat.le_trans h.size k.size, fun j hj hg hn => (k.block j (Nat.lt_of_lt_of_le hj h.size) hg (by
    rcases hr with rfl | ⟨b, rfl, hb⟩
    · exact hn
    · intro e; injection e with e; omega)).trans (h.block j hj hg hn)⟩
theorem Chg.below {g : Nat} {row : Option Nat} {w w' : World} {B : Nat} (h : Chg g row w w') (hB : B ≤ w.heap.size) (hg : B ≤ g) (hr : ∀ b, row = some b → B ≤ b) : Below B w w' :=
  ⟨h.os, h.tape, h.output, h.size, fun k hk => h.block k (by omega) (by omega) (fun e => by have := hr k e.symm; omega)⟩
structure Wr (w : World) (g : Nat) (A : Option Addr) (c : Nat) (bs : List Nat) : Prop where
  blk : w.heap[g]? = some (.cells #[.bool true, .slice A bs.length c] 217 (0, 0))
  own : w.ownsRow (g + 1) 5 1 (.slice A bs.length c) bs.length (by8 bs)
theorem blk_got {w : World} {g : Nat} {a b : Value} {t : Nat} (h : w.heap[g]? = some (.cells #[a, b] t (0, 0))) : w.cell? ⟨g, 0, none⟩ = some a ∧ w.cell? ⟨g, 1, none⟩ = some b ∧ w.frozen? ⟨g, 0, none⟩ = false ∧ w.frozen? ⟨g, 1, none⟩ = false ∧ g < w.heap.size := by
  refine ⟨by rw [cell_of_row w g 0 _ t (0, 0) h]; rfl, by rw [cell_of_row w g 1 _ t (0, 0) h]; rfl, by simp [World.frozen?, h], by simp [World.frozen?, h], ?_⟩
  rcases Nat.lt_or_ge g w.heap.size with h1 | h1
  · exact h1
  · rw [Array.getElem?_eq_none h1] at h; cases h
theorem Wr.lt {w : World} {g : Nat} {A : Option Addr} {c : Nat} {bs : List Nat} (h : Wr w g A c bs) : g < w.heap.size := (blk_got h.blk).2.2.2.2
theorem Wr.ne {w : World} {g : Nat} {A : Option Addr} {c : Nat} {bs : List Nat} (h : Wr w g A c bs) : (Value.slice A bs.length c).ownBlock ≠ some g := fun e => by have := own_ge h.own g e; omega
theorem Wr.below {w w' : World} {g : Nat} {A : Option Addr} {c : Nat} {bs : List Nat} (h : Wr w g A c bs) (hb : Below w.heap.size w w') : Wr w' g A c bs := ⟨by rw [hb.block g h.lt]; exact h.blk, own_below h.own hb⟩
theorem Wr.alloc {w : World} {g : Nat} {A : Option Addr} {c : Nat} {bs : List Nat} (h : Wr w g A c bs) (o : Obj) : Wr (w.alloc o) g A c bs := h.below ((Below.refl _ _).alloc (Nat.le_refl _) o)
theorem Wr.put {w W : World} {g : Nat} {A A' : Option Addr} {c c' : Nat} {bs new : List Nat} (h : Wr w g A c bs) (hg : w.grownBy W (Value.slice A bs.length c).ownBlock)
    (hown : W.ownsRow (g + 1) 5 1 (.slice A' (bs ++ new).length c') (bs ++ new).length (by8 (bs ++ new))) : Wr (W.setCell ⟨g, 1, none⟩ (.slice A' (bs ++ new).length c')) g A' c' (bs ++ new) := by
  have hblk : W.heap[g]? = some (.cells #[.bool true, .slice A bs.length c] 217 (0, 0)) := by rw [hg.block g h.lt (fun e => h.ne e.symm)]; exact h.blk
  refine ⟨?_, own_far1 hown (p := ⟨g, 1, none⟩) (fun e => by have := own_ge hown g e; omega) _⟩
  rw [setCell_eq_setRow W g 1 _ 217 (0, 0) _ hblk]
  have := setRow_heap W g _ ((#[.bool true, .slice A bs.length c] : Array Value).set! 1 (.slice A' (bs ++ new).length c')) 217 (0, 0) hblk
  simpa using this
end Go.Proofs.YtpmnjojednbnpaaGreatDoor
end
section
namespace Go.Proofs.YtpmnjojednbnpaaGreatDoor
open Go.ChangeShapes Go.WideShapes Go.ChangeAt Go.RowKit
set_option linter.unusedVariables false
set_option linter.unusedSimpArgs false

theorem blk_got3 {w : World} {g : Nat} {a b c : Value} {t : Nat} (h : w.heap[g]? = some (.cells #[a, b, c] t (0, 0))) : w.cell? ⟨g, 0, none⟩ = some a ∧ w.cell? ⟨g, 1, none⟩ = some b ∧ w.cell? ⟨g, 2, none⟩ = some c ∧ w.frozen? ⟨g, 0, none⟩ = false ∧ w.frozen? ⟨g, 1, none⟩ = false ∧ w.frozen? ⟨g, 2, none⟩ = false ∧ g < w.heap.size := by
  refine ⟨by rw [cell_of_row w g 0 _ t (0, 0) h]; rfl, by rw [cell_of_row w g 1 _ t (0, 0) h]; rfl, by rw [cell_of_row w g 2 _ t (0, 0) h]; rfl, by simp [World.frozen?, h], by simp [World.frozen?, h], by simp [World.frozen?, h], ?_⟩
  rcases Nat.lt_or_ge g w.heap.size with h1 | h1
  · exact h1
  · rw [Array.getElem?_eq_none h1] at h; cases h
def Lies (g : Nat) (A : Option Addr) (c : Nat) (B : List Nat) : Prop := (A = none ∧ c = 0 ∧ B = []) ∨ ∃ b o, A = some ⟨b, o, none⟩ ∧ b < g
structure Rdr (w : World) (g : Nat) (A : Option Addr) (c : Nat) (B : List Nat) (er : Int) : Prop where
  blk : w.heap[g]? = some (.cells #[.bool true, .slice A B.length c, .int .i64 er] 211 (0, 0))
  sl : Sl w A (by8 B)
  cap : B.length ≤ c
  cm : c ≤ maxLen
  lies : Lies g A c B
  oct : Oct B
theorem Rdr.lt {w : World} {g : Nat} {A : Option Addr} {c : Nat} {B : List Nat} {er : Int} (h : Rdr w g A c B er) : g < w.heap.size := (blk_got3 h.blk).2.2.2.2.2.2
theorem Rdr.below {w w' : World} {g : Nat} {A : Option Addr} {c : Nat} {B : List Nat} {er : Int} (h : Rdr w g A c B er) (hb : Below w.heap.size w w') : Rdr w' g A c B er := ⟨by rw [hb.block g h.lt]; exact h.blk, h.sl.below hb, h.cap, h.cm, h.lies, h.oct⟩
theorem Rdr.put {w : World} {g : Nat} {A A' : Option Addr} {c c' : Nat} {B B' : List Nat} {er : Int} (h : Rdr w g A c B er) (hs : Sl w A' (by8 B')) (hc : B'.length ≤ c') (hm : c' ≤ maxLen) (hl : Lies g A' c' B') (ho : Oct B') :
    Rdr (w.setCell ⟨g, 1, none⟩ (.slice A' B'.length c')) g A' c' B' er := by
  refine ⟨?_, hs.far (fun b o hA => ?_) _, hc, hm, hl, ho⟩
  · rw [setCell_eq_setRow w g 1 _ 211 (0, 0) _ h.blk]
    have := setRow_heap w g _ ((#[.bool true, .slice A B.length c, .int .i64 er] : Array Value).set! 1 (.slice A' B'.length c')) 211 (0, 0) h.blk
    simpa using this
  · rcases hl with ⟨h1, _⟩ | ⟨b1, o1, h1, h2⟩
    · rw [h1] at hA; cases hA
    · rw [h1] at hA
      injection hA with hA
      injection hA with hA _
      subst hA
      exact Nat.ne_of_lt h2
theorem Rdr.fail {w : World} {g : Nat} {A : Option Addr} {c : Nat} {B : List Nat} {er : Int} (h : Rdr w g A c B er) (e : Int) :
    Rdr ((w.setCell ⟨g, 2, none⟩ (.int .i64 e)).setCell ⟨g, 1, none⟩ (.slice none 0 0)) g none 0 [] e := by
  refine ⟨?_, Sl.nil, Nat.le_refl _, by decide, .inl ⟨rfl, rfl, rfl⟩, fun x hx => by cases hx⟩
  have h1 : (w.setCell ⟨g, 2, none⟩ (.int .i64 e)).heap[g]? = some (.cells #[.bool true, .slice A B.length c, .int .i64 e] 211 (0, 0)) := by
    rw [setCell_eq_setRow w g 2 _ 211 (0, 0) _ h.blk]
    have := setRow_heap w g _ ((#[.bool true, .slice A B.length c, .int .i64 er] : Array Value).set! 2 (.int .i64 e)) 211 (0, 0) h.blk
    simpa using this
  rw [setCell_eq_setRow _ g 1 _ 211 (0, 0) _ h1]
  have := setRow_heap _ g _ ((#[.bool true, .slice A B.length c, .int .i64 e] : Array Value).set! 1 (.slice none 0 0)) 211 (0, 0) h1
  simpa using this
theorem Lies.drop {g : Nat} {b o c n : Nat} {B : List Nat} (h : b < g) (A : Option Addr) (hA : A = some ⟨b, o, none⟩ ∨ A = some ⟨b, o + n, none⟩) : Lies g A c B := by
  rcases hA with rfl | rfl
  · exact .inr ⟨b, o, rfl, h⟩
  · exact .inr ⟨b, o + n, rfl, h⟩
def bs8 (l : List Nat) : ByteArray := ⟨(l.map UInt8.ofNat).toArray⟩
theorem bs8_size (l : List Nat) : (bs8 l).size = l.length := by simp [bs8, ByteArray.size]
end Go.Proofs.YtpmnjojednbnpaaGreatDoor
end
section
namespace Go.Proofs.YtpmnjojednbnpaaGreatDoor
open Go.ChangeShapes Go.WideShapes Go.ChangeAt Go.RowKit
set_option linter.unusedVariables false
set_option linter.unusedSimpArgs false

theorem own_chg {w w' : World} {base e size n g : Nat} {v : Value} {row : Option Nat} {xs : List Value} (h : w.ownsRow base e size v n xs) (hC : Chg g row w w') (hg : v.ownBlock ≠ some g) (hr : ∀ b, v.ownBlock = some b → row ≠ some b) : w'.ownsRow base e size v n xs := by
  refine ⟨h.1, ?_⟩
  rcases h.2 with hn | ⟨g1, cap, cur, rfl, hb, hgg, rest⟩
  · exact .inl hn
  · refine .inr ⟨g1, cap, cur, rfl, hb, ?_, rest⟩
    rw [hC.block g1 (Array.getElem?_eq_some_iff.1 hgg).1 (by simpa [Value.ownBlock] using hg) (fun e => hr g1 rfl e.symm)]
    exact hgg
structure WrS (W : Nat) (w : World) (g : Nat) (A : Option Addr) (c : Nat) (bs : List Nat) : Prop where
  wr : Wr w g A c bs
  ge : W ≤ g
  row : ∀ b, (Value.slice A bs.length c).ownBlock = some b → W ≤ b
theorem WrS.below {W : Nat} {w w' : World} {g : Nat} {A : Option Addr} {c : Nat} {bs : List Nat} (h : WrS W w g A c bs) (hb : Below w.heap.size w w') : WrS W w' g A c bs := ⟨h.wr.below hb, h.ge, h.row⟩
theorem WrS.chg {W : Nat} {w w' : World} {g r : Nat} {A : Option Addr} {c : Nat} {bs : List Nat} (h : WrS W w g A c bs) (hC : Chg r none w w') (hr : r < W) : WrS W w' g A c bs := by
  have hg := h.ge
  refine ⟨⟨by rw [hC.block g h.wr.lt (by omega) (by simp)]; exact h.wr.blk, own_chg h.wr.own hC (fun e => by have := h.row r e; omega) (fun b _ e => by cases e)⟩, hg, h.row⟩
end Go.Proofs.YtpmnjojednbnpaaGreatDoor
end
section
namespace Go.Proofs.YtpmnjojednbnpaaGreatDoor
open Go.ChangeShapes Go.WideShapes Go.ChangeAt Go.RowKit
set_option linter.unusedVariables false
set_option linter.unusedSimpArgs false

def fldL (op : Int) : List Nat :=
  if op = 1 ∨ op = 6 ∨ op = 21 then [77, 81] else if op = 2 then [73, 81, 80, 78] else if op = 3 then [65, 80, 81] else if op = 4 then [85, 77, 68]
  else if op = 5 ∨ op = 22 ∨ (26 ≤ op ∧ op ≤ 29) then [85] else if op = 7 ∨ op = 8 ∨ op = 24 then [85, 79, 73, 81, 80] else if 9 ≤ op ∧ op ≤ 11 then [68]
  else if op = 12 then [85, 73, 78] else if op = 13 then [68, 79, 81] else if op = 14 then [73, 80] else if op = 15 then [65, 80] else if op = 17 ∨ op = 18 then [85, 65, 84, 81]
  else if op = 19 ∨ op = 20 then [85, 79] else if op = 23 ∨ op = 25 ∨ op = 31 then [77] else []
def slotL (f : Nat) : List (Nat × Int) :=
  if f = 77 then [(2, 8)] else if f = 85 then [(3, 16), (4, 16)] else if f = 79 then [(5, 16), (6, 16)] else if f = 73 then [(7, 8)] else if f = 65 then [(8, 4)]
  else if f = 84 then [(9, 255)] else if f = 68 then [(10, 1048576)] else if f = 81 then [(11, -1)] else if f = 80 then [(12, -1)] else []
def fitS (z : List Int) (s : Nat × Int) : Bool := decide (s.2 < 0 ∨ (0 ≤ z.getD s.1 0 ∧ z.getD s.1 0 ≤ s.2))
def stpZ : List (Nat × Int) → List Int → Bool × List Int
  | [], z => (true, z)
  | s :: r, z => (fitS z s && (stpZ r (z.set s.1 0)).1, (stpZ r (z.set s.1 0)).2)
def chkZ : List Nat → List Int → Bool × List Int
  | [], z => (true, z)
  | f :: r, z => ((stpZ (slotL f) z).1 && (chkZ r (stpZ (slotL f) z).2).1, (chkZ r (stpZ (slotL f) z).2).2)
def sing : List Nat := [77, 85, 79, 73, 65, 84, 68, 81, 80]
def zeroZ (z : List Int) : Bool := sing.all fun f => (slotL f).all fun s => decide (z.getD s.1 0 = 0)
def okZ (z : List Int) (n : Nat) : Bool :=
  decide (1 ≤ z.getD 0 0 ∧ z.getD 0 0 ≤ 31 ∧ 0 ≤ z.getD 1 0 ∧ z.getD 1 0 ≤ 8 ∧ n ≤ 32) && (chkZ (fldL (z.getD 0 0)) z).1 && zeroZ (chkZ (fldL (z.getD 0 0)) z).2 && (decide (n = 0) || (fldL (z.getD 0 0)).contains 78)
def wthI (n t : Int) (b : Bool) : Bool := decide (n = 0) || (b && decide (0 < n ∧ n ≤ t))
def isZ (z : List Int) (n : Nat) : Bool :=
  let f := fldL (z.getD 0 0)
  decide (1 ≤ z.getD 0 0 ∧ z.getD 0 0 ≤ 31 ∧ 0 ≤ z.getD 1 0 ∧ z.getD 1 0 ≤ 8) &&
  (wthI (z.getD 2 0) 8 (f.contains 77) && wthI (z.getD 7 0) 8 (f.contains 73) && wthI (z.getD 8 0) 4 (f.contains 65) && wthI (z.getD 9 0) 255 (f.contains 84) && wthI (z.getD 10 0) 1048576 (f.contains 68)) &&
  (wthI (z.getD 3 0) 16 (f.contains 85) && wthI (z.getD 4 0) 16 (f.contains 85) && wthI (z.getD 5 0) 16 (f.contains 79) && wthI (z.getD 6 0) 16 (f.contains 79)) &&
  ((decide (z.getD 11 0 = 0) || f.contains 81) && (decide (z.getD 12 0 = 0) || f.contains 80)) &&
  (decide (n = 0) || (f.contains 78 && decide (n ≤ 32)))
set_option maxHeartbeats 4000000 in
theorem ok_isE (z0 z1 z2 z3 z4 z5 z6 z7 z8 z9 z10 z11 z12 : Int) (n : Nat) : okZ [z0, z1, z2, z3, z4, z5, z6, z7, z8, z9, z10, z11, z12] n = isZ [z0, z1, z2, z3, z4, z5, z6, z7, z8, z9, z10, z11, z12] n := by
  by_cases h : 1 ≤ z0 ∧ z0 ≤ 31
  · have h2 : z0 = 1 ∨ z0 = 2 ∨ z0 = 3 ∨ z0 = 4 ∨ z0 = 5 ∨ z0 = 6 ∨ z0 = 7 ∨ z0 = 8 ∨ z0 = 9 ∨ z0 = 10 ∨ z0 = 11 ∨ z0 = 12 ∨ z0 = 13 ∨ z0 = 14 ∨ z0 = 15 ∨ z0 = 16 ∨ z0 = 17 ∨ z0 = 18 ∨ z0 = 19 ∨ z0 = 20 ∨ z0 = 21 ∨ z0 = 22 ∨ z0 = 23 ∨ z0 = 24 ∨ z0 = 25 ∨ z0 = 26 ∨ z0 = 27 ∨ z0 = 28 ∨ z0 = 29 ∨ z0 = 30 ∨ z0 = 31 := by omega
    rw [Bool.eq_iff_iff]
    clear h
    rcases h2 with rfl | rfl | rfl | rfl | rfl | rfl | rfl | rfl | rfl | rfl | rfl | rfl | rfl | rfl | rfl | rfl | rfl | rfl | rfl | rfl | rfl | rfl | rfl | rfl | rfl | rfl | rfl | rfl | rfl | rfl | rfl
    all_goals
      simp [okZ, isZ, fldL, chkZ, stpZ, slotL, fitS, zeroZ, sing, wthI]
      omega
  · have e1 : okZ [z0, z1, z2, z3, z4, z5, z6, z7, z8, z9, z10, z11, z12] n = false := by
      rw [Bool.eq_false_iff]
      intro hc
      simp only [okZ, Bool.and_eq_true, decide_eq_true_eq] at hc
      exact h ⟨hc.1.1.1.1, hc.1.1.1.2.1⟩
    have e2 : isZ [z0, z1, z2, z3, z4, z5, z6, z7, z8, z9, z10, z11, z12] n = false := by
      rw [Bool.eq_false_iff]
      intro hc
      simp only [isZ, Bool.and_eq_true, decide_eq_true_eq] at hc
      exact h ⟨hc.1.1.1.1.1, hc.1.1.1.1.2.1⟩
    rw [e1, e2]
theorem ok_is {z : List Int} (h : z.length = 13) (n : Nat) : okZ z n = isZ z n := by
  match z, h with
  | [z0, z1, z2, z3, z4, z5, z6, z7, z8, z9, z10, z11, z12], _ => exact ok_isE ..
theorem fldL_cases (op : Int) : fldL op = [77, 81] ∨ fldL op = [73, 81, 80, 78] ∨ fldL op = [65, 80, 81] ∨ fldL op = [85, 77, 68] ∨ fldL op = [85] ∨ fldL op = [85, 79, 73, 81, 80] ∨ fldL op = [68] ∨ fldL op = [85, 73, 78] ∨ fldL op = [68, 79, 81] ∨ fldL op = [73, 80] ∨ fldL op = [65, 80] ∨ fldL op = [85, 65, 84, 81] ∨ fldL op = [85, 79] ∨ fldL op = [77] ∨ fldL op = [] := by
  have aux : ∀ {p : Prop} [Decidable p] {a b : List Nat} {M : List Nat → Prop}, M a → M b → M (if p then a else b) := fun ha hb => by
    split
    · exact ha
    · exact hb
  unfold fldL
  refine aux (M := fun l => l = _ ∨ l = _ ∨ l = _ ∨ l = _ ∨ l = _ ∨ l = _ ∨ l = _ ∨ l = _ ∨ l = _ ∨ l = _ ∨ l = _ ∨ l = _ ∨ l = _ ∨ l = _ ∨ l = _) (by simp) ?_
  iterate 13 refine aux (M := fun l => l = _ ∨ l = _ ∨ l = _ ∨ l = _ ∨ l = _ ∨ l = _ ∨ l = _ ∨ l = _ ∨ l = _ ∨ l = _ ∨ l = _ ∨ l = _ ∨ l = _ ∨ l = _ ∨ l = _) (by simp) ?_
  simp
end Go.Proofs.YtpmnjojednbnpaaGreatDoor
end
