/-
  Rows of slices: what each one's header holds, and the rows that they stand for.
-/
import Derived.Test.YtpmnjojednbnpaaRowM
namespace Go.Proofs.Ytpmnjojednbnpaa
open Go.ChangeShapes Go.WideShapes Go.ChangeAt Go.RowKit
set_option linter.unusedVariables false
set_option linter.unusedSimpArgs false

structure RowS (α : Type) where
  A : Option Addr
  c : Nat
  l : List α
section
variable {α : Type}
def RowS.cells (s : RowS α) : List Value := [.slice s.A s.l.length s.c]
def RowS.val (s : RowS α) : Value := .slice s.A s.l.length s.c
theorem RowS.len (s : RowS α) : s.cells.length = 1 := rfl
theorem RowS.one (s : RowS α) : ∀ u ∈ s.cells, u.oneCell' = true := by
  intro u hu
  simp only [RowS.cells, List.mem_cons, List.not_mem_nil, or_false] at hu
  subst hu; rfl
def RowS.all (S : List (RowS α)) : List α := (S.map RowS.l).flatten
theorem RowS.all_nil : RowS.all ([] : List (RowS α)) = [] := rfl
theorem RowS.all_cons (s : RowS α) (S : List (RowS α)) : RowS.all (s :: S) = s.l ++ RowS.all S := by simp [RowS.all]
theorem RowS.all_append (S T : List (RowS α)) : RowS.all (S ++ T) = RowS.all S ++ RowS.all T := by simp [RowS.all]
theorem RowS.all_take {S : List (RowS α)} {k : Nat} (h : k < S.length) : RowS.all (S.take (k + 1)) = RowS.all (S.take k) ++ S[k].l := by
  rw [List.take_succ_eq_append_getElem h, RowS.all_append]; simp [RowS.all]
/-- each row's cells -/
def RowsOk (w : World) (f : α → List Value) (S : List (RowS α)) : Prop := ∀ s ∈ S, Sl w s.A (rc f s.l)
theorem RowsOk.below {w w' : World} {f : α → List Value} {S : List (RowS α)} (h : RowsOk w f S) (hb : Below w.heap.size w w') : RowsOk w' f S := fun s hs => (h s hs).below hb
theorem RowsOk.alloc {w : World} {f : α → List Value} {S : List (RowS α)} (h : RowsOk w f S) (o : Obj) : RowsOk (w.alloc o) f S := fun s hs => (h s hs).alloc o
theorem RowsOk.drew {w : World} {f : α → List Value} {S : List (RowS α)} (h : RowsOk w f S) : RowsOk w.drew f S := h
theorem Sl.rowS {w : World} {A : Option Addr} {S : List (RowS α)} (h : Sl w A (rc RowS.cells S)) {k : Nat} (hk : k < S.length) : ∃ b o, A = some ⟨b, o, none⟩ ∧ b < w.heap.size ∧ w.cell? ⟨b, o + k, none⟩ = some (.slice S[k].A S[k].l.length S[k].c) := by
  obtain ⟨b, o, hA, hb, hc⟩ := Sl.elem (m := 1) RowS.len (by decide) h hk
  have := hc 0 _ rfl
  rw [Nat.mul_one] at this
  exact ⟨b, o, hA, hb, this⟩
theorem all_len_le {S : List (RowS α)} {k : Nat} : (RowS.all (S.take k)).length ≤ (RowS.all S).length := by
  have h : RowS.all S = RowS.all (S.take k) ++ RowS.all (S.drop k) := by rw [← RowS.all_append, List.take_append_drop]
  rw [h, List.length_append]; omega
/-- a slice of structs that came in, with what holds of each -/
theorem rd_rowsP {w : World} {f : α → List Value} {p : α → Prop} {s : Shape} {A : Option Addr} {n c : Nat} (hf : ∀ r, Rd w s r → ∃ g, r = f g ∧ p g) (h : Rd w (.sl s) [.slice A n c]) :
    ∃ l : List α, l.length = n ∧ n ≤ c ∧ c ≤ maxLen ∧ Sl w A (rc f l) ∧ ∀ y ∈ l, p y := by
  obtain ⟨A', n', c', rows, e, h1, h2, h3, h4, h5⟩ := h
  simp only [List.cons.injEq, Value.slice.injEq, and_true] at e
  obtain ⟨rfl, rfl, rfl⟩ := e
  have key : ∀ rows : List (List Value), (∀ r ∈ rows, Rd w s r) → ∃ l : List α, l.length = rows.length ∧ rows.flatten = rc f l ∧ ∀ y ∈ l, p y := by
    intro rows
    induction rows with
    | nil => intro _; exact ⟨[], rfl, rfl, fun y hy => by cases hy⟩
    | cons r rows ih =>
      intro h
      obtain ⟨l, a1, a2, a3⟩ := ih (fun x hx => h x (by simp [hx]))
      obtain ⟨x, rfl, hx⟩ := hf r (h r (by simp))
      refine ⟨x :: l, by simp [a1], by simp [a2, rc], fun y hy => ?_⟩
      rcases List.mem_cons.1 hy with rfl | hy
      · exact hx
      · exact a3 y hy
  obtain ⟨l, a1, a2, a3⟩ := key rows h5
  rw [a2] at h4
  exact ⟨l, by omega, h1, h2, h4, a3⟩
/-- a slice of slices that came in -/
theorem rd_rows2 {w : World} {f : α → List Value} {p : α → Prop} {s : Shape} {A : Option Addr} {n c : Nat} (hf : ∀ r, Rd w s r → ∃ g, r = f g ∧ p g) (h : Rd w (.sl (.sl s)) [.slice A n c]) :
    ∃ S : List (RowS α), S.length = n ∧ n ≤ c ∧ c ≤ maxLen ∧ Sl w A (rc RowS.cells S) ∧ ∀ r ∈ S, r.l.length ≤ r.c ∧ r.c ≤ maxLen ∧ Sl w r.A (rc f r.l) ∧ ∀ y ∈ r.l, p y := by
  refine rd_rowsP (f := RowS.cells) (p := fun r => r.l.length ≤ r.c ∧ r.c ≤ maxLen ∧ Sl w r.A (rc f r.l) ∧ ∀ y ∈ r.l, p y) (fun r hr => ?_) h
  obtain ⟨A', n', c', e⟩ : ∃ A' n' c', r = [.slice A' n' c'] := by
    obtain ⟨A', n', c', rows, e, _⟩ := hr
    exact ⟨A', n', c', e⟩
  subst e
  obtain ⟨l, h1, h2, h3, h4, h5⟩ := rd_rowsP hf hr
  subst h1
  exact ⟨⟨A', c', l⟩, rfl, h2, h3, h4, h5⟩
end
end Go.Proofs.Ytpmnjojednbnpaa
