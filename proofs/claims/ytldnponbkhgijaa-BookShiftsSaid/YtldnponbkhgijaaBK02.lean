import Derived.Test.YtldnponbkhgijaaBK01
section
namespace Go.Proofs.Ytldnponbkhgijaa
open Go.ChangeShapes Go.WideShapes Go.ChangeAt Go.RowKit
set_option linter.unusedVariables false
set_option linter.unusedSimpArgs false

def keyLt (a c a' c' : Int) : Bool := decide (a < a' ∨ a = a' ∧ c < c')
theorem keyLt_iff (a c a' c' : Int) : keyLt a c a' c' = true ↔ a < a' ∨ a = a' ∧ c < c' := by simp [keyLt]
theorem keyLt_not (a c a' c' : Int) : keyLt a c a' c' = false ↔ ¬ (a < a' ∨ a = a' ∧ c < c') := by rw [← keyLt_iff]; simp
theorem bext {a b : Bool} (h : a = true ↔ b = true) : a = b := by cases a <;> cases b <;> simp_all
theorem ord_key {α : Type} (f g : α → Int) : Ord (fun x y : α => keyLt (f x) (g x) (f y) (g y)) where
  tr := fun a b c h1 h2 => by simp only [keyLt_iff] at *; omega
  asy := fun a b h => by simp only [keyLt_iff, keyLt_not] at *; omega
  cong := fun a x b h1 h2 => bext (by simp only [keyLt_iff, keyLt_not] at *; omega)
  cong2 := fun a x b h1 h2 => bext (by simp only [keyLt_iff, keyLt_not] at *; omega)
theorem sorted_ext {α : Type} {ah : α → α → Bool} (o : Ord ah) : ∀ (A B : List α), A.Pairwise (fun a b => ah a b = true) → B.Pairwise (fun a b => ah a b = true) → (∀ x, x ∈ A ↔ x ∈ B) → A = B
  | [], [], _, _, _ => rfl
  | [], b :: B, _, _, h => by have := (h b).2 (by simp); cases this
  | a :: A, [], _, _, h => by have := (h a).1 (by simp); cases this
  | a :: A, b :: B, hA, hB, h => by
    have irr : ∀ x, ah x x = false := fun x => by
      cases e : ah x x with
      | false => rfl
      | true => have := o.asy _ _ e; rw [e] at this; cases this
    have e : a = b := by
      rcases List.mem_cons.1 ((h a).1 (by simp)) with e | h1
      · exact e
      · rcases List.mem_cons.1 ((h b).2 (by simp)) with e | h2
        · exact e.symm
        · have h3 := List.rel_of_pairwise_cons hA h2
          have h4 := List.rel_of_pairwise_cons hB h1
          rw [o.asy _ _ h3] at h4; cases h4
    subst e
    have hx : ∀ x, x ∈ A ↔ x ∈ B := fun x => by
      constructor
      · intro hx
        rcases List.mem_cons.1 ((h x).1 (by simp [hx])) with e | h1
        · subst e
          have := List.rel_of_pairwise_cons hA hx
          rw [irr] at this; cases this
        · exact h1
      · intro hx
        rcases List.mem_cons.1 ((h x).2 (by simp [hx])) with e | h1
        · subst e
          have := List.rel_of_pairwise_cons hB hx
          rw [irr] at this; cases this
        · exact h1
    rw [sorted_ext o A B hA.of_cons hB.of_cons hx]
end Go.Proofs.Ytldnponbkhgijaa
end
section
namespace Go.Proofs.Ytldnponbkhgijaa
open Go.ChangeShapes Go.WideShapes Go.ChangeAt Go.RowKit
set_option linter.unusedVariables false
set_option linter.unusedSimpArgs false

structure RowS (α : Type) where
  A : Option Addr
  c : Nat
  l : List α
section
variable {α : Type}
def RowS.cells (s : RowS α) : List Value := [.slice s.A s.l.length s.c]
def RowS.val (s : RowS α) : Value := .slice s.A s.l.length s.c
theorem RowS.len (s : RowS α) : s.cells.length = 1 := rfl
theorem RowS.one (s : RowS α) : ∀ u ∈ s.cells, u.oneCell' = true := by
  intro u hu
  simp only [RowS.cells, List.mem_cons, List.not_mem_nil, or_false] at hu
  subst hu; rfl
def RowS.all (S : List (RowS α)) : List α := (S.map RowS.l).flatten
theorem RowS.all_cons (s : RowS α) (S : List (RowS α)) : RowS.all (s :: S) = s.l ++ RowS.all S := by simp [RowS.all]
theorem RowS.all_append (S T : List (RowS α)) : RowS.all (S ++ T) = RowS.all S ++ RowS.all T := by simp [RowS.all]
theorem RowS.all_take {S : List (RowS α)} {k : Nat} (h : k < S.length) : RowS.all (S.take (k + 1)) = RowS.all (S.take k) ++ S[k].l := by
  rw [List.take_succ_eq_append_getElem h, RowS.all_append]; simp [RowS.all]
def RowsOk (w : World) (f : α → List Value) (S : List (RowS α)) : Prop := ∀ s ∈ S, Sl w s.A (rc f s.l)
theorem RowsOk.below {w w' : World} {f : α → List Value} {S : List (RowS α)} (h : RowsOk w f S) (hb : Below w.heap.size w w') : RowsOk w' f S := fun s hs => (h s hs).below hb
theorem RowsOk.alloc {w : World} {f : α → List Value} {S : List (RowS α)} (h : RowsOk w f S) (o : Obj) : RowsOk (w.alloc o) f S := fun s hs => (h s hs).alloc o
theorem RowsOk.drew {w : World} {f : α → List Value} {S : List (RowS α)} (h : RowsOk w f S) : RowsOk w.drew f S := h
theorem Sl.rowS {w : World} {A : Option Addr} {S : List (RowS α)} (h : Sl w A (rc RowS.cells S)) {k : Nat} (hk : k < S.length) : ∃ b o, A = some ⟨b, o, none⟩ ∧ b < w.heap.size ∧ w.cell? ⟨b, o + k, none⟩ = some (.slice S[k].A S[k].l.length S[k].c) := by
  obtain ⟨b, o, hA, hb, hc⟩ := Sl.elem (m := 1) RowS.len (by decide) h hk
  have := hc 0 _ rfl
  rw [Nat.mul_one] at this
  exact ⟨b, o, hA, hb, this⟩
theorem all_len_le {S : List (RowS α)} {k : Nat} : (RowS.all (S.take k)).length ≤ (RowS.all S).length := by
  have h : RowS.all S = RowS.all (S.take k) ++ RowS.all (S.drop k) := by rw [← RowS.all_append, List.take_append_drop]
  rw [h, List.length_append]; omega
theorem rd_rowsP {w : World} {f : α → List Value} {p : α → Prop} {s : Shape} {A : Option Addr} {n c : Nat} (hf : ∀ r, Rd w s r → ∃ g, r = f g ∧ p g) (h : Rd w (.sl s) [.slice A n c]) :
    ∃ l : List α, l.length = n ∧ n ≤ c ∧ c ≤ maxLen ∧ Sl w A (rc f l) ∧ ∀ y ∈ l, p y := by
  obtain ⟨A', n', c', rows, e, h1, h2, h3, h4, h5⟩ := h
  simp only [List.cons.injEq, Value.slice.injEq, and_true] at e
  obtain ⟨rfl, rfl, rfl⟩ := e
  have key : ∀ rows : List (List Value), (∀ r ∈ rows, Rd w s r) → ∃ l : List α, l.length = rows.length ∧ rows.flatten = rc f l ∧ ∀ y ∈ l, p y := by
    intro rows
    induction rows with
    | nil => intro _; exact ⟨[], rfl, rfl, fun y hy => by cases hy⟩
    | cons r rows ih =>
      intro h
      obtain ⟨l, a1, a2, a3⟩ := ih (fun x hx => h x (by simp [hx]))
      obtain ⟨x, rfl, hx⟩ := hf r (h r (by simp))
      refine ⟨x :: l, by simp [a1], by simp [a2, rc], fun y hy => ?_⟩
      rcases List.mem_cons.1 hy with rfl | hy
      · exact hx
      · exact a3 y hy
  obtain ⟨l, a1, a2, a3⟩ := key rows h5
  rw [a2] at h4
  exact ⟨l, by omega, h1, h2, h4, a3⟩
end
end Go.Proofs.Ytldnponbkhgijaa
end
