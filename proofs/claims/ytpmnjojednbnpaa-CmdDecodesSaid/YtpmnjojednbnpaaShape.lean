/-
  What came in, by its type's shape: integers, bools, strings, structs of these, slices of all of it, as rows of cells.
-/
import Derived.Test.YtpmnjojednbnpaaBase
import Derived.Deep.Slices
namespace Go.Proofs.Ytpmnjojednbnpaa
open Go.ChangeShapes Go.WideShapes Go.ChangeAt Go.RowKit
set_option linter.unusedVariables false

inductive Shape where
  | int (k : IntKind)
  | bool
  | str
  | sl (s : Shape)
  | cat (a b : Shape)
  | nil

def Shape.size : Shape → Nat
  | .int _ => 1
  | .bool => 1
  | .str => 1
  | .sl _ => 1
  | .cat a b => a.size + b.size
  | .nil => 0

/-- a struct's fields, one behind the other -/
def fieldsShape (P : Program) (f : TypeId → Option Shape) : List Field → Nat → Option Shape
  | [], _ => some .nil
  | x :: r, off =>
    match f x.type with
    | some s =>
      if x.offset = off ∧ P.cellsOf x.type = s.size then
        match fieldsShape P f r (off + s.size) with
        | some q => some (.cat s q)
        | none => none
      else none
    | none => none

def shapeOf (P : Program) : Nat → TypeId → Option Shape
  | 0, _ => none
  | n + 1, t =>
    match P.underlying t with
    | some (.int k) => some (.int k)
    | some .bool => some .bool
    | some .string => some .str
    | some (.slice e) =>
      match shapeOf P n e with
      | some s => if P.cellsOf e = s.size then some (.sl s) else none
      | none => none
    | some (.struct fs) =>
      match fieldsShape P (shapeOf P n) fs.toList 0 with
      | some s => if P.cellsOf t = s.size then some s else none
      | none => none
    | _ => none

/-- the cells cs read as a value of the shape -/
def Rd (w : World) : Shape → List Value → Prop
  | .int k, cs => ∃ n, cs = [.int k n] ∧ (Lit.int k n).wf = true
  | .bool, cs => ∃ b, cs = [.bool b]
  | .str, cs => ∃ s, cs = [.string s] ∧ s.size ≤ maxLen
  | .sl s, cs => ∃ (A : Option Addr) (n c : Nat) (rows : List (List Value)), cs = [.slice A n c] ∧ n ≤ c ∧ c ≤ maxLen ∧ rows.length = n ∧ Sl w A rows.flatten ∧ ∀ r ∈ rows, Rd w s r
  | .cat a b, cs => ∃ x y, cs = x ++ y ∧ Rd w a x ∧ Rd w b y
  | .nil, cs => cs = []

theorem flatten_at {α : Type} (k : Nat) : ∀ (rows : List (List α)), (∀ r ∈ rows, r.length = k) → ∀ j u, rows.flatten[j]? = some u → ∃ i r, i < rows.length ∧ r < k ∧ j = i * k + r ∧ ∃ row, rows[i]? = some row ∧ row[r]? = some u := by
  intro rows
  induction rows with
  | nil => intro _ j u h; simp at h
  | cons a l ih =>
    intro hk j u h
    have ha := hk a (by simp)
    rw [List.flatten_cons] at h
    by_cases hj : j < a.length
    · rw [List.getElem?_append_left hj] at h
      exact ⟨0, j, by simp, by omega, by omega, a, by simp, h⟩
    · rw [List.getElem?_append_right (by omega)] at h
      obtain ⟨i, r, hi, hr, he, row, h1, h2⟩ := ih (fun x hx => hk x (by simp [hx])) _ _ h
      refine ⟨i + 1, r, by simp; omega, hr, ?_, row, by simpa using h1, h2⟩
      rw [Nat.add_mul]
      omega

section
variable {H : Type} {enc : TypeId × Value → H} {P : Program} {w : World} {base : Nat} {spare : Nat → Bool} {held : Bool}

theorem fields_rd (f : TypeId → Option Shape) (hf : ∀ t s, f t = some s → ∀ fuel cs x, DataW.trod enc P w base spare held fuel t cs = some x → Rd w s cs ∧ cs.length = s.size)
    (m : Nat) (cs : List Value) : ∀ (l : List Field) (off : Nat) (s : Shape), fieldsShape P f l off = some s → off + s.size ≤ cs.length →
      (∀ x ∈ l, ∃ y, DataW.trod enc P w base spare held m x.type ((cs.drop x.offset).take (P.cellsOf x.type)) = some y) → Rd w s ((cs.drop off).take s.size) := by
  intro l
  induction l with
  | nil =>
    intro off s h _ _
    simp only [fieldsShape, Option.some.injEq] at h
    subst h
    simp [Rd, Shape.size]
  | cons x r ih =>
    intro off s h hlen hx
    simp only [fieldsShape] at h
    split at h
    · rename_i sx hsx
      split at h
      · rename_i hc
        split at h
        · rename_i q hq
          simp only [Option.some.injEq] at h
          subst h
          simp only [Shape.size] at hlen ⊢
          obtain ⟨y, hy⟩ := hx x (by simp)
          rw [hc.1, hc.2] at hy
          have h1 := (hf _ _ hsx _ _ _ hy).1
          have h2 := ih (off + sx.size) q hq (by omega) (fun z hz => hx z (by simp [hz]))
          refine ⟨_, _, ?_, h1, h2⟩
          rw [List.take_add, List.drop_drop]
        · cases h
      · cases h
    · cases h

theorem trod_shape : ∀ (n : Nat) (t : TypeId) (s : Shape), shapeOf P n t = some s → ∀ (fuel : Nat) (cs : List Value) (x : DataW H × List MemPlace), DataW.trod enc P w base spare held fuel t cs = some x → Rd w s cs ∧ cs.length = s.size := by
  intro n
  induction n with
  | zero => intro t s h; simp [shapeOf] at h
  | succ n ih =>
    intro t s h fuel cs x hx
    unfold shapeOf at h
    split at h
    · rename_i k hu
      simp only [Option.some.injEq] at h; subst h
      obtain ⟨v, rfl, _, hw⟩ := DataW.trod_int hu hx
      exact ⟨⟨v, rfl, hw⟩, rfl⟩
    · rename_i hu
      simp only [Option.some.injEq] at h; subst h
      obtain ⟨v, rfl, _⟩ := DataW.trod_bool hu hx
      exact ⟨⟨v, rfl⟩, rfl⟩
    · rename_i hu
      simp only [Option.some.injEq] at h; subst h
      obtain ⟨v, rfl, _, hs⟩ := DataW.trod_string hu hx
      exact ⟨⟨v, rfl, hs⟩, rfl⟩
    · rename_i e hu
      split at h
      · rename_i q hq
        split at h
        · rename_i hc
          simp only [Option.some.injEq] at h; subst h
          rcases Go.Deep.open_slice hu hx with ⟨rfl, _⟩ | ⟨a, len, cap, m, fu, D, Pl, rfl, _, hl, hm, hmm, _, hi⟩
          · exact ⟨⟨none, 0, 0, [], rfl, Nat.le_refl _, by decide, rfl, Sl.nil, fun r hr => by cases hr⟩, rfl⟩
          · have hlm : len ≤ m := by rw [hmm]; split <;> omega
            rw [hc] at hi
            obtain ⟨R, hR⟩ := Go.Deep.choose_lt (α := List Value) (p := fun i cs' => w.cells? base (a.add (i * q.size)) q.size = some cs' ∧ DataW.trod enc P w base spare held fu e cs' = some (D i, Pl i)) hi
            refine ⟨⟨some a, len, cap, (List.range len).map R, rfl, hl, hm, by simp, ?_, ?_⟩, rfl⟩
            · have hrow : ∀ r ∈ (List.range len).map R, r.length = q.size := by
                intro r hr
                simp at hr
                obtain ⟨i, hi', rfl⟩ := hr
                exact (ih e q hq _ _ _ (hR i (by omega)).2).2
              have hcell : ∀ j u, ((List.range len).map R).flatten[j]? = some u → w.cell? (a.add j) = some u := by
                intro j u hu'
                obtain ⟨i, r, hi', hr, rfl, row, h1, h2⟩ := flatten_at q.size _ hrow j u hu'
                simp at hi'
                simp [hi'] at h1
                subst h1
                obtain ⟨_, hcl, hat⟩ := World.cells?_some (hR i (by omega)).1
                have := hat r hr
                rw [Go.Deep.add_add, h2] at this
                exact this
              intro hne
              have h0 : ∃ u, ((List.range len).map R).flatten[0]? = some u := by
                cases hf : ((List.range len).map R).flatten with
                | nil => exact absurd hf hne
                | cons u _ => exact ⟨u, rfl⟩
              obtain ⟨u, hu0⟩ := h0
              obtain ⟨b, o, sp⟩ := a
              have hsp : sp = none := by
                have := World.cell?_spot (hcell 0 u hu0)
                simpa [Addr.add] using this
              subst hsp
              exact ⟨b, o, rfl, fun j u hu => by rw [← addr_add]; exact hcell j u hu⟩
            · intro r hr
              simp at hr
              obtain ⟨i, hi', rfl⟩ := hr
              exact (ih e q hq _ _ _ (hR i (by omega)).2).1
        · cases h
      · cases h
    · rename_i fs hu
      split at h
      · rename_i q hq
        split at h
        · rename_i hc
          simp only [Option.some.injEq] at h; subst h
          obtain ⟨xs, m, _, _, hlen, hxl, hat⟩ := DataW.trod_struct hu hx
          have hcl : cs.length = q.size := by rw [hlen, hc]
          refine ⟨?_, hcl⟩
          have := fields_rd (enc := enc) (base := base) (spare := spare) (held := held) (shapeOf P n) ih m cs fs.toList 0 q hq (by omega) (fun f hf => by
            obtain ⟨i, hi, rfl⟩ := List.getElem_of_mem hf
            have hi' : i < fs.size := by simpa using hi
            have h1 := hat i fs[i] (Array.getElem?_eq_getElem hi')
            rw [List.getElem?_eq_getElem (by omega)] at h1
            exact ⟨_, by simpa using h1⟩)
          rwa [List.drop_zero, List.take_of_length_le (by omega)] at this
        · cases h
      · cases h
    · cases h

/-- an argument: its value's cells read by its shape -/
theorem arg_shape {n : Nat} {t : TypeId} {s : Shape} {v : Value} {d : DataW H} {p : List MemPlace} (hs : shapeOf P n t = some s) (h : DataW.Trod enc P w base spare held t v d p) : Rd w s v.cells.toList := by
  obtain ⟨fuel, hf⟩ := h
  exact (trod_shape n t s hs fuel _ _ hf).1
end

/-- a slice of integers that came in -/
theorem rd_ints {w : World} {k : IntKind} {A : Option Addr} {n c : Nat} (h : Rd w (.sl (.int k)) [.slice A n c]) :
    ∃ l : List Int, l.length = n ∧ n ≤ c ∧ c ≤ maxLen ∧ Sl w A (ints k l) ∧ ∀ x ∈ l, (Lit.int k x).wf = true := by
  obtain ⟨A', n', c', rows, e, h1, h2, h3, h4, h5⟩ := h
  simp only [List.cons.injEq, Value.slice.injEq, and_true] at e
  obtain ⟨rfl, rfl, rfl⟩ := e
  have key : ∀ rows : List (List Value), (∀ r ∈ rows, Rd w (.int k) r) → ∃ l : List Int, l.length = rows.length ∧ rows.flatten = ints k l ∧ ∀ x ∈ l, (Lit.int k x).wf = true := by
    intro rows
    induction rows with
    | nil => intro _; exact ⟨[], rfl, rfl, fun x hx => by cases hx⟩
    | cons r rows ih =>
      intro h
      obtain ⟨l, a1, a2, a3⟩ := ih (fun x hx => h x (by simp [hx]))
      obtain ⟨x, rfl, hx⟩ := h r (by simp)
      refine ⟨x :: l, by simp [a1], by simp [a2, ints], ?_⟩
      intro y hy
      rcases List.mem_cons.1 hy with rfl | hy
      · exact hx
      · exact a3 y hy
  obtain ⟨l, a1, a2, a3⟩ := key rows h5
  rw [a2] at h4
  exact ⟨l, by omega, h1, h2, h4, a3⟩

section
variable {w w' : World}
theorem Rd.below : ∀ (s : Shape) {cs : List Value}, Rd w s cs → Below w.heap.size w w' → Rd w' s cs := by
  intro s
  induction s with
  | int k => intro cs h _; exact h
  | bool => intro cs h _; exact h
  | str => intro cs h _; exact h
  | nil => intro cs h _; exact h
  | cat a b iha ihb => intro cs ⟨x, y, e, h1, h2⟩ hb; exact ⟨x, y, e, iha h1 hb, ihb h2 hb⟩
  | sl s ih => intro cs ⟨A, n, c, rows, e, h1, h2, h3, h4, h5⟩ hb; exact ⟨A, n, c, rows, e, h1, h2, h3, h4.below hb, fun r hr => ih (h5 r hr) hb⟩
end
end Go.Proofs.Ytpmnjojednbnpaa
