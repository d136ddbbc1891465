/-
  Plain mathematics of a table: a row that is put, by recursion; an order of keys.
-/
import Derived.Test.YtpmnjojednbnpaaRow
namespace Go.Proofs.Ytpmnjojednbnpaa
open Go.ChangeShapes Go.WideShapes Go.ChangeAt Go.RowKit
set_option linter.unusedVariables false
set_option linter.unusedSimpArgs false
section
variable {α : Type}
/-- how a row is put, by recursion -/
def putR (ah : α → α → Bool) : List α → α → List α
  | [], x => [x]
  | a :: r, x => if ah a x then a :: putR ah r x else if ah x a then x :: a :: r else x :: r
theorem putL_eq (ah : α → α → Bool) (x : α) : ∀ l : List α, putL ah l x = putR ah l x := by
  intro l
  induction l with
  | nil => rfl
  | cons a r ih =>
    unfold putR
    by_cases h : ah a x = true
    · rw [if_pos h, ← ih]
      unfold putL
      rw [List.findIdx?_cons, h]
      simp only [Bool.not_true, Bool.false_eq_true, if_false]
      cases hf : r.findIdx? (fun y => !ah y x) with
      | none => simp
      | some k =>
        have hk : k < r.length := by rw [List.findIdx?_eq_some_iff_getElem] at hf; exact hf.1
        simp only [Option.map_some, List.getElem?_cons_succ, List.getElem?_eq_getElem hk]
        split <;> simp
    · have h' : ah a x = false := by simpa using h
      rw [if_neg h]
      unfold putL
      rw [List.findIdx?_cons, h']
      simp only [Bool.not_false, if_true, List.getElem?_cons_zero]
      split <;> simp
/-- an order of keys -/
structure Ord (ah : α → α → Bool) : Prop where
  tr : ∀ a b c, ah a b = true → ah b c = true → ah a c = true
  asy : ∀ a b, ah a b = true → ah b a = false
  cong : ∀ a x b, ah a x = false → ah x a = false → ah a b = ah x b
  cong2 : ∀ a x b, ah a x = false → ah x a = false → ah b a = ah b x
def eqv (ah : α → α → Bool) (x y : α) : Bool := !ah x y && !ah y x
theorem rising_pairwise {ah : α → α → Bool} (o : Ord ah) : ∀ l : List α, risingL ah l = true ↔ l.Pairwise (fun a b => ah a b = true)
  | [] => by simp [risingL]
  | [a] => by simp [risingL]
  | a :: b :: r => by
    have ih := rising_pairwise o (b :: r)
    simp only [risingL, Bool.and_eq_true, ih]
    constructor
    · rintro ⟨h1, h2⟩
      refine List.Pairwise.cons ?_ h2
      intro c hc
      rcases List.mem_cons.1 hc with rfl | hc
      · exact h1
      · exact o.tr _ _ _ h1 (List.rel_of_pairwise_cons h2 hc)
    · intro h
      exact ⟨List.rel_of_pairwise_cons h (by simp), h.of_cons⟩
theorem set_putR {ah : α → α → Bool} (o : Ord ah) (x : α) : ∀ (l : List α) (k : Nat) (hk : k < l.length), l.Pairwise (fun a b => ah a b = true) → ah l[k] x = false → ah x l[k] = false → l.set k x = putR ah l x := by
  intro l
  induction l with
  | nil => intro k hk; simp at hk
  | cons a r ih =>
    intro k hk hp h1 h2
    cases k with
    | zero =>
      simp only [List.getElem_cons_zero] at h1 h2
      simp [putR, h1, h2]
    | succ k =>
      simp only [List.getElem_cons_succ] at h1 h2
      have hk' : k < r.length := by simpa using hk
      have hax : ah a x = true := by
        rw [← o.cong2 r[k] x a h1 h2]
        exact List.rel_of_pairwise_cons hp (List.getElem_mem hk')
      rw [List.set_cons_succ, ih k hk' hp.of_cons h1 h2]
      simp [putR, hax]
theorem mem_putR {ah : α → α → Bool} (x : α) : ∀ (l : List α) (y : α), y ∈ putR ah l x → y = x ∨ y ∈ l
  | [], y, h => by simp [putR] at h; exact .inl h
  | a :: r, y, h => by
    unfold putR at h
    split at h
    · rcases List.mem_cons.1 h with h | h
      · exact .inr (by simp [h])
      · rcases mem_putR x r y h with h | h
        · exact .inl h
        · exact .inr (by simp [h])
    · split at h
      · rcases List.mem_cons.1 h with h | h
        · exact .inl h
        · exact .inr h
      · rcases List.mem_cons.1 h with h | h
        · exact .inl h
        · exact .inr (by simp [h])
theorem pairwise_putR {ah : α → α → Bool} (o : Ord ah) (x : α) : ∀ (l : List α), l.Pairwise (fun a b => ah a b = true) → (putR ah l x).Pairwise (fun a b => ah a b = true)
  | [], _ => by simp [putR]
  | a :: r, hp => by
    have ha : ∀ b ∈ r, ah a b = true := fun b hb => List.rel_of_pairwise_cons hp hb
    unfold putR
    by_cases h : ah a x = true
    · rw [if_pos h]
      refine List.Pairwise.cons (fun b hb => ?_) (pairwise_putR o x r hp.of_cons)
      rcases mem_putR x r b hb with rfl | hb
      · exact h
      · exact ha b hb
    · rw [if_neg h]
      have h' : ah a x = false := by simpa using h
      by_cases h2 : ah x a = true
      · rw [if_pos h2]
        refine List.Pairwise.cons (fun b hb => ?_) hp
        rcases List.mem_cons.1 hb with rfl | hb
        · exact h2
        · exact o.tr _ _ _ h2 (ha b hb)
      · rw [if_neg h2]
        have h2' : ah x a = false := by simpa using h2
        exact List.Pairwise.cons (fun b hb => by rw [← o.cong a x b h' h2']; exact ha b hb) hp.of_cons
theorem length_putR {ah : α → α → Bool} (x : α) : ∀ (l : List α), (putR ah l x).length ≤ l.length + 1
  | [] => by simp [putR]
  | a :: r => by
    have := length_putR (ah := ah) x r
    unfold putR
    split
    · simp; omega
    · split <;> simp
def refPut (ah : α → α → Bool) (l : List α) (x : α) : List α :=
  (l.filter fun y => !eqv ah x y).take ((l.filter fun y => !eqv ah x y).findIdx fun y => !ah y x) ++ x :: (l.filter fun y => !eqv ah x y).drop ((l.filter fun y => !eqv ah x y).findIdx fun y => !ah y x)
theorem refPut_eq {ah : α → α → Bool} (o : Ord ah) (x : α) : ∀ l : List α, l.Pairwise (fun a b => ah a b = true) → refPut ah l x = putR ah l x := by
  intro l
  induction l with
  | nil => intro _; simp [refPut, putR]
  | cons a r ih =>
    intro hp
    have hr := hp.of_cons
    have ha : ∀ b ∈ r, ah a b = true := fun b hb => List.rel_of_pairwise_cons hp hb
    unfold putR
    by_cases h : ah a x = true
    · rw [if_pos h, ← ih hr]
      have h2 := o.asy _ _ h
      unfold refPut
      rw [List.filter_cons]
      have he : eqv ah x a = false := by simp [eqv, h]
      simp only [he, Bool.not_false, if_true, List.findIdx_cons, h, Bool.not_true, cond_false, List.take_succ_cons, List.drop_succ_cons, List.cons_append]
    · have h' : ah a x = false := by simpa using h
      rw [if_neg h]
      have hall : ∀ b ∈ r, ah x b = true → eqv ah x b = false ∧ ah b x = false := fun b hb hxb => ⟨by simp [eqv, hxb], o.asy _ _ hxb⟩
      by_cases h2 : ah x a = true
      · rw [if_pos h2]
        have hf : (a :: r).filter (fun y => !eqv ah x y) = a :: r := by
          rw [List.filter_eq_self]
          intro b hb
          rcases List.mem_cons.1 hb with rfl | hb
          · simp [eqv, h2]
          · simp [eqv, o.tr _ _ _ h2 (ha b hb)]
        unfold refPut
        rw [hf, List.findIdx_cons, h']
        simp
      · have h2' : ah x a = false := by simpa using h2
        rw [if_neg h2]
        have hx : ∀ b ∈ r, ah x b = true := fun b hb => by rw [← o.cong a x b h' h2']; exact ha b hb
        have hf : (a :: r).filter (fun y => !eqv ah x y) = r := by
          rw [List.filter_cons]
          have he : eqv ah x a = true := by simp [eqv, h', h2']
          simp only [he, Bool.not_true, Bool.false_eq_true, if_false]
          rw [List.filter_eq_self]
          intro b hb
          simp [eqv, hx b hb]
        unfold refPut
        rw [hf]
        cases r with
        | nil => simp
        | cons b s =>
          rw [List.findIdx_cons, o.asy _ _ (hx b (by simp))]
          simp
end
/-- a slice of structs that came in -/
theorem rd_rows {α : Type} {w : World} {f : α → List Value} {s : Shape} {A : Option Addr} {n c : Nat} (hf : ∀ r, Rd w s r → ∃ g, r = f g) (h : Rd w (.sl s) [.slice A n c]) :
    ∃ l : List α, l.length = n ∧ n ≤ c ∧ c ≤ maxLen ∧ Sl w A (rc f l) := by
  obtain ⟨A', n', c', rows, e, h1, h2, h3, h4, h5⟩ := h
  simp only [List.cons.injEq, Value.slice.injEq, and_true] at e
  obtain ⟨rfl, rfl, rfl⟩ := e
  have key : ∀ rows : List (List Value), (∀ r ∈ rows, Rd w s r) → ∃ l : List α, l.length = rows.length ∧ rows.flatten = rc f l := by
    intro rows
    induction rows with
    | nil => intro _; exact ⟨[], rfl, rfl⟩
    | cons r rows ih =>
      intro h
      obtain ⟨l, a1, a2⟩ := ih (fun x hx => h x (by simp [hx]))
      obtain ⟨x, rfl⟩ := hf r (h r (by simp))
      exact ⟨x :: l, by simp [a1], by simp [a2, rc]⟩
  obtain ⟨l, a1, a2⟩ := key rows h5
  rw [a2] at h4
  exact ⟨l, by omega, h1, h2, h4⟩
/-- a unit that came in -/
theorem rd_two {w : World} {a : Array Value} (h : Rd w (.cat (.int .i64) (.cat (.int .i64) .nil)) a.toList) : ∃ x y : Int, a = #[.int .i64 x, .int .i64 y] := by
  obtain ⟨p, q, e, ⟨x, rfl, _⟩, ⟨p2, q2, e2, ⟨y, rfl, _⟩, e3⟩⟩ := h
  subst e3
  subst e2
  refine ⟨x, y, ?_⟩
  cases a
  simpa using e
end Go.Proofs.Ytpmnjojednbnpaa
