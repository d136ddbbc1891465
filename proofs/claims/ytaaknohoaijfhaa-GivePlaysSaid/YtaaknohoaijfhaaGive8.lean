/-
  The walks of layer 23, eighth part: rows of steps that came in.
-/
import Derived.Test.YtaaknohoaijfhaaGive7
namespace Go.Proofs.Ytaaknohoaijfhaa
open Go.ChangeShapes Go.WideShapes Go.ChangeAt Go.RowKit
set_option linter.unusedVariables false
set_option linter.unusedSimpArgs false

/-- how many integers of 64 bits a shape is, where it is nothing else -/
def Shape.flat : Shape → Option Nat
  | .int .i64 => some 1
  | .cat a b => match a.flat, b.flat with | some x, some y => some (x + y) | _, _ => none
  | .nil => some 0
  | _ => none
theorem rd_flat {w : World} : ∀ (s : Shape) (n : Nat) (cs : List Value), s.flat = some n → Rd w s cs → ∃ l : List Int, l.length = n ∧ cs = ints .i64 l := by
  intro s
  induction s with
  | int k =>
    intro n cs h hr
    cases k <;> simp [Shape.flat] at h
    subst h
    obtain ⟨x, rfl, _⟩ := hr
    exact ⟨[x], rfl, rfl⟩
  | bool => intro n cs h; simp [Shape.flat] at h
  | str => intro n cs h; simp [Shape.flat] at h
  | sl s ih => intro n cs h; simp [Shape.flat] at h
  | nil => intro n cs h hr; simp [Shape.flat] at h; subst h; exact ⟨[], rfl, hr⟩
  | cat a b iha ihb =>
    intro n cs h hr
    obtain ⟨x, y, rfl, hx, hy⟩ := hr
    cases ha : a.flat with
    | none => simp [Shape.flat, ha] at h
    | some p =>
      cases hb : b.flat with
      | none => simp [Shape.flat, ha, hb] at h
      | some q =>
        simp [Shape.flat, ha, hb] at h
        obtain ⟨l1, h1, rfl⟩ := iha p x ha hx
        obtain ⟨l2, h2, rfl⟩ := ihb q y hb hy
        exact ⟨l1 ++ l2, by simp [h1, h2, h], by simp [ints]⟩

structure Dv where
  (kind day id st : Int)
  (g : Gv)
def Dv.cells (d : Dv) : List Value := [.int .i64 d.kind, .int .i64 d.day, .int .i64 d.id, .int .i64 d.st] ++ d.g.cells
def dcells (l : List Dv) : List Value := (l.map Dv.cells).flatten
theorem dcells_length (l : List Dv) : (dcells l).length = l.length * 15 := by
  induction l with
  | nil => rfl
  | cons a l ih => simp [dcells, Dv.cells, Gv.cells] at *; omega
theorem dcells_at (l : List Dv) (k : Nat) (h : k < l.length) (j : Nat) (hj : j < 15) : (dcells l)[k * 15 + j]? = l[k].cells[j]? := by
  induction l generalizing k with
  | nil => simp at h
  | cons a l ih =>
    have hc : a.cells.length = 15 := rfl
    simp only [dcells, List.map_cons, List.flatten_cons] at ih ⊢
    cases k with
    | zero => rw [List.getElem?_append_left (by omega)]; simp
    | succ k =>
      have := ih k (by simpa using h)
      rw [List.getElem?_append_right (by omega), show (k + 1) * 15 + j - a.cells.length = k * 15 + j from by omega, this]
      simp
theorem rd_do {w : World} {s : Shape} {A : Option Addr} {n c : Nat} (hf : s.flat = some 15) (h : Rd w (.sl s) [.slice A n c]) :
    ∃ l : List Dv, l.length = n ∧ n ≤ c ∧ c ≤ maxLen ∧ Sl w A (dcells l) := by
  obtain ⟨A', n', c', rows, e, h1, h2, h3, h4, h5⟩ := h
  simp only [List.cons.injEq, Value.slice.injEq, and_true] at e
  obtain ⟨rfl, rfl, rfl⟩ := e
  have key : ∀ rows : List (List Value), (∀ r ∈ rows, Rd w s r) → ∃ l : List Dv, l.length = rows.length ∧ rows.flatten = dcells l := by
    intro rows
    induction rows with
    | nil => intro _; exact ⟨[], rfl, rfl⟩
    | cons r rows ih =>
      intro h
      obtain ⟨l, a1, a2⟩ := ih (fun x hx => h x (by simp [hx]))
      obtain ⟨q, hq, rfl⟩ := rd_flat s 15 r hf (h r (by simp))
      match q, hq with
      | [x0, x1, x2, x3, y0, y1, y2, y3, y4, y5, y6, y7, y8, y9, y10], _ =>
        exact ⟨⟨x0, x1, x2, x3, ⟨y0, y1, y2, y3, y4, y5, y6, y7, y8, y9, y10⟩⟩ :: l, by simp [a1], by rw [List.flatten_cons, a2]; rfl⟩
  obtain ⟨l, a1, a2⟩ := key rows h5
  rw [a2] at h4
  exact ⟨l, by omega, h1, h2, h4⟩

/-- the fifteen cells of a step -/
def DAt (w : World) (b o : Nat) (d : Dv) : Prop :=
  w.cell? ⟨b, o, none⟩ = some (.int .i64 d.kind) ∧ w.cell? ⟨b, o + 1, none⟩ = some (.int .i64 d.day) ∧ w.cell? ⟨b, o + 2, none⟩ = some (.int .i64 d.id) ∧ w.cell? ⟨b, o + 3, none⟩ = some (.int .i64 d.st) ∧
  w.cell? ⟨b, o + 4, none⟩ = some (.int .i64 d.g.id) ∧ w.cell? ⟨b, o + 5, none⟩ = some (.int .i64 d.g.fa) ∧ w.cell? ⟨b, o + 6, none⟩ = some (.int .i64 d.g.fc) ∧ w.cell? ⟨b, o + 7, none⟩ = some (.int .i64 d.g.ta) ∧
  w.cell? ⟨b, o + 8, none⟩ = some (.int .i64 d.g.tc) ∧ w.cell? ⟨b, o + 9, none⟩ = some (.int .i64 d.g.inst) ∧ w.cell? ⟨b, o + 10, none⟩ = some (.int .i64 d.g.qty) ∧ w.cell? ⟨b, o + 11, none⟩ = some (.int .i64 d.g.price) ∧
  w.cell? ⟨b, o + 12, none⟩ = some (.int .i64 d.g.grp) ∧ w.cell? ⟨b, o + 13, none⟩ = some (.int .i64 d.g.day) ∧ w.cell? ⟨b, o + 14, none⟩ = some (.int .i64 d.g.st)
theorem DAt.of {w : World} {b o : Nat} {d : Dv} (h : ∀ j u, d.cells[j]? = some u → w.cell? ⟨b, o + j, none⟩ = some u) : DAt w b o d :=
  ⟨h 0 _ rfl, h 1 _ rfl, h 2 _ rfl, h 3 _ rfl, h 4 _ rfl, h 5 _ rfl, h 6 _ rfl, h 7 _ rfl, h 8 _ rfl, h 9 _ rfl, h 10 _ rfl, h 11 _ rfl, h 12 _ rfl, h 13 _ rfl, h 14 _ rfl⟩
theorem DAt.keep {w w' : World} {b o : Nat} {d : Dv} (h : DAt w b o d) (k : ∀ i, w'.cell? ⟨b, i, none⟩ = w.cell? ⟨b, i, none⟩) : DAt w' b o d := by
  unfold DAt at *
  simp only [k]
  exact h
theorem Sl.dos {w : World} {A : Option Addr} {l : List Dv} (h : Sl w A (dcells l)) {k : Nat} (hk : k < l.length) : ∃ b o, A = some ⟨b, o, none⟩ ∧ b < w.heap.size ∧ DAt w b (o + k * 15) l[k] := by
  have hne : dcells l ≠ [] := by intro e; have := dcells_length l; rw [e] at this; simp at this; omega
  obtain ⟨b, o, rfl, hc⟩ := h hne
  have hg : DAt w b (o + k * 15) l[k] := by
    refine DAt.of fun j u hu => ?_
    have hj : j < 15 := by
      have := (List.getElem?_eq_some_iff.1 hu).1
      simpa [Dv.cells, Gv.cells] using this
    rw [Nat.add_assoc]
    exact hc _ _ ((dcells_at l k hk j hj).trans hu)
  exact ⟨b, o, rfl, World.block_lt_of_cell? _ _ hg.1, hg⟩

theorem GL.alloc {w : World} {A : Option Addr} {cap : Nat} {l : List Gv} (h : GL w A cap l) (o : Obj) : GL (w.alloc o) A cap l := h.below ((Below.refl _ _).alloc (Nat.le_refl _) o)

/-- what a row that New or Turn made has of the row ahead of it -/
def Stays (l N : List Gv) : Prop := ∀ k, (h : k < N.length) → N[k].id = k + 1 ∧ ((h2 : k < l.length) → N[k] = l[k] ∨ (l[k].st = 1 ∧ ∃ s, s ≠ 1 ∧ N[k] = { l[k] with st := s }))
theorem Stays.new {l : List Gv} (hi : Ids l) (g : Gv) (day : Int) : Stays l (l ++ [newG l g day]) := by
  intro k h
  refine ⟨hi.new g day k h, fun h2 => .inl ?_⟩
  rw [List.getElem_append_left h2]
theorem turnL_get (l : List Gv) (id st : Int) (k : Nat) (h : k < (turnL l id st).length) (h2 : k < l.length) :
    (turnL l id st)[k] = if (gAt l id).toNat = k then { l.getD (gAt l id).toNat ⟨0, 0, 0, 0, 0, 0, 0, 0, 0, 0, 0⟩ with st := st } else l[k] := List.getElem_set _
theorem Stays.turn {l : List Gv} (hi : Ids l) {id st : Int} (hE : turnE l id st = 0) : Stays l (turnL l id st) := by
  intro k h
  refine ⟨hi.turn id st k h, fun h2 => ?_⟩
  unfold turnE at hE
  split at hE
  · omega
  · split at hE
    · omega
    · split at hE
      · omega
      · rename_i hst
        rw [turnL_get l id st k h h2]
        split
        · rename_i e
          right
          have hg : l.getD (gAt l id).toNat ⟨0, 0, 0, 0, 0, 0, 0, 0, 0, 0, 0⟩ = l[k] := by rw [e]; simp [List.getD, h2]
          rw [hg] at hst ⊢
          exact ⟨by omega, st, by omega, rfl⟩
        · left; rfl
end Go.Proofs.Ytaaknohoaijfhaa
