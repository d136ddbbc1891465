import Derived.Deep.Slices
import Derived.Test.YtiggcpfmmgmncaaVp00
import Derived.Laws.NewBlocks
import Derived.Lib.AppendZerosOnto
import Derived.Lib.Overlaps
set_option maxHeartbeats 16000000
set_option maxRecDepth 100000
set_option linter.unusedVariables false
set_option linter.unusedSimpArgs false
namespace Go.Proofs.Ytiggcpfmmgmncaa
open Go.ChangeShapes Go.WideShapes Go.ChangeAt Go.RowKit
section
inductive Shape where
  | int (k : IntKind)
  | bool
  | str
  | sl (s : Shape)
  | cat (a b : Shape)
  | nil
def Shape.size : Shape → Nat
  | .int _ => 1
  | .bool => 1
  | .str => 1
  | .sl _ => 1
  | .cat a b => a.size + b.size
  | .nil => 0
def fieldsShape (P : Program) (f : TypeId → Option Shape) : List Field → Nat → Option Shape
  | [], _ => some .nil
  | x :: r, off =>
    match f x.type with
    | some s =>
      if x.offset = off ∧ P.cellsOf x.type = s.size then
        match fieldsShape P f r (off + s.size) with
        | some q => some (.cat s q)
        | none => none
      else none
    | none => none
def shapeOf (P : Program) : Nat → TypeId → Option Shape
  | 0, _ => none
  | n + 1, t =>
    match P.underlying t with
    | some (.int k) => some (.int k)
    | some .bool => some .bool
    | some .string => some .str
    | some (.slice e) =>
      match shapeOf P n e with
      | some s => if P.cellsOf e = s.size then some (.sl s) else none
      | none => none
    | some (.struct fs) =>
      match fieldsShape P (shapeOf P n) fs.toList 0 with
      | some s => if P.cellsOf t = s.size then some s else none
      | none => none
    | _ => none
def Rd (w : World) : Shape → List Value → Prop
  | .int k, cs => ∃ n, cs = [.int k n] ∧ (Lit.int k n).wf = true
  | .bool, cs => ∃ b, cs = [.bool b]
  | .str, cs => ∃ s, cs = [.string s] ∧ s.size ≤ maxLen
  | .sl s, cs => ∃ (A : Option Addr) (n c : Nat) (rows : List (List Value)), cs = [.slice A n c] ∧ n ≤ c ∧ c ≤ maxLen ∧ rows.length = n ∧ Sl w A rows.flatten ∧ ∀ r ∈ rows, Rd w s r
  | .cat a b, cs => ∃ x y, cs = x ++ y ∧ Rd w a x ∧ Rd w b y
  | .nil, cs => cs = []
theorem flatten_at {α : Type} (k : Nat) : ∀ (rows : List (List α)), (∀ r ∈ rows, r.length = k) → ∀ j u, rows.flatten[j]? = some u → ∃ i r, i < rows.length ∧ r < k ∧ j = i * k + r ∧ ∃ row, rows[i]? = some row ∧ row[r]? = some u := by
  intro rows
  induction rows with
  | nil => intro _ j u h; simp at h
  | cons a l ih =>
    intro hk j u h
    have ha := hk a (by simp)
    rw [List.flatten_cons] at h
    by_cases hj : j < a.length
    · rw [List.getElem?_append_left hj] at h
      exact ⟨0, j, by simp, by omega, by omega, a, by simp, h⟩
    · rw [List.getElem?_append_right (by omega)] at h
      obtain ⟨i, r, hi, hr, he, row, h1, h2⟩ := ih (fun x hx => hk x (by simp [hx])) _ _ h
      refine ⟨i + 1, r, by simp; omega, hr, ?_, row, by simpa using h1, h2⟩
      rw [Nat.add_mul]
      omega
section
variable {H : Type} {enc : TypeId × Value → H} {P : Program} {w : World} {base : Nat} {spare : Nat → Bool} {held : Bool}

theorem fields_rd (f : TypeId → Option Shape) (hf : ∀ t s, f t = some s → ∀ fuel cs x, DataW.trod enc P w base spare held fuel t cs = some x → Rd w s cs ∧ cs.length = s.size)
    (m : Nat) (cs : List Value) : ∀ (l : List Field) (off : Nat) (s : Shape), fieldsShape P f l off = some s → off + s.size ≤ cs.length →
      (∀ x ∈ l, ∃ y, DataW.trod enc P w base spare held m x.type ((cs.drop x.offset).take (P.cellsOf x.type)) = some y) → Rd w s ((cs.drop off).take s.size) := by
  intro l
  induction l with
  | nil =>
    intro off s h _ _
    simp only [fieldsShape, Option.some.injEq] at h
    subst h
    simp [Rd, Shape.size]
  | cons x r ih =>
    intro off s h hlen hx
    simp only [fieldsShape] at h
    split at h
    · rename_i sx hsx
      split at h
      · rename_i hc
        split at h
        · rename_i q hq
          simp only [Option.some.injEq] at h
          subst h
          simp only [Shape.size] at hlen ⊢
          obtain ⟨y, hy⟩ := hx x (by simp)
          rw [hc.1, hc.2] at hy
          have h1 := (hf _ _ hsx _ _ _ hy).1
          have h2 := ih (off + sx.size) q hq (by omega) (fun z hz => hx z (by simp [hz]))
          refine ⟨_, _, ?_, h1, h2⟩
          rw [List.take_add, List.drop_drop]
        · cases h
      · cases h
    · cases h
theorem trod_shape : ∀ (n : Nat) (t : TypeId) (s : Shape), shapeOf P n t = some s → ∀ (fuel : Nat) (cs : List Value) (x : DataW H × List MemPlace), DataW.trod enc P w base spare held fuel t cs = some x → Rd w s cs ∧ cs.length = s.size := by
  intro n
  induction n with
  | zero => intro t s h; simp [shapeOf] at h
  | succ n ih =>
    intro t s h fuel cs x hx
    unfold shapeOf at h
    split at h
    · rename_i k hu
      simp only [Option.some.injEq] at h; subst h
      obtain ⟨v, rfl, _, hw⟩ := DataW.trod_int hu hx
      exact ⟨⟨v, rfl, hw⟩, rfl⟩
    · rename_i hu
      simp only [Option.some.injEq] at h; subst h
      obtain ⟨v, rfl, _⟩ := DataW.trod_bool hu hx
      exact ⟨⟨v, rfl⟩, rfl⟩
    · rename_i hu
      simp only [Option.some.injEq] at h; subst h
      obtain ⟨v, rfl, _, hs⟩ := DataW.trod_string hu hx
      exact ⟨⟨v, rfl, hs⟩, rfl⟩
    · rename_i e hu
      split at h
      · rename_i q hq
        split at h
        · rename_i hc
          simp only [Option.some.injEq] at h; subst h
          rcases Go.Deep.open_slice hu hx with ⟨rfl, _⟩ | ⟨a, len, cap, m, fu, D, Pl, rfl, _, hl, hm, hmm, _, hi⟩
          · exact ⟨⟨none, 0, 0, [], rfl, Nat.le_refl _, by decide, rfl, Sl.nil, fun r hr => by cases hr⟩, rfl⟩
          · have hlm : len ≤ m := by rw [hmm]; split <;> omega
            rw [hc] at hi
            obtain ⟨R, hR⟩ := Go.Deep.choose_lt (α := List Value) (p := fun i cs' => w.cells? base (a.add (i * q.size)) q.size = some cs' ∧ DataW.trod enc P w base spare held fu e cs' = some (D i, Pl i)) hi
            refine ⟨⟨some a, len, cap, (List.range len).map R, rfl, hl, hm, by simp, ?_, ?_⟩, rfl⟩
            · have hrow : ∀ r ∈ (List.range len).map R, r.length = q.size := by
                intro r hr
                simp at hr
                obtain ⟨i, hi', rfl⟩ := hr
                exact (ih e q hq _ _ _ (hR i (by omega)).2).2
              have hcell : ∀ j u, ((List.range len).map R).flatten[j]? = some u → w.cell? (a.add j) = some u := by
                intro j u hu'
                obtain ⟨i, r, hi', hr, rfl, row, h1, h2⟩ := flatten_at q.size _ hrow j u hu'
                simp at hi'
                simp [hi'] at h1
                subst h1
                obtain ⟨_, hcl, hat⟩ := World.cells?_some (hR i (by omega)).1
                have := hat r hr
                rw [Go.Deep.add_add, h2] at this
                exact this
              intro hne
              have h0 : ∃ u, ((List.range len).map R).flatten[0]? = some u := by
                cases hf : ((List.range len).map R).flatten with
                | nil => exact absurd hf hne
                | cons u _ => exact ⟨u, rfl⟩
              obtain ⟨u, hu0⟩ := h0
              obtain ⟨b, o, sp⟩ := a
              have hsp : sp = none := by
                have := World.cell?_spot (hcell 0 u hu0)
                simpa [Addr.add] using this
              subst hsp
              exact ⟨b, o, rfl, fun j u hu => by rw [← addr_add]; exact hcell j u hu⟩
            · intro r hr
              simp at hr
              obtain ⟨i, hi', rfl⟩ := hr
              exact (ih e q hq _ _ _ (hR i (by omega)).2).1
        · cases h
      · cases h
    · rename_i fs hu
      split at h
      · rename_i q hq
        split at h
        · rename_i hc
          simp only [Option.some.injEq] at h; subst h
          obtain ⟨xs, m, _, _, hlen, hxl, hat⟩ := DataW.trod_struct hu hx
          have hcl : cs.length = q.size := by rw [hlen, hc]
          refine ⟨?_, hcl⟩
          have := fields_rd (enc := enc) (base := base) (spare := spare) (held := held) (shapeOf P n) ih m cs fs.toList 0 q hq (by omega) (fun f hf => by
            obtain ⟨i, hi, rfl⟩ := List.getElem_of_mem hf
            have hi' : i < fs.size := by simpa using hi
            have h1 := hat i fs[i] (Array.getElem?_eq_getElem hi')
            rw [List.getElem?_eq_getElem (by omega)] at h1
            exact ⟨_, by simpa using h1⟩)
          rwa [List.drop_zero, List.take_of_length_le (by omega)] at this
        · cases h
      · cases h
    · cases h
theorem arg_shape {n : Nat} {t : TypeId} {s : Shape} {v : Value} {d : DataW H} {p : List MemPlace} (hs : shapeOf P n t = some s) (h : DataW.Trod enc P w base spare held t v d p) : Rd w s v.cells.toList := by
  obtain ⟨fuel, hf⟩ := h
  exact (trod_shape n t s hs fuel _ _ hf).1
end

section
variable {w w' : World}
theorem Rd.below : ∀ (s : Shape) {cs : List Value}, Rd w s cs → Below w.heap.size w w' → Rd w' s cs := by
  intro s
  induction s with
  | int k => intro cs h _; exact h
  | bool => intro cs h _; exact h
  | str => intro cs h _; exact h
  | nil => intro cs h _; exact h
  | cat a b iha ihb => intro cs ⟨x, y, e, h1, h2⟩ hb; exact ⟨x, y, e, iha h1 hb, ihb h2 hb⟩
  | sl s ih => intro cs ⟨A, n, c, rows, e, h1, h2, h3, h4, h5⟩ hb; exact ⟨A, n, c, rows, e, h1, h2, h3, h4.below hb, fun r hr => ih (h5 r hr) hb⟩
end
end
section
section
variable {P : Program}
theorem run_copyN (w : World) (dT sT ty elem : TypeId) (size g o dLen dCap : Nat) (a : Addr) (sLen sCap : Nat) (cur : Array Value) (t : TypeId) (cs : List Value)
    (hu : P.underlying dT = some (.slice elem)) (hs : (P.info? elem).map (·.size) = some size)
    (hg : w.heap[g]? = some (.cells cur t (0, 0))) (hn : cs.length = Nat.min sLen dLen * size)
    (hsrc : ∀ j v, cs[j]? = some v → w.cell? (a.add j) = some v) (hfit : o + cs.length ≤ cur.size) (h1 : ∀ v ∈ cs, v.oneCell' = true) :
    (Builtin.copy_ #[dT, sT] ty #[.slice (some ⟨g, o, none⟩) dLen dCap, .slice (some a) sLen sCap]).run P w =
      .ok (goInt (Nat.min sLen dLen)) (w.setRow g (cur.toList.take o ++ cs ++ cur.toList.drop (o + cs.length)).toArray) := by
  have hl := run_loadCells_list (P := P) w a cs hsrc
  have hst := run_storeCells_at P g o t cs 0 cur w hg (by simpa using hfit) h1
  rw [hn] at hl
  cases hq : P.info? elem with
  | none => simp [hq] at hs
  | some i =>
    have hi : i.size = size := by simpa [hq] using hs
    simp [Builtin.copy_, run_underlying hu, Builtin.lenOf, Builtin.firstCells, sizeOf, typeInfo, hq, hi, hl, hst]
end

section
variable {w : World} {base : Nat} {e : TypeId} {size n c : Nat} {xs : List Value}
theorem own_below {w w' : World} {B e size n : Nat} {v : Value} {xs : List Value} (h : w.ownsRow B e size v n xs) (hb : Below w.heap.size w w') : w'.ownsRow B e size v n xs := by
  obtain ⟨h1, h2⟩ := h
  refine ⟨h1, ?_⟩
  rcases h2 with h2 | ⟨g, cap, cur, hv, hg, hh, hr⟩
  · exact .inl h2
  · refine .inr ⟨g, cap, cur, hv, hg, ?_, hr⟩
    have hlt : g < w.heap.size := by
      rcases Nat.lt_or_ge g w.heap.size with hlt | hge
      · exact hlt
      · rw [Array.getElem?_eq_none hge] at hh; cases hh
    rw [hb.block g hlt]
    exact hh
end

def Ent (P : Program) (F : FuncId) : Prop := ∀ args w, (callFunc F args).run P w = .ok (.enter F args) w
theorem Ent.of {P : Program} {F : FuncId} (h : ((P.funcs[F]?).map fun f => (f.name == "runtime.NumGoroutine", f.body.isSome)) = some (false, true)) : Ent P F := by
  intro args w
  cases hf : P.funcs[F]? with
  | none => rw [hf] at h; simp at h
  | some fn =>
    rw [hf] at h
    simp only [Option.map_some, Option.some.injEq, Prod.mk.injEq] at h
    have h1 : fn.name ≠ "runtime.NumGoroutine" := by simpa using h.1
    cases hb : fn.body with
    | none => rw [hb] at h; simp at h
    | some c => simp [callFunc, hf, h1, hb]
theorem step_app {P : Program} {w : World} {ops : Array Oper} {o : Oper} {a : Act} {K : Act → World → Prop} {Q : Exit → Act → World → Prop} {Z : Prop} (hgd : o.guard = none) (s x : Operand) {t e : TypeId} {size bytes : Nat}
    (ho : o.op = .call { callee := .builtin .append, args := #[s, x], argTypes := #[t, t] }) (E : Elem P t e size bytes) {base n m c d : Nat} {A B : Option Addr} {xs news : List Value}
    (hs : a.eval s = .slice A n c) (hx : a.eval x = .slice B m d)
    (hown : w.ownsRow base e size (.slice A n c) n xs) (hl : news.length = m * size) (hr : Sl w B news) (h1 : ∀ u ∈ news, u.oneCell' = true)
    (h63 : n + m ≤ maxLen) (hb : (n + m) * bytes ≤ 140737488355328) (hbase : base ≤ w.heap.size)
    (h : ∀ A' c' w', w'.ownsRow base e size (.slice A' (n + m) c') (n + m) (xs ++ news) → w.grownBy w' (Value.slice A n c).ownBlock → Below base w w' → K (a.put o.dst (.slice A' (n + m) c')) w') :
    if Region.wanted o (yielded ops a.tmps) = true then Oper.wp P o a w K Q else Z := by
  have hw : Region.wanted o (yielded ops a.tmps) = true := by simp [Region.wanted, hgd]
  rw [if_pos hw]
  exact wp_app s x ho E hs hx hown hl hr h1 h63 hb hbase h
theorem own_base {w : World} {base base' e size n : Nat} {v : Value} {xs : List Value} (h : w.ownsRow base e size v n xs) (hb : base' ≤ base) : w.ownsRow base' e size v n xs := by
  obtain ⟨h1, h2⟩ := h
  refine ⟨h1, ?_⟩
  rcases h2 with h2 | ⟨g, cap, cur, hv, hg, hr⟩
  · exact .inl h2
  · exact .inr ⟨g, cap, cur, hv, Nat.le_trans hb hg, hr⟩
def rc {α : Type} (f : α → List Value) (l : List α) : List Value := (l.map f).flatten
section
variable {α : Type} {f : α → List Value} {m : Nat}
theorem rc_cons (a : α) (l : List α) : rc f (a :: l) = f a ++ rc f l := by simp [rc]
theorem rc_append (a b : List α) : rc f (a ++ b) = rc f a ++ rc f b := by simp [rc]
theorem rc_length (hf : ∀ a, (f a).length = m) (l : List α) : (rc f l).length = l.length * m := by
  induction l with
  | nil => simp [rc]
  | cons a l ih => rw [rc_cons, List.length_append, ih, hf, List.length_cons, Nat.add_mul]; omega
theorem rc_one (h1 : ∀ a, ∀ u ∈ f a, u.oneCell' = true) (l : List α) : ∀ u ∈ rc f l, u.oneCell' = true := by
  intro u hu
  simp only [rc, List.mem_flatten, List.mem_map] at hu
  obtain ⟨_, ⟨g, _, rfl⟩, hu⟩ := hu
  exact h1 g u hu
theorem rc_at (hf : ∀ a, (f a).length = m) : ∀ (l : List α) (k : Nat) (h : k < l.length) (j : Nat), j < m → (rc f l)[k * m + j]? = (f l[k])[j]? := by
  intro l
  induction l with
  | nil => intro k h; simp at h
  | cons a l ih =>
    intro k h j hj
    rw [rc_cons]
    cases k with
    | zero => rw [List.getElem?_append_left (by rw [hf]; omega)]; simp
    | succ k =>
      rw [List.getElem?_append_right (by rw [hf, Nat.add_mul]; omega), hf, show (k + 1) * m + j - m = k * m + j from by rw [Nat.add_mul]; omega]
      rw [ih k (by simpa using h) j hj]
      simp
theorem rc_take (hf : ∀ a, (f a).length = m) (l : List α) (k : Nat) : (rc f l).take (k * m) = rc f (l.take k) := by
  induction l generalizing k with
  | nil => simp [rc]
  | cons a l ih =>
    cases k with
    | zero => simp [rc]
    | succ k =>
      rw [rc_cons, List.take_succ_cons, rc_cons, List.take_append, hf, show (k + 1) * m - m = k * m from by rw [Nat.add_mul]; omega, ih, List.take_of_length_le (by rw [hf, Nat.add_mul]; omega)]
theorem Sl.elem {w : World} {A : Option Addr} {l : List α} (hf : ∀ a, (f a).length = m) (hm : 0 < m) (h : Sl w A (rc f l)) {k : Nat} (hk : k < l.length) :
    ∃ b o, A = some ⟨b, o, none⟩ ∧ b < w.heap.size ∧ ∀ j u, (f l[k])[j]? = some u → w.cell? ⟨b, o + k * m + j, none⟩ = some u := by
  have hlen := rc_length hf l
  have hpos : k * m + 0 < (rc f l).length := by
    rw [hlen]
    have : (k + 1) * m ≤ l.length * m := Nat.mul_le_mul_right _ hk
    rw [Nat.add_mul] at this
    omega
  obtain ⟨b, o, hA, hc⟩ := h (by intro e; rw [e] at hpos; simp at hpos)
  have hg : ∀ j u, (f l[k])[j]? = some u → w.cell? ⟨b, o + k * m + j, none⟩ = some u := by
    intro j u hu
    have hj : j < m := by
      have := (List.getElem?_eq_some_iff.1 hu).1
      rwa [hf] at this
    rw [Nat.add_assoc]
    exact hc _ _ ((rc_at hf l k hk j hj).trans hu)
  have hmem := hc (k * m + 0) _ (List.getElem?_eq_getElem hpos)
  exact ⟨b, o, hA, World.block_lt_of_cell? _ _ hmem, hg⟩
end

theorem zeroCells_size (cs : Array Value) (k : Nat) (h : cs.size ≠ 0) : (Builtin.zeroCells cs k).size = k * cs.size := by
  simp [Builtin.zeroCells, h]
section
variable {α : Type}
def atL (p : α → Bool) (l : List α) : Int := match l.findIdx? p with | some k => (k : Int) | none => -1
theorem atL_cases (p : α → Bool) (l : List α) : (atL p l = -1 ∧ ∀ j, (hj : j < l.length) → p l[j] = false) ∨
    ∃ k : Nat, ∃ hk : k < l.length, atL p l = k ∧ p l[k] = true ∧ ∀ j, (hj : j < k) → p l[j] = false := by
  rcases h : l.findIdx? p with _ | k
  · left
    have e : atL p l = -1 := by unfold atL; rw [h]
    rw [List.findIdx?_eq_none_iff] at h
    exact ⟨e, fun j hj => h _ (List.getElem_mem hj)⟩
  · right
    have e : atL p l = k := by unfold atL; rw [h]
    rw [List.findIdx?_eq_some_iff_getElem] at h
    obtain ⟨hk, h1, h2⟩ := h
    exact ⟨k, hk, e, h1, fun j hj => by simpa using h2 j hj⟩
theorem atL_none {p : α → Bool} {l : List α} (h : ∀ j, (hj : j < l.length) → p l[j] = false) : atL p l = -1 := by
  rcases atL_cases p l with ⟨h1, _⟩ | ⟨k, hk, _, h2, _⟩
  · exact h1
  · rw [h k hk] at h2; cases h2
theorem atL_some {p : α → Bool} {l : List α} {k : Nat} (hk : k < l.length) (h : ∀ j, (hj : j < k) → p l[j] = false) (he : p l[k] = true) : atL p l = k := by
  rcases atL_cases p l with ⟨_, h1⟩ | ⟨k', hk', h1, h2, h3⟩
  · rw [h1 k hk] at he; cases he
  · rcases Nat.lt_trichotomy k k' with h4 | h4 | h4
    · rw [h3 k h4] at he; cases he
    · rw [h1, h4]
    · rw [h k' h4] at h2; cases h2
end
end
section
def bign : Nat → Nat → List Nat
  | 0, _ => []
  | s + 1, n => bign s (n / 256) ++ [n % 256]
def bnum (l : List Nat) : Nat := l.foldl (fun a c => 256 * a + c) 0
theorem bign_len : ∀ s n, (bign s n).length = s
  | 0, _ => rfl
  | s + 1, n => by rw [bign, List.length_append, bign_len s]; rfl
theorem bign_oct : ∀ s n, Oct (bign s n)
  | 0, _ => fun x hx => by cases hx
  | s + 1, n => (bign_oct s (n / 256)).app fun x hx => by simp at hx; omega
theorem bnum_snoc (l : List Nat) (c : Nat) : bnum (l ++ [c]) = 256 * bnum l + c := by simp [bnum]
theorem bnum_bign : ∀ s n, n < 256 ^ s → bnum (bign s n) = n
  | 0, n, h => by
    have : n = 0 := by simpa using h
    subst this
    rfl
  | s + 1, n, h => by
    rw [bign, bnum_snoc, bnum_bign s (n / 256) (by rw [Nat.pow_succ] at h; exact Nat.div_lt_of_lt_mul (by rw [Nat.mul_comm]; exact h))]
    omega
theorem bnum_lt {l : List Nat} (h : Oct l) : bnum l < 256 ^ l.length := by
  have key : ∀ m : List Nat, Oct m.reverse → bnum m.reverse < 256 ^ m.reverse.length := by
    intro m
    induction m with
    | nil => intro _; decide
    | cons c m ih =>
      intro h
      rw [List.reverse_cons] at h ⊢
      have h1 := ih fun x hx => h x (List.mem_append_left _ hx)
      have h2 := h c (by simp)
      rw [bnum_snoc, List.length_append, List.length_singleton, Nat.pow_succ]
      omega
  have := key l.reverse (by rw [List.reverse_reverse]; exact h)
  rwa [List.reverse_reverse] at this
theorem bign_bnum {l : List Nat} (h : Oct l) : bign l.length (bnum l) = l := by
  have key : ∀ m : List Nat, Oct m.reverse → bign m.reverse.length (bnum m.reverse) = m.reverse := by
    intro m
    induction m with
    | nil => intro _; rfl
    | cons c m ih =>
      intro h
      rw [List.reverse_cons] at h ⊢
      have h1 := ih fun x hx => h x (List.mem_append_left _ hx)
      have h2 := h c (by simp)
      rw [bnum_snoc, List.length_append, List.length_singleton, bign]
      have e1 : (256 * bnum m.reverse + c) / 256 = bnum m.reverse := by omega
      have e2 : (256 * bnum m.reverse + c) % 256 = c := by omega
      rw [e1, e2, h1]
  have := key l.reverse (by rw [List.reverse_reverse]; exact h)
  rwa [List.reverse_reverse] at this
theorem bign_at : ∀ (s n j : Nat) (h : j < (bign s n).length), (bign s n)[j] = n / 256 ^ (s - 1 - j) % 256
  | 0, _, _, h => absurd h (by simp [bign])
  | s + 1, n, j, h => by
    simp only [bign]
    by_cases hj : j < (bign s (n / 256)).length
    · rw [List.getElem_append_left hj, bign_at s (n / 256) j hj]
      rw [bign_len] at hj
      rw [Nat.div_div_eq_div_mul, show s + 1 - 1 - j = (s - 1 - j) + 1 by omega, Nat.pow_succ, Nat.mul_comm 256]
    · have hj2 : j = s := by
        rw [bign_len] at hj h
        omega
      subst hj2
      rw [List.getElem_append_right (by rw [bign_len]; exact Nat.le_refl _)]
      simp
structure Fr where
  life : Int
  era : Int
  seq : Int
  part : Int
  parts : Int
  data : List Nat
def Fr.ok (f : Fr) : Bool := decide (1 ≤ f.life) && decide (f.life ≤ 16777215) && decide (0 ≤ f.era) && decide (f.era ≤ 16777215) && decide (1 ≤ f.seq) && decide (f.seq ≤ 4294967295) && decide (1 ≤ f.parts) && decide (f.parts ≤ 255) && decide (0 ≤ f.part) && decide (f.part < f.parts) && decide (f.data.length ≤ 80)
theorem Fr.ok_iff (f : Fr) : f.ok = true ↔ 1 ≤ f.life ∧ f.life ≤ 16777215 ∧ 0 ≤ f.era ∧ f.era ≤ 16777215 ∧ 1 ≤ f.seq ∧ f.seq ≤ 4294967295 ∧ 1 ≤ f.parts ∧ f.parts ≤ 255 ∧ 0 ≤ f.part ∧ f.part < f.parts ∧ f.data.length ≤ 80 := by
  simp [Fr.ok, and_assoc]
def Fr.body (f : Fr) : List Nat := bign 3 f.life.toNat ++ bign 3 f.era.toNat ++ bign 4 f.seq.toNat ++ [f.part.toNat, f.parts.toNat, f.data.length] ++ f.data ++ List.replicate (80 - f.data.length) 0
theorem Fr.body_len {f : Fr} (h : f.data.length ≤ 80) : f.body.length = 93 := by
  simp [Fr.body, bign_len]; omega
end
section
section
variable {P : Program} {w : World}
theorem run_app2 {t ty e : TypeId} {size bytes : Nat} (E : Elem P t e size bytes) {base n m c d : Nat} {A B : Option Addr} {xs news : List Value}
    (hown : w.ownsRow base e size (.slice A n c) n xs) (hl : news.length = m * size) (hm : 0 < m) (hr : Sl w B news) (h1 : ∀ u ∈ news, u.oneCell' = true)
    (h63 : n + m ≤ maxLen) (hb : (n + m) * bytes ≤ 140737488355328) (hbase : base ≤ w.heap.size) :
    ∃ A' c' w', (Builtin.append_ #[t, t] ty #[.slice A n c, .slice B m d]).run P w = .ok (.slice A' (n + m) c') w' ∧ w'.ownsRow base e size (.slice A' (n + m) c') (n + m) (xs ++ news) ∧
      w.grownBy w' (Value.slice A n c).ownBlock ∧ ((Value.slice A' (n + m) c').ownBlock = (Value.slice A n c).ownBlock ∨ (Value.slice A' (n + m) c').ownBlock = some w.heap.size) ∧ Below base w w' := by
  obtain ⟨i, z, hi, hz, hsize, hby, hzs⟩ := E.info
  have hne : news ≠ [] := by
    intro h0
    rw [h0, List.length_nil] at hl
    rcases Nat.mul_eq_zero.1 hl.symm with h | h
    · omega
    · have := E.pos; omega
  obtain ⟨b, o, rfl, hc⟩ := hr hne
  obtain ⟨v', w', hrun, h2, h3, _, h5⟩ := run_append_own_at (P := P) w base t ty e i z size bytes E.und hi hz hsize hby hzs E.pos _ n xs hown ⟨b, o, none⟩ m d news hl
    (fun j u hu => by rw [addr_add]; exact hc j u hu) h1 h63 hb hbase
  obtain ⟨A', c', rfl⟩ := own_form h2
  exact ⟨A', c', w', hrun, h2, h3, h5, below_of_grown h3 hbase (own_ge hown)⟩
theorem wpList_app2 {ops : Array Oper} {rest : List Oper} {o : Oper} {a : Act} {Q : Exit → Act → World → Prop} (hgd : o.guard = none) (s x : Operand) {t e : TypeId} {size bytes : Nat}
    (ho : o.op = .call { callee := .builtin .append, args := #[s, x], argTypes := #[t, t] }) (E : Elem P t e size bytes) {base n m c d : Nat} {A B : Option Addr} {xs news : List Value}
    (hs : a.eval s = .slice A n c) (hx : a.eval x = .slice B m d)
    (hown : w.ownsRow base e size (.slice A n c) n xs) (hl : news.length = m * size) (hm : 0 < m) (hr : Sl w B news) (h1 : ∀ u ∈ news, u.oneCell' = true)
    (h63 : n + m ≤ maxLen) (hb : (n + m) * bytes ≤ 140737488355328) (hbase : base ≤ w.heap.size)
    (h : ∀ A' c' w', w'.ownsRow base e size (.slice A' (n + m) c') (n + m) (xs ++ news) → w.grownBy w' (Value.slice A n c).ownBlock → ((Value.slice A' (n + m) c').ownBlock = (Value.slice A n c).ownBlock ∨ (Value.slice A' (n + m) c').ownBlock = some w.heap.size) → Below base w w' → wpList P ops Q rest (a.put o.dst (.slice A' (n + m) c')) w') :
    wpList P ops Q (o :: rest) a w :=
  wpList_plain hgd fun _ hK => by
    obtain ⟨A', c', w', hrun, h2, h3, h5, h4⟩ := run_app2 (P := P) (w := w) (ty := o.type) E (d := d) hown hl hm hr h1 h63 hb hbase
    unfold Oper.wp execOp
    simp only [ho, resolve, invoke, builtin, Sem.run_bind, Sem.run_pure, Result.andThen_ok, List.map_toArray, List.map_cons, List.map_nil, hs, hx, hrun]
    exact hK _ _ (h A' c' w' h2 h3 h5 h4)
end
def Apart (v u : Value) : Prop := ∀ g, v.ownBlock = some g → u.ownBlock ≠ some g
theorem Apart.symm {v u : Value} (h : Apart v u) : Apart u v := fun g h1 h2 => h g h2 h1
theorem Apart.none (u : Value) : Apart (.slice none 0 0) u := fun g h => by simp [Value.ownBlock] at h
section
variable {P : Program} {w : World}
theorem step_app2 {ops : Array Oper} {o : Oper} {a : Act} {K : Act → World → Prop} {Q : Exit → Act → World → Prop} {Z : Prop} (hgd : o.guard = none) (s x : Operand) {t e : TypeId} {size bytes : Nat}
    (ho : o.op = .call { callee := .builtin .append, args := #[s, x], argTypes := #[t, t] }) (E : Elem P t e size bytes) {base n m c d : Nat} {A B : Option Addr} {xs news : List Value}
    (hs : a.eval s = .slice A n c) (hx : a.eval x = .slice B m d)
    (hown : w.ownsRow base e size (.slice A n c) n xs) (hl : news.length = m * size) (hm : 0 < m) (hr : Sl w B news) (h1 : ∀ u ∈ news, u.oneCell' = true)
    (h63 : n + m ≤ maxLen) (hb : (n + m) * bytes ≤ 140737488355328) (hbase : base ≤ w.heap.size)
    (h : ∀ A' c' w', w'.ownsRow base e size (.slice A' (n + m) c') (n + m) (xs ++ news) → w.grownBy w' (Value.slice A n c).ownBlock → ((Value.slice A' (n + m) c').ownBlock = (Value.slice A n c).ownBlock ∨ (Value.slice A' (n + m) c').ownBlock = some w.heap.size) → Below base w w' → K (a.put o.dst (.slice A' (n + m) c')) w') :
    if Region.wanted o (yielded ops a.tmps) = true then Oper.wp P o a w K Q else Z := by
  have hw : Region.wanted o (yielded ops a.tmps) = true := by simp [Region.wanted, hgd]
  rw [if_pos hw]
  obtain ⟨A', c', w', hrun, h2, h3, h5, h4⟩ := run_app2 (P := P) (w := w) (ty := o.type) E (d := d) hown hl hm hr h1 h63 hb hbase
  unfold Oper.wp execOp
  simp only [ho, resolve, invoke, builtin, Sem.run_bind, Sem.run_pure, Result.andThen_ok, List.map_toArray, List.map_cons, List.map_nil, hs, hx, hrun]
  exact h A' c' w' h2 h3 h5 h4
end
theorem own_far1 {w : World} {base e size n : Nat} {v : Value} {xs : List Value} (h : w.ownsRow base e size v n xs) {p : Addr} (hp : v.ownBlock ≠ some p.block) (u : Value) : (w.setCell p u).ownsRow base e size v n xs := by
  obtain ⟨h1, h2⟩ := h
  refine ⟨h1, ?_⟩
  rcases h2 with h2 | ⟨g, cap, cur, hv, hg, hh, hr⟩
  · exact .inl h2
  · refine .inr ⟨g, cap, cur, hv, hg, ?_, hr⟩
    rw [Below.heap_setCell]
    · exact hh
    · intro e
      subst hv
      subst e
      exact hp rfl
theorem own_type {w : World} {base e size n g t : Nat} {v : Value} {xs : List Value} {cs : Array Value} {fr : Nat × Nat} (h : w.ownsRow base e size v n xs) (hg : w.heap[g]? = some (.cells cs t fr)) (hne : e ≠ t) : v.ownBlock ≠ some g := by
  rcases h.2 with ⟨rfl, _⟩ | ⟨g', cap, cur, rfl, _, hh, _⟩
  · simp [Value.ownBlock]
  · simp only [Value.ownBlock, ne_eq, Option.some.injEq]
    intro e1
    subst e1
    rw [hg] at hh
    injection hh with hh
    injection hh with _ e2
    exact hne e2.symm
theorem Bk.grown {w w' : World} {b : Nat} {cs : Array Value} {row : Option Nat} (h : Bk w b cs) (hg : w.grownBy w' row) (hne : row ≠ some b) : Bk w' b cs := by
  have hk := hg.block b h.1 (fun e => hne e.symm)
  exact ⟨Nat.lt_of_lt_of_le h.1 hg.size, fun o => (World.cell?_of_block (a := ⟨b, o, none⟩) hk).trans (h.2 o)⟩
end
end Go.Proofs.Ytiggcpfmmgmncaa
