import Derived.Deep.Slices
import Derived.Test.YtpmnjojednbnpaaGreatDoorWf00
import Derived.Laws.NewBlocks
import Derived.Lib.AppendZerosOnto
import Derived.Lib.Overlaps
set_option maxHeartbeats 16000000
set_option maxRecDepth 100000
set_option linter.unusedVariables false
set_option linter.unusedSimpArgs false
namespace Go.Proofs.YtpmnjojednbnpaaGreatDoor
open Go.ChangeShapes Go.WideShapes Go.ChangeAt Go.RowKit
section
inductive Shape where
  | int (k : IntKind)
  | bool
  | str
  | sl (s : Shape)
  | cat (a b : Shape)
  | nil
def Shape.size : Shape → Nat
  | .int _ => 1
  | .bool => 1
  | .str => 1
  | .sl _ => 1
  | .cat a b => a.size + b.size
  | .nil => 0
def fieldsShape (P : Program) (f : TypeId → Option Shape) : List Field → Nat → Option Shape
  | [], _ => some .nil
  | x :: r, off =>
    match f x.type with
    | some s =>
      if x.offset = off ∧ P.cellsOf x.type = s.size then
        match fieldsShape P f r (off + s.size) with
        | some q => some (.cat s q)
        | none => none
      else none
    | none => none
def shapeOf (P : Program) : Nat → TypeId → Option Shape
  | 0, _ => none
  | n + 1, t =>
    match P.underlying t with
    | some (.int k) => some (.int k)
    | some .bool => some .bool
    | some .string => some .str
    | some (.slice e) =>
      match shapeOf P n e with
      | some s => if P.cellsOf e = s.size then some (.sl s) else none
      | none => none
    | some (.struct fs) =>
      match fieldsShape P (shapeOf P n) fs.toList 0 with
      | some s => if P.cellsOf t = s.size then some s else none
      | none => none
    | _ => none
def Rd (w : World) : Shape → List Value → Prop
  | .int k, cs => ∃ n, cs = [.int k n] ∧ (Lit.int k n).wf = true
  | .bool, cs => ∃ b, cs = [.bool b]
  | .str, cs => ∃ s, cs = [.string s] ∧ s.size ≤ maxLen
  | .sl s, cs => ∃ (A : Option Addr) (n c : Nat) (rows : List (List Value)), cs = [.slice A n c] ∧ n ≤ c ∧ c ≤ maxLen ∧ rows.length = n ∧ Sl w A rows.flatten ∧ ∀ r ∈ rows, Rd w s r
  | .cat a b, cs => ∃ x y, cs = x ++ y ∧ Rd w a x ∧ Rd w b y
  | .nil, cs => cs = []
theorem flatten_at {α : Type} (k : Nat) : ∀ (rows : List (List α)), (∀ r ∈ rows, r.length = k) → ∀ j u, rows.flatten[j]? = some u → ∃ i r, i < rows.length ∧ r < k ∧ j = i * k + r ∧ ∃ row, rows[i]? = some row ∧ row[r]? = some u := by
 intro rows
 induction rows with
 | nil => intro _ j u h; simp at h
 | cons a l ih =>
  intro hk j u h;have ha := hk a (by simp);rw [List.flatten_cons] at h
  by_cases hj : j < a.length
  ·rw [List.getElem?_append_left hj] at h;exact ⟨0, j, by simp, by omega, by omega, a, by simp, h⟩
  ·rw [List.getElem?_append_right (by omega)] at h;obtain ⟨i, r, hi, hr, he, row, h1, h2⟩ := ih (fun x hx => hk x (by simp [hx])) _ _ h;refine ⟨i + 1, r, by simp; omega, hr, ?_, row, by simpa using h1, h2⟩;rw [Nat.add_mul];omega
section
variable {H : Type} {enc : TypeId × Value → H} {P : Program} {w : World} {base : Nat} {spare : Nat → Bool} {held : Bool}

theorem fields_rd (f : TypeId → Option Shape) (hf : ∀ t s, f t = some s → ∀ fuel cs x, DataW.trod enc P w base spare held fuel t cs = some x → Rd w s cs ∧ cs.length = s.size)
  (m : Nat) (cs : List Value) : ∀ (l : List Field) (off : Nat) (s : Shape), fieldsShape P f l off = some s → off + s.size ≤ cs.length →
   (∀ x ∈ l, ∃ y, DataW.trod enc P w base spare held m x.type ((cs.drop x.offset).take (P.cellsOf x.type)) = some y) → Rd w s ((cs.drop off).take s.size) := by
 intro l
 induction l with
 | nil =>
  intro off s h _ _;simp only [fieldsShape, Option.some.injEq] at h;subst h;simp [Rd, Shape.size]
 | cons x r ih =>
  intro off s h hlen hx;simp only [fieldsShape] at h
  split at h
  ·rename_i sx hsx
   split at h
   ·rename_i hc
    split at h
    ·rename_i q hq
     simp only [Option.some.injEq] at h;subst h;simp only [Shape.size] at hlen ⊢;obtain ⟨y, hy⟩ := hx x (by simp);rw [hc.1, hc.2] at hy;have h1 := (hf _ _ hsx _ _ _ hy).1;have h2 := ih (off + sx.size) q hq (by omega) (fun z hz => hx z (by simp [hz]));refine ⟨_, _, ?_, h1, h2⟩;rw [List.take_add, List.drop_drop]
    ·cases h
   ·cases h
  ·cases h
theorem trod_shape : ∀ (n : Nat) (t : TypeId) (s : Shape), shapeOf P n t = some s → ∀ (fuel : Nat) (cs : List Value) (x : DataW H × List MemPlace), DataW.trod enc P w base spare held fuel t cs = some x → Rd w s cs ∧ cs.length = s.size := by
 intro n
 induction n with
 | zero => intro t s h; simp [shapeOf] at h
 | succ n ih =>
  intro t s h fuel cs x hx;unfold shapeOf at h
  split at h
  ·rename_i k hu
   simp only [Option.some.injEq] at h; subst h;obtain ⟨v, rfl, _, hw⟩ := DataW.trod_int hu hx;exact ⟨⟨v, rfl, hw⟩, rfl⟩
  ·rename_i hu
   simp only [Option.some.injEq] at h; subst h;obtain ⟨v, rfl, _⟩ := DataW.trod_bool hu hx;exact ⟨⟨v, rfl⟩, rfl⟩
  ·rename_i hu
   simp only [Option.some.injEq] at h; subst h;obtain ⟨v, rfl, _, hs⟩ := DataW.trod_string hu hx;exact ⟨⟨v, rfl, hs⟩, rfl⟩
  ·rename_i e hu
   split at h
   ·rename_i q hq
    split at h
    ·rename_i hc
     simp only [Option.some.injEq] at h; subst h
     rcases Go.Deep.open_slice hu hx with ⟨rfl, _⟩ | ⟨a, len, cap, m, fu, D, Pl, rfl, _, hl, hm, hmm, _, hi⟩
     ·exact ⟨⟨none, 0, 0, [], rfl, Nat.le_refl _, by decide, rfl, Sl.nil, fun r hr => by cases hr⟩, rfl⟩
     ·have hlm : len ≤ m := by rw [hmm]; split <;> omega
      rw [hc] at hi;obtain ⟨R, hR⟩ := Go.Deep.choose_lt (α := List Value) (p := fun i cs' => w.cells? base (a.add (i * q.size)) q.size = some cs' ∧ DataW.trod enc P w base spare held fu e cs' = some (D i, Pl i)) hi
      refine ⟨⟨some a, len, cap, (List.range len).map R, rfl, hl, hm, by simp, ?_, ?_⟩, rfl⟩
      ·have hrow : ∀ r ∈ (List.range len).map R, r.length = q.size := by
        intro r hr;simp at hr;obtain ⟨i, hi', rfl⟩ := hr;exact (ih e q hq _ _ _ (hR i (by omega)).2).2
       have hcell : ∀ j u, ((List.range len).map R).flatten[j]? = some u → w.cell? (a.add j) = some u := by
        intro j u hu';obtain ⟨i, r, hi', hr, rfl, row, h1, h2⟩ := flatten_at q.size _ hrow j u hu';simp at hi';simp [hi'] at h1;subst h1;obtain ⟨_, hcl, hat⟩ := World.cells?_some (hR i (by omega)).1;have := hat r hr;rw [Go.Deep.add_add, h2] at this;exact this
       intro hne
       have h0 : ∃ u, ((List.range len).map R).flatten[0]? = some u := by
        cases hf : ((List.range len).map R).flatten with
        | nil => exact absurd hf hne
        | cons u _ => exact ⟨u, rfl⟩
       obtain ⟨u, hu0⟩ := h0;obtain ⟨b, o, sp⟩ := a
       have hsp : sp = none := by
        have := World.cell?_spot (hcell 0 u hu0);simpa [Addr.add] using this
       subst hsp;exact ⟨b, o, rfl, fun j u hu => by rw [← addr_add]; exact hcell j u hu⟩
      ·intro r hr;simp at hr;obtain ⟨i, hi', rfl⟩ := hr;exact (ih e q hq _ _ _ (hR i (by omega)).2).1
    ·cases h
   ·cases h
  ·rename_i fs hu
   split at h
   ·rename_i q hq
    split at h
    ·rename_i hc
     simp only [Option.some.injEq] at h; subst h;obtain ⟨xs, m, _, _, hlen, hxl, hat⟩ := DataW.trod_struct hu hx;have hcl : cs.length = q.size := by rw [hlen, hc]
     refine ⟨?_, hcl⟩
     have := fields_rd (enc := enc) (base := base) (spare := spare) (held := held) (shapeOf P n) ih m cs fs.toList 0 q hq (by omega) (fun f hf => by
      obtain ⟨i, hi, rfl⟩ := List.getElem_of_mem hf;have hi' : i < fs.size := by simpa using hi
      have h1 := hat i fs[i] (Array.getElem?_eq_getElem hi');rw [List.getElem?_eq_getElem (by omega)] at h1
      exact ⟨_, by simpa using h1⟩)
     rwa [List.drop_zero, List.take_of_length_le (by omega)] at this
    ·cases h
   ·cases h
  ·cases h
theorem arg_shape {n : Nat} {t : TypeId} {s : Shape} {v : Value} {d : DataW H} {p : List MemPlace} (hs : shapeOf P n t = some s) (h : DataW.Trod enc P w base spare held t v d p) : Rd w s v.cells.toList := by
 obtain ⟨fuel, hf⟩ := h;exact (trod_shape n t s hs fuel _ _ hf).1
end

section
variable {w w' : World}
theorem Rd.below : ∀ (s : Shape) {cs : List Value}, Rd w s cs → Below w.heap.size w w' → Rd w' s cs := by
 intro s
 induction s with
 | int k => intro cs h _; exact h
 | bool => intro cs h _; exact h
 | str => intro cs h _; exact h
 | nil => intro cs h _; exact h
 | cat a b iha ihb => intro cs ⟨x, y, e, h1, h2⟩ hb; exact ⟨x, y, e, iha h1 hb, ihb h2 hb⟩
 | sl s ih => intro cs ⟨A, n, c, rows, e, h1, h2, h3, h4, h5⟩ hb; exact ⟨A, n, c, rows, e, h1, h2, h3, h4.below hb, fun r hr => ih (h5 r hr) hb⟩
end
end
section
section
variable {P : Program}
end

section
variable {w : World} {base : Nat} {e : TypeId} {size n c : Nat} {xs : List Value}
theorem own_below {w w' : World} {B e size n : Nat} {v : Value} {xs : List Value} (h : w.ownsRow B e size v n xs) (hb : Below w.heap.size w w') : w'.ownsRow B e size v n xs := by
 obtain ⟨h1, h2⟩ := h;refine ⟨h1, ?_⟩
 rcases h2 with h2 | ⟨g, cap, cur, hv, hg, hh, hr⟩
 ·exact .inl h2
 ·refine .inr ⟨g, cap, cur, hv, hg, ?_, hr⟩
  have hlt : g < w.heap.size := by
   rcases Nat.lt_or_ge g w.heap.size with hlt | hge
   ·exact hlt
   ·rw [Array.getElem?_eq_none hge] at hh; cases hh
  rw [hb.block g hlt];exact hh
end

def Ent (P : Program) (F : FuncId) : Prop := ∀ args w, (callFunc F args).run P w = .ok (.enter F args) w
theorem Ent.of {P : Program} {F : FuncId} (h : ((P.funcs[F]?).map fun f => (f.name == "runtime.NumGoroutine", f.body.isSome)) = some (false, true)) : Ent P F := by
 intro args w
 cases hf : P.funcs[F]? with
 | none => rw [hf] at h; simp at h
 | some fn =>
  rw [hf] at h;simp only [Option.map_some, Option.some.injEq, Prod.mk.injEq] at h
  have h1 : fn.name ≠ "runtime.NumGoroutine" := by simpa using h.1
  cases hb : fn.body with
  | none => rw [hb] at h; simp at h
  | some c => simp [callFunc, hf, h1, hb]
theorem step_app {P : Program} {w : World} {ops : Array Oper} {o : Oper} {a : Act} {K : Act → World → Prop} {Q : Exit → Act → World → Prop} {Z : Prop} (hgd : o.guard = none) (s x : Operand) {t e : TypeId} {size bytes : Nat}
  (ho : o.op = .call { callee := .builtin .append, args := #[s, x], argTypes := #[t, t] }) (E : Elem P t e size bytes) {base n m c d : Nat} {A B : Option Addr} {xs news : List Value}
  (hs : a.eval s = .slice A n c) (hx : a.eval x = .slice B m d)
  (hown : w.ownsRow base e size (.slice A n c) n xs) (hl : news.length = m * size) (hr : Sl w B news) (h1 : ∀ u ∈ news, u.oneCell' = true)
  (h63 : n + m ≤ maxLen) (hb : (n + m) * bytes ≤ 140737488355328) (hbase : base ≤ w.heap.size)
  (h : ∀ A' c' w', w'.ownsRow base e size (.slice A' (n + m) c') (n + m) (xs ++ news) → w.grownBy w' (Value.slice A n c).ownBlock → Below base w w' → K (a.put o.dst (.slice A' (n + m) c')) w') :
  if Region.wanted o (yielded ops a.tmps) = true then Oper.wp P o a w K Q else Z := by
 have hw : Region.wanted o (yielded ops a.tmps) = true := by simp [Region.wanted, hgd]
 rw [if_pos hw];exact wp_app s x ho E hs hx hown hl hr h1 h63 hb hbase h
theorem own_base {w : World} {base base' e size n : Nat} {v : Value} {xs : List Value} (h : w.ownsRow base e size v n xs) (hb : base' ≤ base) : w.ownsRow base' e size v n xs := by
 obtain ⟨h1, h2⟩ := h;refine ⟨h1, ?_⟩
 rcases h2 with h2 | ⟨g, cap, cur, hv, hg, hr⟩
 ·exact .inl h2
 ·exact .inr ⟨g, cap, cur, hv, Nat.le_trans hb hg, hr⟩
def rc {α : Type} (f : α → List Value) (l : List α) : List Value := (l.map f).flatten
section
variable {α : Type} {f : α → List Value} {m : Nat}
end

section
variable {α : Type}
end
end
section
def In64p (z : Int) : Prop := -9223372036854775808 ≤ z ∧ z ≤ 9223372036854775807
def zz (n : Int) : Nat := if 0 ≤ n then 2 * n.toNat else 2 * (-(n + 1)).toNat + 1
def uz (u : Nat) : Int := if u % 2 = 0 then ((u / 2 : Nat) : Int) else -((u / 2 : Nat) : Int) - 1
theorem uz_zz (n : Int) : uz (zz n) = n := by
 unfold uz zz
 by_cases h : 0 ≤ n
 ·rw [if_pos h, if_pos (by omega)]; omega
 ·rw [if_neg h, if_neg (by omega)]; omega
theorem zz_uz (u : Nat) : zz (uz u) = u := by
 unfold uz zz
 by_cases h : u % 2 = 0
 ·rw [if_pos h, if_pos (by omega)]; omega
 ·rw [if_neg h, if_neg (by omega)]; omega
theorem zz_lt {n : Int} (h : In64p n) : zz n < 18446744073709551616 := by
 unfold In64p at h;unfold zz
 split <;> omega
theorem uz_in {u : Nat} (h : u < 18446744073709551616) : In64p (uz u) := by
 unfold In64p uz
 split <;> omega
def vb (u : Nat) : List Nat := if h : u < 128 then [u] else (u % 128 + 128) :: vb (u / 128)
termination_by u
decreasing_by omega
theorem vb_low {u : Nat} (h : u < 128) : vb u = [u] := by rw [vb, dif_pos h]
theorem vb_high {u : Nat} (h : ¬ u < 128) : vb u = (u % 128 + 128) :: vb (u / 128) := by rw [vb, dif_neg h]
theorem vb_byte : ∀ u, ∀ c ∈ vb u, c < 256 := by
 intro u
 induction u using Nat.strongRecOn with
 | _ u ih =>
  intro c hc
  by_cases h : u < 128
  ·rw [vb_low h] at hc; simp at hc; omega
  ·rw [vb_high h] at hc
   rcases List.mem_cons.1 hc with rfl | hc
   ·omega
   ·exact ih (u / 128) (by omega) c hc
theorem vb_ne (u : Nat) : vb u ≠ [] := by
 by_cases h : u < 128
 ·rw [vb_low h]; simp
 ·rw [vb_high h]; simp
def packI (n : Int) : List Nat := vb (zz n)
def packL (l : List Int) : List Nat := (l.map packI).flatten
theorem packL_cons (n : Int) (l : List Int) : packL (n :: l) = packI n ++ packL l := by simp [packL]
theorem packL_append (l m : List Int) : packL (l ++ m) = packL l ++ packL m := by simp [packL]
theorem packL_byte (l : List Int) : ∀ c ∈ packL l, c < 256 := by
 intro c hc;unfold packL at hc;rw [List.mem_flatten] at hc;obtain ⟨m, hm, hc⟩ := hc;obtain ⟨n, _, rfl⟩ := List.mem_map.1 hm;exact vb_byte _ c hc
theorem vb_len : ∀ k u, u < 128 ^ (k + 1) → (vb u).length ≤ k + 1 := by
 intro k
 induction k with
 | zero => intro u h; rw [vb_low (by omega)]; simp
 | succ k ih =>
  intro u h
  by_cases h1 : u < 128
  ·rw [vb_low h1]; simp
  ·rw [vb_high h1, List.length_cons];have := ih (u / 128) (by rw [Nat.pow_succ] at h; exact Nat.div_lt_of_lt_mul (by rw [Nat.mul_comm]; exact h));omega
theorem vb_len10 {u : Nat} (h : u < 18446744073709551616) : (vb u).length ≤ 10 := by
 refine vb_len 9 u ?_;have e : (128 : Nat) ^ (9 + 1) = 1180591620717411303424 := by decide
 rw [e];omega
def grp : Nat → Nat → List Nat → Int × Nat × List Nat
  | 0, acc, bs => (0, acc, bs)
  | _ + 1, _, [] => (4, 0, [])
  | f + 1, acc, c :: r => if (f = 0 ∧ 1 < c) ∨ (f < 9 ∧ c = 0) then (3, 0, r) else if c < 128 then (0, acc + c * 2 ^ (7 * (9 - f)), r) else grp f (acc + (c % 128) * 2 ^ (7 * (9 - f))) r
theorem pow_step {f : Nat} (h : f + 1 ≤ 9) : 2 ^ (7 * (9 - f)) = 2 ^ (7 * (9 - (f + 1))) * 128 := by
 have e : 7 * (9 - f) = 7 * (9 - (f + 1)) + 7 := by omega
 rw [e, Nat.pow_add]
theorem grp_vb : ∀ (f acc u : Nat) (r : List Nat), f ≤ 9 → u * 2 ^ (7 * (9 - f)) < 18446744073709551616 → (f = 9 ∨ u ≠ 0) → grp (f + 1) acc (vb u ++ r) = (0, acc + u * 2 ^ (7 * (9 - f)), r) := by
 intro f
 induction f with
 | zero =>
  intro acc u r _ hu h0;have e : (2 : Nat) ^ (7 * (9 - 0)) = 9223372036854775808 := by decide
  rw [e] at hu;have h1 : u < 2 := by omega
  rw [vb_low (by omega), List.singleton_append, grp, if_neg (by omega), if_pos (by omega)]
 | succ f ih =>
  intro acc u r hf hu h0
  by_cases h : u < 128
  ·rw [vb_low h, List.singleton_append, grp, if_neg (by omega), if_pos h]
  ·rw [vb_high h, List.cons_append, grp, if_neg (by omega), if_neg (by omega)];have hp := pow_step hf;have hd : u = u / 128 * 128 + u % 128 := by omega
   obtain ⟨P, hP⟩ : ∃ P, 2 ^ (7 * (9 - (f + 1))) = P := ⟨_, rfl⟩;rw [hP] at hp hu ⊢
   rw [ih _ (u / 128) r (by omega) (by
    rw [hp, ← Nat.mul_assoc, Nat.mul_right_comm]
    exact Nat.lt_of_le_of_lt (Nat.mul_le_mul_right _ (by omega)) hu) (.inr (by omega)), hp]
   have e1 : (u % 128 + 128) % 128 = u % 128 := by omega
   rw [e1]
   congr 2
   have e2 : u * P = (u / 128 * 128 + u % 128) * P := by rw [← hd]
   rw [e2, Nat.add_mul, Nat.mul_right_comm, ← Nat.mul_assoc, Nat.mul_right_comm (u / 128) P 128];omega
theorem grp_pack {n : Int} (h : In64p n) (r : List Nat) : grp 10 0 (packI n ++ r) = (0, zz n, r) := by
 have := grp_vb 9 0 (zz n) r (Nat.le_refl _) (by simpa using zz_lt h) (.inl rfl);simpa [packI] using this
theorem vb_grp : ∀ (f acc v : Nat) (bs r : List Nat), (∀ c ∈ bs, c < 256) → f ≤ 9 → acc < 2 ^ (7 * (9 - f)) → grp (f + 1) acc bs = (0, v, r) → ∃ u, v = acc + u * 2 ^ (7 * (9 - f)) ∧ bs = vb u ++ r ∧ (f = 9 ∨ u ≠ 0) ∧ v < 18446744073709551616 := by
 intro f
 induction f with
 | zero =>
  intro acc v bs r hby _ ha h
  cases bs with
  | nil => rw [grp] at h; injection h with h; cases h
  | cons c bs =>
   rw [grp] at h;have e : (2 : Nat) ^ (7 * (9 - 0)) = 9223372036854775808 := by decide
   rw [e] at ha h ⊢
   by_cases h1 : (0 = 0 ∧ 1 < c) ∨ (0 < 9 ∧ c = 0)
   ·rw [if_pos h1] at h; injection h with h; cases h
   ·rw [if_neg h1, if_pos (by omega)] at h;injection h with _ h;injection h with h2 h3;subst h3;exact ⟨c, h2.symm, by rw [vb_low (by omega)]; rfl, .inr (by omega), by omega⟩
 | succ f ih =>
  intro acc v bs r hby hf ha h
  cases bs with
  | nil => rw [grp] at h; injection h with h; cases h
  | cons c bs =>
   rw [grp] at h;have hp := pow_step hf
   have hm : 2 ^ (7 * (9 - f)) ≤ 9223372036854775808 := by
    have : (2 : Nat) ^ (7 * (9 - f)) ≤ 2 ^ 63 := Nat.pow_le_pow_right (by omega) (by omega);simpa using this
   obtain ⟨P, hP⟩ : ∃ P, 2 ^ (7 * (9 - (f + 1))) = P := ⟨_, rfl⟩;rw [hP] at hp ha h ⊢
   by_cases h1 : (f + 1 = 0 ∧ 1 < c) ∨ (f + 1 < 9 ∧ c = 0)
   ·rw [if_pos h1] at h; injection h with h; cases h
   rw [if_neg h1] at h
   by_cases h2 : c < 128
   ·rw [if_pos h2] at h;injection h with _ h;injection h with h2' h3;subst h3;refine ⟨c, h2'.symm, by rw [vb_low h2]; rfl, by omega, ?_⟩;rw [← h2'];have : c * P ≤ 127 * P := Nat.mul_le_mul_right _ (by omega);omega
   ·rw [if_neg h2] at h
    have hlt : acc + c % 128 * P < 2 ^ (7 * (9 - f)) := by
     rw [hp];have : c % 128 * P ≤ 127 * P := Nat.mul_le_mul_right _ (by omega);omega
    obtain ⟨u, hv, hb, hu, hl⟩ := ih (acc + c % 128 * P) v bs r (fun x hx => hby x (by simp [hx])) (by omega) hlt h;have hc := hby c (by simp);have hu0 : u ≠ 0 := by omega
    refine ⟨u * 128 + c % 128, ?_, ?_, by omega, hl⟩
    ·rw [hv, hp, Nat.add_mul, ← Nat.mul_assoc, Nat.mul_right_comm u P 128]; omega
    ·rw [vb_high (by omega), show (u * 128 + c % 128) % 128 + 128 = c by omega, show (u * 128 + c % 128) / 128 = u by omega, hb]; rfl
structure Rs where
  B : List Nat
  err : Int
def rdI (lo hi : Int) (s : Rs) : Int × Rs :=
  if s.err ≠ 0 then (0, s) else if (grp 10 0 s.B).1 ≠ 0 then (0, ⟨[], (grp 10 0 s.B).1⟩)
  else if uz (grp 10 0 s.B).2.1 < lo ∨ hi < uz (grp 10 0 s.B).2.1 then (0, ⟨[], 7⟩) else (uz (grp 10 0 s.B).2.1, ⟨(grp 10 0 s.B).2.2, 0⟩)
theorem rdI_pack {n lo hi : Int} (h : In64p n) (h1 : lo ≤ n) (h2 : n ≤ hi) (r : List Nat) : rdI lo hi ⟨packI n ++ r, 0⟩ = (n, ⟨r, 0⟩) := by
 unfold rdI;simp only;rw [grp_pack h];simp only [uz_zz];rw [if_neg (by decide), if_neg (by decide), if_neg (by omega)]
theorem rdI_back {lo hi n : Int} {s s' : Rs} (hb : ∀ c ∈ s.B, c < 256) (h : rdI lo hi s = (n, s')) (he : s'.err = 0) (h0 : s.err = 0) : s.B = packI n ++ s'.B ∧ In64p n ∧ s'.B.length < s.B.length := by
 unfold rdI at h;rw [if_neg (by simp [h0])] at h;obtain ⟨e, u, r, hg⟩ : ∃ e u r, grp 10 0 s.B = (e, u, r) := ⟨_, _, _, rfl⟩;rw [hg] at h;simp only at h
 split at h
 ·rename_i h1
  injection h with _ h;subst h;exact absurd he h1
 ·rename_i h1
  split at h
  ·injection h with _ h;subst h;simp at he
  ·injection h with h2 h3;subst h3; subst h2;have h1 : e = 0 := by simpa using h1
   subst h1;obtain ⟨u', hv, hb2, _, hl⟩ := vb_grp 9 0 u s.B r hb (Nat.le_refl _) (by simp) hg;have e1 : u' = u := by simpa using hv.symm
   subst e1;refine ⟨by rw [hb2, packI, zz_uz], uz_in hl, ?_⟩;rw [hb2, List.length_append];have := vb_ne u';have := List.length_pos_iff.2 this;simp only;omega
end
section
section
variable {P : Program} {w : World}
theorem run_app2 {t ty e : TypeId} {size bytes : Nat} (E : Elem P t e size bytes) {base n m c d : Nat} {A B : Option Addr} {xs news : List Value}
  (hown : w.ownsRow base e size (.slice A n c) n xs) (hl : news.length = m * size) (hm : 0 < m) (hr : Sl w B news) (h1 : ∀ u ∈ news, u.oneCell' = true)
  (h63 : n + m ≤ maxLen) (hb : (n + m) * bytes ≤ 140737488355328) (hbase : base ≤ w.heap.size) :
  ∃ A' c' w', (Builtin.append_ #[t, t] ty #[.slice A n c, .slice B m d]).run P w = .ok (.slice A' (n + m) c') w' ∧ w'.ownsRow base e size (.slice A' (n + m) c') (n + m) (xs ++ news) ∧
   w.grownBy w' (Value.slice A n c).ownBlock ∧ ((Value.slice A' (n + m) c').ownBlock = (Value.slice A n c).ownBlock ∨ (Value.slice A' (n + m) c').ownBlock = some w.heap.size) ∧ Below base w w' := by
 obtain ⟨i, z, hi, hz, hsize, hby, hzs⟩ := E.info
 have hne : news ≠ [] := by
  intro h0;rw [h0, List.length_nil] at hl
  rcases Nat.mul_eq_zero.1 hl.symm with h | h
  ·omega
  ·have := E.pos; omega
 obtain ⟨b, o, rfl, hc⟩ := hr hne
 obtain ⟨v', w', hrun, h2, h3, _, h5⟩ := run_append_own_at (P := P) w base t ty e i z size bytes E.und hi hz hsize hby hzs E.pos _ n xs hown ⟨b, o, none⟩ m d news hl
  (fun j u hu => by rw [addr_add]; exact hc j u hu) h1 h63 hb hbase
 obtain ⟨A', c', rfl⟩ := own_form h2;exact ⟨A', c', w', hrun, h2, h3, h5, below_of_grown h3 hbase (own_ge hown)⟩
theorem wpList_app2 {ops : Array Oper} {rest : List Oper} {o : Oper} {a : Act} {Q : Exit → Act → World → Prop} (hgd : o.guard = none) (s x : Operand) {t e : TypeId} {size bytes : Nat}
  (ho : o.op = .call { callee := .builtin .append, args := #[s, x], argTypes := #[t, t] }) (E : Elem P t e size bytes) {base n m c d : Nat} {A B : Option Addr} {xs news : List Value}
  (hs : a.eval s = .slice A n c) (hx : a.eval x = .slice B m d)
  (hown : w.ownsRow base e size (.slice A n c) n xs) (hl : news.length = m * size) (hm : 0 < m) (hr : Sl w B news) (h1 : ∀ u ∈ news, u.oneCell' = true)
  (h63 : n + m ≤ maxLen) (hb : (n + m) * bytes ≤ 140737488355328) (hbase : base ≤ w.heap.size)
  (h : ∀ A' c' w', w'.ownsRow base e size (.slice A' (n + m) c') (n + m) (xs ++ news) → w.grownBy w' (Value.slice A n c).ownBlock → ((Value.slice A' (n + m) c').ownBlock = (Value.slice A n c).ownBlock ∨ (Value.slice A' (n + m) c').ownBlock = some w.heap.size) → Below base w w' → wpList P ops Q rest (a.put o.dst (.slice A' (n + m) c')) w') :
  wpList P ops Q (o :: rest) a w :=
 wpList_plain hgd fun _ hK => by
  obtain ⟨A', c', w', hrun, h2, h3, h5, h4⟩ := run_app2 (P := P) (w := w) (ty := o.type) E (d := d) hown hl hm hr h1 h63 hb hbase;unfold Oper.wp execOp;simp only [ho, resolve, invoke, builtin, Sem.run_bind, Sem.run_pure, Result.andThen_ok, List.map_toArray, List.map_cons, List.map_nil, hs, hx, hrun];exact hK _ _ (h A' c' w' h2 h3 h5 h4)
end
def Apart (v u : Value) : Prop := ∀ g, v.ownBlock = some g → u.ownBlock ≠ some g
theorem Apart.symm {v u : Value} (h : Apart v u) : Apart u v := fun g h1 h2 => h g h2 h1
theorem Apart.none (u : Value) : Apart (.slice none 0 0) u := fun g h => by simp [Value.ownBlock] at h
theorem Apart.grow {w : World} {base e size n : Nat} {v v' u : Value} {xs : List Value} (h : Apart v u) (hu : w.ownsRow base e size u n xs) (hv : v'.ownBlock = v.ownBlock ∨ v'.ownBlock = some w.heap.size) : Apart v' u := by
 intro g h1 h2
 rcases hv with hv | hv
 ·exact h g (hv ▸ h1) h2
 ·rw [hv] at h1;injection h1 with h1;subst h1
  rcases hu.2 with ⟨rfl, _⟩ | ⟨g', cap, cur, rfl, _, hh, _⟩
  ·simp [Value.ownBlock] at h2
  ·simp only [Value.ownBlock, Option.some.injEq] at h2;subst h2;rw [Array.getElem?_eq_none (Nat.le_refl _)] at hh
   cases hh
section
variable {P : Program} {w : World}
end
theorem own_far1 {w : World} {base e size n : Nat} {v : Value} {xs : List Value} (h : w.ownsRow base e size v n xs) {p : Addr} (hp : v.ownBlock ≠ some p.block) (u : Value) : (w.setCell p u).ownsRow base e size v n xs := by
 obtain ⟨h1, h2⟩ := h;refine ⟨h1, ?_⟩
 rcases h2 with h2 | ⟨g, cap, cur, hv, hg, hh, hr⟩
 ·exact .inl h2
 ·refine .inr ⟨g, cap, cur, hv, hg, ?_, hr⟩
  rw [Below.heap_setCell]
  ·exact hh
  ·intro e;subst hv;subst e;exact hp rfl
theorem own_type {w : World} {base e size n g t : Nat} {v : Value} {xs : List Value} {cs : Array Value} {fr : Nat × Nat} (h : w.ownsRow base e size v n xs) (hg : w.heap[g]? = some (.cells cs t fr)) (hne : e ≠ t) : v.ownBlock ≠ some g := by
 rcases h.2 with ⟨rfl, _⟩ | ⟨g', cap, cur, rfl, _, hh, _⟩
 ·simp [Value.ownBlock]
 ·simp only [Value.ownBlock, ne_eq, Option.some.injEq];intro e1;subst e1;rw [hg] at hh;injection hh with hh;injection hh with _ e2;exact hne e2.symm
theorem Bk.grown {w w' : World} {b : Nat} {cs : Array Value} {row : Option Nat} (h : Bk w b cs) (hg : w.grownBy w' row) (hne : row ≠ some b) : Bk w' b cs := by
 have hk := hg.block b h.1 (fun e => hne e.symm);exact ⟨Nat.lt_of_lt_of_le h.1 hg.size, fun o => (World.cell?_of_block (a := ⟨b, o, none⟩) hk).trans (h.2 o)⟩
end
section
structure RowS (α : Type) where
  A : Option Addr
  c : Nat
  l : List α
section
variable {α : Type}
def RowS.cells (s : RowS α) : List Value := [.slice s.A s.l.length s.c]
theorem RowS.len (s : RowS α) : s.cells.length = 1 := rfl
theorem RowS.one (s : RowS α) : ∀ u ∈ s.cells, u.oneCell' = true := by
 intro u hu;simp only [RowS.cells, List.mem_cons, List.not_mem_nil, or_false] at hu;subst hu; rfl
def RowS.all (S : List (RowS α)) : List α := (S.map RowS.l).flatten
def RowsOk (w : World) (f : α → List Value) (S : List (RowS α)) : Prop := ∀ s ∈ S, Sl w s.A (rc f s.l)
theorem RowsOk.below {w w' : World} {f : α → List Value} {S : List (RowS α)} (h : RowsOk w f S) (hb : Below w.heap.size w w') : RowsOk w' f S := fun s hs => (h s hs).below hb
theorem RowsOk.alloc {w : World} {f : α → List Value} {S : List (RowS α)} (h : RowsOk w f S) (o : Obj) : RowsOk (w.alloc o) f S := fun s hs => (h s hs).alloc o
theorem RowsOk.drew {w : World} {f : α → List Value} {S : List (RowS α)} (h : RowsOk w f S) : RowsOk w.drew f S := h
theorem rd_rowsP {w : World} {f : α → List Value} {p : α → Prop} {s : Shape} {A : Option Addr} {n c : Nat} (hf : ∀ r, Rd w s r → ∃ g, r = f g ∧ p g) (h : Rd w (.sl s) [.slice A n c]) :
  ∃ l : List α, l.length = n ∧ n ≤ c ∧ c ≤ maxLen ∧ Sl w A (rc f l) ∧ ∀ y ∈ l, p y := by
 obtain ⟨A', n', c', rows, e, h1, h2, h3, h4, h5⟩ := h;simp only [List.cons.injEq, Value.slice.injEq, and_true] at e;obtain ⟨rfl, rfl, rfl⟩ := e
 have key : ∀ rows : List (List Value), (∀ r ∈ rows, Rd w s r) → ∃ l : List α, l.length = rows.length ∧ rows.flatten = rc f l ∧ ∀ y ∈ l, p y := by
  intro rows
  induction rows with
  | nil => intro _; exact ⟨[], rfl, rfl, fun y hy => by cases hy⟩
  | cons r rows ih =>
   intro h;obtain ⟨l, a1, a2, a3⟩ := ih (fun x hx => h x (by simp [hx]));obtain ⟨x, rfl, hx⟩ := hf r (h r (by simp));refine ⟨x :: l, by simp [a1], by simp [a2, rc], fun y hy => ?_⟩
   rcases List.mem_cons.1 hy with rfl | hy
   ·exact hx
   ·exact a3 y hy
 obtain ⟨l, a1, a2, a3⟩ := key rows h5;rw [a2] at h4;exact ⟨l, by omega, h1, h2, h4, a3⟩
end
end
end Go.Proofs.YtpmnjojednbnpaaGreatDoor
