/-
  Rows of structs of any number of cells in memory of the call's own: copy, clear, stores; and plain mathematics of sorted rows.
-/
import Derived.Test.YtpmnjojednbnpaaShape
import Derived.Lib.AppendZerosOnto
import Derived.Lib.Overlaps
import Derived.Laws.NewBlocks
namespace Go.Proofs.Ytpmnjojednbnpaa
open Go.ChangeShapes Go.WideShapes Go.ChangeAt Go.RowKit
set_option linter.unusedVariables false
set_option linter.unusedSimpArgs false

section
variable {P : Program}
/-- copy onto a row that is known whole, elements of any size -/
theorem run_copyN (w : World) (dT sT ty elem : TypeId) (size g o dLen dCap : Nat) (a : Addr) (sLen sCap : Nat) (cur : Array Value) (t : TypeId) (cs : List Value)
    (hu : P.underlying dT = some (.slice elem)) (hs : (P.info? elem).map (·.size) = some size)
    (hg : w.heap[g]? = some (.cells cur t (0, 0))) (hn : cs.length = Nat.min sLen dLen * size)
    (hsrc : ∀ j v, cs[j]? = some v → w.cell? (a.add j) = some v) (hfit : o + cs.length ≤ cur.size) (h1 : ∀ v ∈ cs, v.oneCell' = true) :
    (Builtin.copy_ #[dT, sT] ty #[.slice (some ⟨g, o, none⟩) dLen dCap, .slice (some a) sLen sCap]).run P w =
      .ok (goInt (Nat.min sLen dLen)) (w.setRow g (cur.toList.take o ++ cs ++ cur.toList.drop (o + cs.length)).toArray) := by
  have hl := run_loadCells_list (P := P) w a cs hsrc
  have hst := run_storeCells_at P g o t cs 0 cur w hg (by simpa using hfit) h1
  rw [hn] at hl
  cases hq : P.info? elem with
  | none => simp [hq] at hs
  | some i =>
    have hi : i.size = size := by simpa [hq] using hs
    simp [Builtin.copy_, run_underlying hu, Builtin.lenOf, Builtin.firstCells, sizeOf, typeInfo, hq, hi, hl, hst]

theorem wpList_copyN {w : World} {ops : Array Oper} {rest : List Oper} {o : Oper} {a : Act} {Q : Exit → Act → World → Prop} (hgd : o.guard = none) (d s : Operand) (dT sT : TypeId)
    (ho : o.op = .call { callee := .builtin .copy, args := #[d, s], argTypes := #[dT, sT] }) (elem : TypeId) (size : Nat) (hu : P.underlying dT = some (.slice elem)) (hsz : (P.info? elem).map (·.size) = some size)
    (g off dLen dCap : Nat) (ad : Addr) (sLen sCap : Nat) (hd : a.eval d = .slice (some ⟨g, off, none⟩) dLen dCap) (hs : a.eval s = .slice (some ad) sLen sCap)
    (cur : List Value) (t : TypeId) (hg : w.heap[g]? = some (.cells cur.toArray t (0, 0))) (cs : List Value) (hn : cs.length = Nat.min sLen dLen * size)
    (hsrc : ∀ j v, cs[j]? = some v → w.cell? (ad.add j) = some v) (hfit : off + cs.length ≤ cur.length) (h1 : ∀ v ∈ cs, v.oneCell' = true) (B : Nat) (w0 : World) (hb : Below B w0 w) (hBg : B ≤ g)
    (h : ∀ w', Hid (w'.heap[g]? = some (.cells (splice cur off cs).toArray t (0, 0))) → Hid (∀ k, k ≠ g → w'.heap[k]? = w.heap[k]?) → Below B w0 w' → wpList P ops Q rest (a.put o.dst (goInt (Nat.min sLen dLen))) w') : wpList P ops Q (o :: rest) a w := by
  refine wpList_plain hgd fun K hK => ?_
  have hrun := run_copyN (P := P) w dT sT o.type elem size g off dLen dCap ad sLen sCap cur.toArray t cs hu hsz hg hn hsrc (by simpa using hfit) h1
  unfold Oper.wp
  simp [execOp, ho, resolve, invoke, builtin, hd, hs, hrun, Result.andThen]
  exact hK _ _ (h _ (show _ = _ by simpa [splice] using setRow_heap w g _ _ t _ hg) (show ∀ k, k ≠ g → _ from fun k hk => setRow_other w g k _ hk) (below_setRow hb hBg _))

theorem step_copyN {ops : Array Oper} {o : Oper} {a : Act} {w : World} {K : Act → World → Prop} {Q : Exit → Act → World → Prop} {E : Prop} (hgd : o.guard = none) (d s : Operand) (dT sT : TypeId)
    (ho : o.op = .call { callee := .builtin .copy, args := #[d, s], argTypes := #[dT, sT] }) (elem : TypeId) (size : Nat) (hu : P.underlying dT = some (.slice elem)) (hsz : (P.info? elem).map (·.size) = some size)
    (g off dLen dCap : Nat) (ad : Addr) (sLen sCap : Nat) (hd : a.eval d = .slice (some ⟨g, off, none⟩) dLen dCap) (hs : a.eval s = .slice (some ad) sLen sCap)
    (cur : List Value) (t : TypeId) (hg : w.heap[g]? = some (.cells cur.toArray t (0, 0))) (cs : List Value) (hn : cs.length = Nat.min sLen dLen * size)
    (hsrc : ∀ j v, cs[j]? = some v → w.cell? (ad.add j) = some v) (hfit : off + cs.length ≤ cur.length) (h1 : ∀ v ∈ cs, v.oneCell' = true) (B : Nat) (w0 : World) (hb : Below B w0 w) (hBg : B ≤ g)
    (h : ∀ w', Hid (w'.heap[g]? = some (.cells (splice cur off cs).toArray t (0, 0))) → Hid (∀ k, k ≠ g → w'.heap[k]? = w.heap[k]?) → Below B w0 w' → K (a.put o.dst (goInt (Nat.min sLen dLen))) w') :
    if Region.wanted o (yielded ops a.tmps) = true then Oper.wp P o a w K Q else E := by
  have hw : Region.wanted o (yielded ops a.tmps) = true := by simp [Region.wanted, hgd]
  rw [if_pos hw]
  have hrun := run_copyN (P := P) w dT sT o.type elem size g off dLen dCap ad sLen sCap cur.toArray t cs hu hsz hg hn hsrc (by simpa using hfit) h1
  unfold Oper.wp
  simp [execOp, ho, resolve, invoke, builtin, hd, hs, hrun, Result.andThen]
  exact h _ (show _ = _ by simpa [splice] using setRow_heap w g _ _ t _ hg) (show ∀ k, k ≠ g → _ from fun k hk => setRow_other w g k _ hk) (below_setRow hb hBg _)

/-- clear of a part of a row that is known whole, elements of any size -/
theorem run_clearN (w : World) (t e ty : TypeId) (z : Value) (ht : P.underlying t = some (.slice e)) (hv : ∀ w, (zeroValue e).run P w = .ok z w) (g o n c : Nat) (cur : Array Value) (te : TypeId) (hn : 0 < n)
    (hg : w.heap[g]? = some (.cells cur te (0, 0))) (hfit : o + (Builtin.zeroCells z.cells n).size ≤ cur.size) (h1 : ∀ v ∈ (Builtin.zeroCells z.cells n).toList, v.oneCell' = true) :
    (Builtin.clear_ #[t] ty #[.slice (some ⟨g, o, none⟩) n c]).run P w = .ok (.tuple #[]) (w.setRow g (cur.toList.take o ++ (Builtin.zeroCells z.cells n).toList ++ cur.toList.drop (o + (Builtin.zeroCells z.cells n).toList.length)).toArray) := by
  have hst := run_storeCells_at P g o te (Builtin.zeroCells z.cells n).toList 0 cur w hg (by simpa using hfit) h1
  simp only [Nat.add_zero] at hst
  obtain ⟨m, rfl⟩ : ∃ m, n = m + 1 := ⟨n - 1, by omega⟩
  simp [Builtin.clear_, run_underlying ht, hv, hst]
end

section
variable {w : World} {base : Nat} {e : TypeId} {size n c : Nat} {xs : List Value}
/-- one store into a row of the call's own -/
theorem own_set1 {g k : Nat} (h : w.ownsRow base e size (.slice (some ⟨g, 0, none⟩) n c) n xs) (hk : k < xs.length) (v : Value) :
    (w.setCell ⟨g, k, none⟩ v).ownsRow base e size (.slice (some ⟨g, 0, none⟩) n c) n (xs.set k v) := by
  refine ⟨by simpa using h.1, ?_⟩
  rcases h.2 with ⟨hv, _⟩ | ⟨g', cap, cur, hv, hb, hg, hnc, hcm, hcs, ht⟩
  · cases hv
  · injection hv with e1 e2 e3
    injection e1 with e1
    injection e1 with e1
    subst e1; subst e3
    have hkc : k < cur.size := by
      have h2 := h.1
      have : n * size ≤ c * size := Nat.mul_le_mul_right _ hnc
      omega
    refine .inr ⟨g, c, cur.set! k v, rfl, hb, ?_, hnc, hcm, by simpa using hcs, ?_⟩
    · rw [setCell_eq_setRow w g k cur e (0, 0) v hg]
      first | exact setRow_heap _ _ _ _ _ _ hg | simpa using setRow_heap _ _ _ _ _ _ hg
    · rw [← ht]
      simp
      rw [List.take_set]
theorem own_slice_g {g : Nat} (h : w.ownsRow base e size (.slice (some ⟨g, 0, none⟩) n c) n xs) : base ≤ g ∧ g < w.heap.size ∧ (∀ i, w.frozen? ⟨g, i, none⟩ = false) ∧ ∀ j u, xs[j]? = some u → w.cell? ⟨g, j, none⟩ = some u := by
  have hc := World.ownsRow.cells h (g := g) rfl
  rcases h.2 with ⟨hv, _⟩ | ⟨g', cap, cur, hv, hb, hg, hnc, hcm, hcs, ht⟩
  · cases hv
  · injection hv with e1 e2 e3
    injection e1 with e1
    injection e1 with e1
    subst e1; subst e3
    refine ⟨hb, ?_, fun i => by simp [World.frozen?, hg], fun j u hu => ?_⟩
    · rcases Nat.lt_or_ge g w.heap.size with hlt | hge
      · exact hlt
      · rw [Array.getElem?_eq_none hge] at hg; cases hg
    · have := hc j u hu
      rwa [addr_add, Nat.zero_add] at this
theorem own_below {w w' : World} {B e size n : Nat} {v : Value} {xs : List Value} (h : w.ownsRow B e size v n xs) (hb : Below w.heap.size w w') : w'.ownsRow B e size v n xs := by
  obtain ⟨h1, h2⟩ := h
  refine ⟨h1, ?_⟩
  rcases h2 with h2 | ⟨g, cap, cur, hv, hg, hh, hr⟩
  · exact .inl h2
  · refine .inr ⟨g, cap, cur, hv, hg, ?_, hr⟩
    have hlt : g < w.heap.size := by
      rcases Nat.lt_or_ge g w.heap.size with hlt | hge
      · exact hlt
      · rw [Array.getElem?_eq_none hge] at hh; cases hh
    rw [hb.block g hlt]
    exact hh
theorem own_keep {w' : World} {B : Nat} (h : w.ownsRow base e size (.slice (some ⟨B, 0, none⟩) n c) n xs) (hk : w'.heap[B]? = w.heap[B]?) : w'.ownsRow base e size (.slice (some ⟨B, 0, none⟩) n c) n xs := by
  obtain ⟨h1, h2⟩ := h
  refine ⟨h1, ?_⟩
  rcases h2 with h2 | ⟨g, cap, cur, hv, hg, hh, hr⟩
  · exact .inl h2
  · refine .inr ⟨g, cap, cur, hv, hg, ?_, hr⟩
    injection hv with e1
    injection e1 with e1
    injection e1 with e1
    subst e1
    rw [hk]; exact hh
end

/-- a function that is entered where it is called -/
def Ent (P : Program) (F : FuncId) : Prop := ∀ args w, (callFunc F args).run P w = .ok (.enter F args) w
theorem Ent.of {P : Program} {F : FuncId} (h : ((P.funcs[F]?).map fun f => (f.name == "runtime.NumGoroutine", f.body.isSome)) = some (false, true)) : Ent P F := by
  intro args w
  cases hf : P.funcs[F]? with
  | none => rw [hf] at h; simp at h
  | some fn =>
    rw [hf] at h
    simp only [Option.map_some, Option.some.injEq, Prod.mk.injEq] at h
    have h1 : fn.name ≠ "runtime.NumGoroutine" := by simpa using h.1
    cases hb : fn.body with
    | none => rw [hb] at h; simp at h
    | some c => simp [callFunc, hf, h1, hb]

/-- append as one step of a region that draws -/
theorem step_app {P : Program} {w : World} {ops : Array Oper} {o : Oper} {a : Act} {K : Act → World → Prop} {Q : Exit → Act → World → Prop} {Z : Prop} (hgd : o.guard = none) (s x : Operand) {t e : TypeId} {size bytes : Nat}
    (ho : o.op = .call { callee := .builtin .append, args := #[s, x], argTypes := #[t, t] }) (E : Elem P t e size bytes) {base n m c d : Nat} {A B : Option Addr} {xs news : List Value}
    (hs : a.eval s = .slice A n c) (hx : a.eval x = .slice B m d)
    (hown : w.ownsRow base e size (.slice A n c) n xs) (hl : news.length = m * size) (hr : Sl w B news) (h1 : ∀ u ∈ news, u.oneCell' = true)
    (h63 : n + m ≤ maxLen) (hb : (n + m) * bytes ≤ 140737488355328) (hbase : base ≤ w.heap.size)
    (h : ∀ A' c' w', w'.ownsRow base e size (.slice A' (n + m) c') (n + m) (xs ++ news) → w.grownBy w' (Value.slice A n c).ownBlock → Below base w w' → K (a.put o.dst (.slice A' (n + m) c')) w') :
    if Region.wanted o (yielded ops a.tmps) = true then Oper.wp P o a w K Q else Z := by
  have hw : Region.wanted o (yielded ops a.tmps) = true := by simp [Region.wanted, hgd]
  rw [if_pos hw]
  exact wp_app s x ho E hs hx hown hl hr h1 h63 hb hbase h
theorem own_base {w : World} {base base' e size n : Nat} {v : Value} {xs : List Value} (h : w.ownsRow base e size v n xs) (hb : base' ≤ base) : w.ownsRow base' e size v n xs := by
  obtain ⟨h1, h2⟩ := h
  refine ⟨h1, ?_⟩
  rcases h2 with h2 | ⟨g, cap, cur, hv, hg, hr⟩
  · exact .inl h2
  · exact .inr ⟨g, cap, cur, hv, Nat.le_trans hb hg, hr⟩

/-! rows of elements of one number of cells -/
def rc {α : Type} (f : α → List Value) (l : List α) : List Value := (l.map f).flatten
section
variable {α : Type} {f : α → List Value} {m : Nat}
theorem rc_nil : rc f [] = [] := rfl
theorem rc_cons (a : α) (l : List α) : rc f (a :: l) = f a ++ rc f l := by simp [rc]
theorem rc_append (a b : List α) : rc f (a ++ b) = rc f a ++ rc f b := by simp [rc]
theorem rc_length (hf : ∀ a, (f a).length = m) (l : List α) : (rc f l).length = l.length * m := by
  induction l with
  | nil => simp [rc]
  | cons a l ih => rw [rc_cons, List.length_append, ih, hf, List.length_cons, Nat.add_mul]; omega
theorem rc_one (h1 : ∀ a, ∀ u ∈ f a, u.oneCell' = true) (l : List α) : ∀ u ∈ rc f l, u.oneCell' = true := by
  intro u hu
  simp only [rc, List.mem_flatten, List.mem_map] at hu
  obtain ⟨_, ⟨g, _, rfl⟩, hu⟩ := hu
  exact h1 g u hu
theorem rc_at (hf : ∀ a, (f a).length = m) : ∀ (l : List α) (k : Nat) (h : k < l.length) (j : Nat), j < m → (rc f l)[k * m + j]? = (f l[k])[j]? := by
  intro l
  induction l with
  | nil => intro k h; simp at h
  | cons a l ih =>
    intro k h j hj
    rw [rc_cons]
    cases k with
    | zero => rw [List.getElem?_append_left (by rw [hf]; omega)]; simp
    | succ k =>
      rw [List.getElem?_append_right (by rw [hf, Nat.add_mul]; omega), hf, show (k + 1) * m + j - m = k * m + j from by rw [Nat.add_mul]; omega]
      rw [ih k (by simpa using h) j hj]
      simp
theorem rc_take (hf : ∀ a, (f a).length = m) (l : List α) (k : Nat) : (rc f l).take (k * m) = rc f (l.take k) := by
  induction l generalizing k with
  | nil => simp [rc]
  | cons a l ih =>
    cases k with
    | zero => simp [rc]
    | succ k =>
      rw [rc_cons, List.take_succ_cons, rc_cons, List.take_append, hf, show (k + 1) * m - m = k * m from by rw [Nat.add_mul]; omega, ih, List.take_of_length_le (by rw [hf, Nat.add_mul]; omega)]
theorem rc_drop (hf : ∀ a, (f a).length = m) (l : List α) (k : Nat) : (rc f l).drop (k * m) = rc f (l.drop k) := by
  induction l generalizing k with
  | nil => simp [rc]
  | cons a l ih =>
    cases k with
    | zero => simp [rc]
    | succ k =>
      rw [rc_cons, List.drop_succ_cons, List.drop_append, hf, show (k + 1) * m - m = k * m from by rw [Nat.add_mul]; omega, ih, List.drop_eq_nil_of_le (by rw [hf, Nat.add_mul]; omega), List.nil_append]
/-- the cells of one element, wherever the row lies -/
theorem Sl.elem {w : World} {A : Option Addr} {l : List α} (hf : ∀ a, (f a).length = m) (hm : 0 < m) (h : Sl w A (rc f l)) {k : Nat} (hk : k < l.length) :
    ∃ b o, A = some ⟨b, o, none⟩ ∧ b < w.heap.size ∧ ∀ j u, (f l[k])[j]? = some u → w.cell? ⟨b, o + k * m + j, none⟩ = some u := by
  have hlen := rc_length hf l
  have hpos : k * m + 0 < (rc f l).length := by
    rw [hlen]
    have : (k + 1) * m ≤ l.length * m := Nat.mul_le_mul_right _ hk
    rw [Nat.add_mul] at this
    omega
  obtain ⟨b, o, hA, hc⟩ := h (by intro e; rw [e] at hpos; simp at hpos)
  have hg : ∀ j u, (f l[k])[j]? = some u → w.cell? ⟨b, o + k * m + j, none⟩ = some u := by
    intro j u hu
    have hj : j < m := by
      have := (List.getElem?_eq_some_iff.1 hu).1
      rwa [hf] at this
    rw [Nat.add_assoc]
    exact hc _ _ ((rc_at hf l k hk j hj).trans hu)
  have hmem := hc (k * m + 0) _ (List.getElem?_eq_getElem hpos)
  exact ⟨b, o, hA, World.block_lt_of_cell? _ _ hmem, hg⟩
end

theorem shift_row {α : Type} (cur x D XS : List α) (p q N C : Nat) (hC : cur.length = C) (hNC : N + x.length ≤ C) (hq : q = p + x.length) (hp : q ≤ N) (hXS : cur.take N = XS) (hD : D = XS.drop p) :
    ((splice cur q D).take p ++ x ++ (splice cur q D).drop (p + x.length)).length = C ∧
    ((splice cur q D).take p ++ x ++ (splice cur q D).drop (p + x.length)).take (N + x.length) = XS.take p ++ (x ++ D) := by
  subst hq
  have hXl : XS.length = N := by rw [← hXS, List.length_take]; omega
  have hDl : D.length = N - p := by rw [hD, List.length_drop, hXl]
  have e1 : (splice cur (p + x.length) D).take p = XS.take p := by
    unfold splice
    rw [List.take_append_of_le_length (by rw [List.length_take]; omega), List.take_take, ← hXS, List.take_take]
    congr 1
    omega
  have e2 : (splice cur (p + x.length) D).drop (p + x.length) = D ++ cur.drop (p + x.length + D.length) := by
    unfold splice
    rw [List.drop_append, List.drop_eq_nil_of_le (by rw [List.length_take]; omega), List.length_take, Nat.min_eq_left (by omega), Nat.sub_self, List.drop_zero, List.nil_append]
  rw [e1, e2]
  constructor
  · simp only [List.length_append, List.length_take, List.length_drop, hXl, hDl, hC]
    omega
  · rw [List.append_assoc, ← List.append_assoc x, ← List.append_assoc (XS.take p)]
    rw [List.take_append_of_le_length (by simp only [List.length_append, List.length_take, hXl, hDl]; omega)]
    exact List.take_of_length_le (by simp only [List.length_append, List.length_take, hXl, hDl]; omega)

theorem grow_row {α : Type} (ROW x D XS : List α) (p q C : Nat) (hC : ROW.length = C) (hq : q = p + x.length) (hfit : q + D.length ≤ C) (hXS : ROW.take p = XS.take p) :
    (splice (ROW.take p ++ x ++ ROW.drop (p + x.length)) q D).length = C ∧ (splice (ROW.take p ++ x ++ ROW.drop (p + x.length)) q D).take (q + D.length) = XS.take p ++ (x ++ D) := by
  subst hq
  have h1 : (ROW.take p ++ x).length = p + x.length := by rw [List.length_append, List.length_take]; omega
  have e1 : (ROW.take p ++ x ++ ROW.drop (p + x.length)).take (p + x.length) = XS.take p ++ x := by
    rw [List.take_append_of_le_length (by omega), List.take_of_length_le (by omega), hXS]
  have h2 : (ROW.take p ++ x ++ ROW.drop (p + x.length)).length = C := by rw [List.length_append, h1, List.length_drop]; omega
  constructor
  · rw [length_splice _ _ _ (by rw [h2]; exact hfit), h2]
  · unfold splice
    rw [e1, ← List.append_assoc, List.take_append_of_le_length (by rw [List.length_append, ← hXS, h1]; exact Nat.le_refl _), List.take_of_length_le (by rw [List.length_append, ← hXS, h1]; exact Nat.le_refl _), List.append_assoc]
theorem zeroCells_size (cs : Array Value) (k : Nat) (h : cs.size ≠ 0) : (Builtin.zeroCells cs k).size = k * cs.size := by
  simp [Builtin.zeroCells, h]

theorem zeroCells_one (cs : Array Value) (k : Nat) (h0 : 0 < cs.size) (h : ∀ u ∈ cs, u.oneCell' = true) : ∀ v ∈ (Builtin.zeroCells cs k).toList, v.oneCell' = true := by
  intro v hv
  rw [Array.mem_toList_iff] at hv
  unfold Builtin.zeroCells at hv
  simp only [Array.mem_map] at hv
  obtain ⟨i, hi, rfl⟩ := hv
  rw [getElem!_pos cs (i % cs.size) (Nat.mod_lt _ h0)]
  exact h _ (Array.getElem_mem _)

/-! plain mathematics: a table's words -/
section
variable {α : Type}
theorem filter_snoc (p : α → Bool) (l : List α) (k : Nat) (h : k < l.length) : (l.take (k + 1)).filter p = (l.take k).filter p ++ if p l[k] = true then [l[k]] else [] := by
  rw [List.take_succ_eq_append_getElem h, List.filter_append]
  congr 1
  cases hq : p l[k] <;> simp [List.filter_cons, hq]
theorem filter_none {p : α → Bool} {l : List α} (h : ∀ j, (hj : j < l.length) → p l[j] = false) : l.filter (fun g => !p g) = l := by
  rw [List.filter_eq_self]
  intro x hx
  obtain ⟨j, hj, rfl⟩ := List.getElem_of_mem hx
  rw [h j hj]; rfl
theorem filter_head {p : α → Bool} {l : List α} {k : Nat} (hk : k < l.length) (h : ∀ j, (hj : j < k) → p (l[j]'(by omega)) = false) (he : p l[k] = true) : (l.take (k + 1)).filter (fun g => !p g) = l.take k := by
  rw [filter_snoc _ _ _ hk, he]
  simp only [Bool.not_true, Bool.false_eq_true, if_false, List.append_nil]
  refine filter_none fun j hj => ?_
  rw [List.getElem_take]
  exact h j (by simp at hj; omega)
theorem set_take_snoc {l : List α} {k : Nat} {a : α} (h : k < l.length) : (l.set k a).take (k + 1) = l.take k ++ [a] := by
  rw [List.take_succ_eq_append_getElem (by simpa using h), List.getElem_set_self, List.take_set_of_le (Nat.le_refl _)]
theorem set_get_above {l : List α} {k t : Nat} {a : α} (h : k < t) : (l.set k a)[t]? = l[t]? := by
  rw [List.getElem?_set_ne (by omega)]
def atL (p : α → Bool) (l : List α) : Int := match l.findIdx? p with | some k => (k : Int) | none => -1
theorem atL_cases (p : α → Bool) (l : List α) : (atL p l = -1 ∧ ∀ j, (hj : j < l.length) → p l[j] = false) ∨
    ∃ k : Nat, ∃ hk : k < l.length, atL p l = k ∧ p l[k] = true ∧ ∀ j, (hj : j < k) → p l[j] = false := by
  rcases h : l.findIdx? p with _ | k
  · left
    have e : atL p l = -1 := by unfold atL; rw [h]
    rw [List.findIdx?_eq_none_iff] at h
    exact ⟨e, fun j hj => h _ (List.getElem_mem hj)⟩
  · right
    have e : atL p l = k := by unfold atL; rw [h]
    rw [List.findIdx?_eq_some_iff_getElem] at h
    obtain ⟨hk, h1, h2⟩ := h
    exact ⟨k, hk, e, h1, fun j hj => by simpa using h2 j hj⟩
theorem atL_none {p : α → Bool} {l : List α} (h : ∀ j, (hj : j < l.length) → p l[j] = false) : atL p l = -1 := by
  rcases atL_cases p l with ⟨h1, _⟩ | ⟨k, hk, _, h2, _⟩
  · exact h1
  · rw [h k hk] at h2; cases h2
theorem atL_some {p : α → Bool} {l : List α} {k : Nat} (hk : k < l.length) (h : ∀ j, (hj : j < k) → p l[j] = false) (he : p l[k] = true) : atL p l = k := by
  rcases atL_cases p l with ⟨_, h1⟩ | ⟨k', hk', h1, h2, h3⟩
  · rw [h1 k hk] at he; cases he
  · rcases Nat.lt_trichotomy k k' with h4 | h4 | h4
    · rw [h3 k h4] at he; cases he
    · rw [h1, h4]
    · rw [h k' h4] at h2; cases h2
/-- the first that is told of, or the zero -/
def pickL (p : α → Bool) (z : α) (l : List α) : α := (l.find? p).getD z
theorem find_none {p : α → Bool} {l : List α} (h : ∀ j, (hj : j < l.length) → p l[j] = false) : l.find? p = none := by
  rw [List.find?_eq_none]
  intro x hx
  obtain ⟨j, hj, rfl⟩ := List.getElem_of_mem hx
  rw [h j hj]; decide
theorem find_some {p : α → Bool} {l : List α} {k : Nat} (hk : k < l.length) (h : ∀ j, (hj : j < k) → p (l[j]'(by omega)) = false) (he : p l[k] = true) : l.find? p = some l[k] := by
  rw [List.find?_eq_some_iff_getElem]
  exact ⟨he, k, hk, rfl, fun j hj => by rw [h j hj]; rfl⟩
def putL (ah : α → α → Bool) (l : List α) (x : α) : List α :=
  match l.findIdx? (fun y => !ah y x) with
  | none => l ++ [x]
  | some k => match l[k]? with
    | none => l ++ [x]
    | some y => if ah x y then l.take k ++ x :: l.drop k else l.set k x
theorem putL_none {ah : α → α → Bool} {l : List α} {x : α} (h : ∀ j, (hj : j < l.length) → (!ah l[j] x) = false) : putL ah l x = l ++ [x] := by
  have : l.findIdx? (fun y => !ah y x) = none := by
    rw [List.findIdx?_eq_none_iff]
    intro y hy
    obtain ⟨j, hj, rfl⟩ := List.getElem_of_mem hy
    exact h j hj
  rw [putL, this]
theorem putL_some {ah : α → α → Bool} {l : List α} {x : α} {k : Nat} (hk : k < l.length) (h : ∀ j, (hj : j < k) → (!ah l[j] x) = false) (he : (!ah l[k] x) = true) :
    putL ah l x = if ah x l[k] then l.take k ++ x :: l.drop k else l.set k x := by
  have : l.findIdx? (fun y => !ah y x) = some k := by
    rw [List.findIdx?_eq_some_iff_getElem]
    refine ⟨hk, he, fun j hj => ?_⟩
    rw [h j hj]; decide
  rw [putL, this]
  simp only [List.getElem?_eq_getElem hk]
theorem putL_length (ah : α → α → Bool) (l : List α) (x : α) : (putL ah l x).length ≤ l.length + 1 := by
  unfold putL
  split
  · simp
  · split
    · simp
    · split
      · simp; omega
      · simp
def risingL (ah : α → α → Bool) : List α → Bool
  | a :: b :: r => ah a b && risingL ah (b :: r)
  | _ => true
theorem risingL_iff (ah : α → α → Bool) : ∀ (l : List α), risingL ah l = true ↔ ∀ k, (h : k + 1 < l.length) → ah (l[k]'(by omega)) l[k + 1] = true
  | [] => by simp [risingL]
  | [a] => by simp [risingL]
  | a :: b :: r => by
    have ih := risingL_iff ah (b :: r)
    simp only [risingL, Bool.and_eq_true, ih]
    constructor
    · rintro ⟨h0, h⟩ k hk
      cases k with
      | zero => simpa using h0
      | succ k => have := h k (by simpa using hk); simpa using this
    · intro h
      refine ⟨by simpa using h 0 (by simp), fun k hk => ?_⟩
      have := h (k + 1) (by simpa using hk)
      simpa using this
theorem risingL_false {ah : α → α → Bool} {l : List α} {k : Nat} (h : k + 1 < l.length) (hn : ah (l[k]'(by omega)) l[k + 1] = false) : risingL ah l = false := by
  cases hr : risingL ah l with
  | false => rfl
  | true => rw [(risingL_iff ah l).1 hr k h] at hn; cases hn
end
end Go.Proofs.Ytpmnjojednbnpaa
