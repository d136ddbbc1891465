/-
  An append that tells where its row lies; rows of one type apart; stores elsewhere.
-/
import Derived.Test.YtpmnjojednbnpaaRow
namespace Go.Proofs.Ytpmnjojednbnpaa
open Go.ChangeShapes Go.WideShapes Go.ChangeAt Go.RowKit
set_option linter.unusedVariables false
set_option linter.unusedSimpArgs false

section
variable {P : Program} {w : World}
/-- an append of at least one thing: the row lies where it lay, or in the newest block -/
theorem run_app2 {t ty e : TypeId} {size bytes : Nat} (E : Elem P t e size bytes) {base n m c d : Nat} {A B : Option Addr} {xs news : List Value}
    (hown : w.ownsRow base e size (.slice A n c) n xs) (hl : news.length = m * size) (hm : 0 < m) (hr : Sl w B news) (h1 : ∀ u ∈ news, u.oneCell' = true)
    (h63 : n + m ≤ maxLen) (hb : (n + m) * bytes ≤ 140737488355328) (hbase : base ≤ w.heap.size) :
    ∃ A' c' w', (Builtin.append_ #[t, t] ty #[.slice A n c, .slice B m d]).run P w = .ok (.slice A' (n + m) c') w' ∧ w'.ownsRow base e size (.slice A' (n + m) c') (n + m) (xs ++ news) ∧
      w.grownBy w' (Value.slice A n c).ownBlock ∧ ((Value.slice A' (n + m) c').ownBlock = (Value.slice A n c).ownBlock ∨ (Value.slice A' (n + m) c').ownBlock = some w.heap.size) ∧ Below base w w' := by
  obtain ⟨i, z, hi, hz, hsize, hby, hzs⟩ := E.info
  have hne : news ≠ [] := by
    intro h0
    rw [h0, List.length_nil] at hl
    rcases Nat.mul_eq_zero.1 hl.symm with h | h
    · omega
    · have := E.pos; omega
  obtain ⟨b, o, rfl, hc⟩ := hr hne
  obtain ⟨v', w', hrun, h2, h3, _, h5⟩ := run_append_own_at (P := P) w base t ty e i z size bytes E.und hi hz hsize hby hzs E.pos _ n xs hown ⟨b, o, none⟩ m d news hl
    (fun j u hu => by rw [addr_add]; exact hc j u hu) h1 h63 hb hbase
  obtain ⟨A', c', rfl⟩ := own_form h2
  exact ⟨A', c', w', hrun, h2, h3, h5, below_of_grown h3 hbase (own_ge hown)⟩
theorem wpList_app2 {ops : Array Oper} {rest : List Oper} {o : Oper} {a : Act} {Q : Exit → Act → World → Prop} (hgd : o.guard = none) (s x : Operand) {t e : TypeId} {size bytes : Nat}
    (ho : o.op = .call { callee := .builtin .append, args := #[s, x], argTypes := #[t, t] }) (E : Elem P t e size bytes) {base n m c d : Nat} {A B : Option Addr} {xs news : List Value}
    (hs : a.eval s = .slice A n c) (hx : a.eval x = .slice B m d)
    (hown : w.ownsRow base e size (.slice A n c) n xs) (hl : news.length = m * size) (hm : 0 < m) (hr : Sl w B news) (h1 : ∀ u ∈ news, u.oneCell' = true)
    (h63 : n + m ≤ maxLen) (hb : (n + m) * bytes ≤ 140737488355328) (hbase : base ≤ w.heap.size)
    (h : ∀ A' c' w', w'.ownsRow base e size (.slice A' (n + m) c') (n + m) (xs ++ news) → w.grownBy w' (Value.slice A n c).ownBlock → ((Value.slice A' (n + m) c').ownBlock = (Value.slice A n c).ownBlock ∨ (Value.slice A' (n + m) c').ownBlock = some w.heap.size) → Below base w w' → wpList P ops Q rest (a.put o.dst (.slice A' (n + m) c')) w') :
    wpList P ops Q (o :: rest) a w :=
  wpList_plain hgd fun _ hK => by
    obtain ⟨A', c', w', hrun, h2, h3, h5, h4⟩ := run_app2 (P := P) (w := w) (ty := o.type) E (d := d) hown hl hm hr h1 h63 hb hbase
    unfold Oper.wp execOp
    simp only [ho, resolve, invoke, builtin, Sem.run_bind, Sem.run_pure, Result.andThen_ok, List.map_toArray, List.map_cons, List.map_nil, hs, hx, hrun]
    exact hK _ _ (h A' c' w' h2 h3 h5 h4)
end
/-- two rows lie in different blocks -/
def Apart (v u : Value) : Prop := ∀ g, v.ownBlock = some g → u.ownBlock ≠ some g
theorem Apart.symm {v u : Value} (h : Apart v u) : Apart u v := fun g h1 h2 => h g h2 h1
theorem Apart.none (u : Value) : Apart (.slice none 0 0) u := fun g h => by simp [Value.ownBlock] at h
/-- a row that grew is apart from what it was apart from -/
theorem Apart.grow {w : World} {base e size n : Nat} {v v' u : Value} {xs : List Value} (h : Apart v u) (hu : w.ownsRow base e size u n xs) (hv : v'.ownBlock = v.ownBlock ∨ v'.ownBlock = some w.heap.size) : Apart v' u := by
  intro g h1 h2
  rcases hv with hv | hv
  · exact h g (hv ▸ h1) h2
  · rw [hv] at h1
    injection h1 with h1
    subst h1
    rcases hu.2 with ⟨rfl, _⟩ | ⟨g', cap, cur, rfl, _, hh, _⟩
    · simp [Value.ownBlock] at h2
    · simp only [Value.ownBlock, Option.some.injEq] at h2
      subst h2
      rw [Array.getElem?_eq_none (Nat.le_refl _)] at hh
      cases hh
theorem own_apart {w w' : World} {base e size n : Nat} {v u : Value} {xs : List Value} (hu : w.ownsRow base e size u n xs) (h : Apart v u) (hg : w.grownBy w' v.ownBlock) : w'.ownsRow base e size u n xs := by
  refine hu.kept hg ?_
  rcases hu.2 with ⟨rfl, _⟩ | ⟨g, cap, cur, rfl, _, hh, _⟩
  · exact .inl rfl
  · right
    intro e
    exact h g e.symm (by simp [Value.ownBlock])

section
variable {P : Program} {w : World}
theorem step_app2 {ops : Array Oper} {o : Oper} {a : Act} {K : Act → World → Prop} {Q : Exit → Act → World → Prop} {Z : Prop} (hgd : o.guard = none) (s x : Operand) {t e : TypeId} {size bytes : Nat}
    (ho : o.op = .call { callee := .builtin .append, args := #[s, x], argTypes := #[t, t] }) (E : Elem P t e size bytes) {base n m c d : Nat} {A B : Option Addr} {xs news : List Value}
    (hs : a.eval s = .slice A n c) (hx : a.eval x = .slice B m d)
    (hown : w.ownsRow base e size (.slice A n c) n xs) (hl : news.length = m * size) (hm : 0 < m) (hr : Sl w B news) (h1 : ∀ u ∈ news, u.oneCell' = true)
    (h63 : n + m ≤ maxLen) (hb : (n + m) * bytes ≤ 140737488355328) (hbase : base ≤ w.heap.size)
    (h : ∀ A' c' w', w'.ownsRow base e size (.slice A' (n + m) c') (n + m) (xs ++ news) → w.grownBy w' (Value.slice A n c).ownBlock → ((Value.slice A' (n + m) c').ownBlock = (Value.slice A n c).ownBlock ∨ (Value.slice A' (n + m) c').ownBlock = some w.heap.size) → Below base w w' → K (a.put o.dst (.slice A' (n + m) c')) w') :
    if Region.wanted o (yielded ops a.tmps) = true then Oper.wp P o a w K Q else Z := by
  have hw : Region.wanted o (yielded ops a.tmps) = true := by simp [Region.wanted, hgd]
  rw [if_pos hw]
  obtain ⟨A', c', w', hrun, h2, h3, h5, h4⟩ := run_app2 (P := P) (w := w) (ty := o.type) E (d := d) hown hl hm hr h1 h63 hb hbase
  unfold Oper.wp execOp
  simp only [ho, resolve, invoke, builtin, Sem.run_bind, Sem.run_pure, Result.andThen_ok, List.map_toArray, List.map_cons, List.map_nil, hs, hx, hrun]
  exact h A' c' w' h2 h3 h5 h4
end
/-- a row of the call's own is kept by a store elsewhere -/
theorem own_far1 {w : World} {base e size n : Nat} {v : Value} {xs : List Value} (h : w.ownsRow base e size v n xs) {p : Addr} (hp : v.ownBlock ≠ some p.block) (u : Value) : (w.setCell p u).ownsRow base e size v n xs := by
  obtain ⟨h1, h2⟩ := h
  refine ⟨h1, ?_⟩
  rcases h2 with h2 | ⟨g, cap, cur, hv, hg, hh, hr⟩
  · exact .inl h2
  · refine .inr ⟨g, cap, cur, hv, hg, ?_, hr⟩
    rw [Below.heap_setCell]
    · exact hh
    · intro e
      subst hv
      subst e
      exact hp rfl
/-- a row does not lie in a block of another type -/
theorem own_type {w : World} {base e size n g t : Nat} {v : Value} {xs : List Value} {cs : Array Value} {fr : Nat × Nat} (h : w.ownsRow base e size v n xs) (hg : w.heap[g]? = some (.cells cs t fr)) (hne : e ≠ t) : v.ownBlock ≠ some g := by
  rcases h.2 with ⟨rfl, _⟩ | ⟨g', cap, cur, rfl, _, hh, _⟩
  · simp [Value.ownBlock]
  · simp only [Value.ownBlock, ne_eq, Option.some.injEq]
    intro e1
    subst e1
    rw [hg] at hh
    injection hh with hh
    injection hh with _ e2
    exact hne e2.symm
theorem Bk.grown {w w' : World} {b : Nat} {cs : Array Value} {row : Option Nat} (h : Bk w b cs) (hg : w.grownBy w' row) (hne : row ≠ some b) : Bk w' b cs := by
  have hk := hg.block b h.1 (fun e => hne e.symm)
  exact ⟨Nat.lt_of_lt_of_le h.1 hg.size, fun o => (World.cell?_of_block (a := ⟨b, o, none⟩) hk).trans (h.2 o)⟩
theorem Bk.far1 {w : World} {b : Nat} {cs : Array Value} (h : Bk w b cs) {p : Addr} (hp : p.block ≠ b) (u : Value) : Bk (w.setCell p u) b cs := by
  refine ⟨by simpa using h.1, fun o => ?_⟩
  rw [cell_set, if_neg (fun e => hp (by rw [e]))]
  exact h.2 o
end Go.Proofs.Ytpmnjojednbnpaa
