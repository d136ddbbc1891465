import Derived.Test.YtiggcpfmmgmncaaSp01
section
namespace Go.Proofs.Ytiggcpfmmgmncaa
open Go.ChangeShapes Go.WideShapes Go.ChangeAt Go.RowKit
set_option linter.unusedVariables false
set_option linter.unusedSimpArgs false

def bign : Nat → Nat → List Nat
  | 0, _ => []
  | s + 1, n => bign s (n / 256) ++ [n % 256]
def bnum (l : List Nat) : Nat := l.foldl (fun a c => 256 * a + c) 0
theorem bign_len : ∀ s n, (bign s n).length = s
  | 0, _ => rfl
  | s + 1, n => by rw [bign, List.length_append, bign_len s]; rfl
theorem bign_oct : ∀ s n, Oct (bign s n)
  | 0, _ => fun x hx => by cases hx
  | s + 1, n => (bign_oct s (n / 256)).app fun x hx => by simp at hx; omega
theorem bnum_snoc (l : List Nat) (c : Nat) : bnum (l ++ [c]) = 256 * bnum l + c := by simp [bnum]
theorem bnum_bign : ∀ s n, n < 256 ^ s → bnum (bign s n) = n
  | 0, n, h => by
    have : n = 0 := by simpa using h
    subst this
    rfl
  | s + 1, n, h => by
    rw [bign, bnum_snoc, bnum_bign s (n / 256) (by rw [Nat.pow_succ] at h; exact Nat.div_lt_of_lt_mul (by rw [Nat.mul_comm]; exact h))]
    omega
theorem bnum_lt {l : List Nat} (h : Oct l) : bnum l < 256 ^ l.length := by
  have key : ∀ m : List Nat, Oct m.reverse → bnum m.reverse < 256 ^ m.reverse.length := by
    intro m
    induction m with
    | nil => intro _; decide
    | cons c m ih =>
      intro h
      rw [List.reverse_cons] at h ⊢
      have h1 := ih fun x hx => h x (List.mem_append_left _ hx)
      have h2 := h c (by simp)
      rw [bnum_snoc, List.length_append, List.length_singleton, Nat.pow_succ]
      omega
  have := key l.reverse (by rw [List.reverse_reverse]; exact h)
  rwa [List.reverse_reverse] at this
theorem bign_bnum {l : List Nat} (h : Oct l) : bign l.length (bnum l) = l := by
  have key : ∀ m : List Nat, Oct m.reverse → bign m.reverse.length (bnum m.reverse) = m.reverse := by
    intro m
    induction m with
    | nil => intro _; rfl
    | cons c m ih =>
      intro h
      rw [List.reverse_cons] at h ⊢
      have h1 := ih fun x hx => h x (List.mem_append_left _ hx)
      have h2 := h c (by simp)
      rw [bnum_snoc, List.length_append, List.length_singleton, bign]
      have e1 : (256 * bnum m.reverse + c) / 256 = bnum m.reverse := by omega
      have e2 : (256 * bnum m.reverse + c) % 256 = c := by omega
      rw [e1, e2, h1]
  have := key l.reverse (by rw [List.reverse_reverse]; exact h)
  rwa [List.reverse_reverse] at this
theorem bign_at : ∀ (s n j : Nat) (h : j < (bign s n).length), (bign s n)[j] = n / 256 ^ (s - 1 - j) % 256
  | 0, _, _, h => absurd h (by simp [bign])
  | s + 1, n, j, h => by
    simp only [bign]
    by_cases hj : j < (bign s (n / 256)).length
    · rw [List.getElem_append_left hj, bign_at s (n / 256) j hj]
      rw [bign_len] at hj
      rw [Nat.div_div_eq_div_mul, show s + 1 - 1 - j = (s - 1 - j) + 1 by omega, Nat.pow_succ, Nat.mul_comm 256]
    · have hj2 : j = s := by
        rw [bign_len] at hj h
        omega
      subst hj2
      rw [List.getElem_append_right (by rw [bign_len]; exact Nat.le_refl _)]
      simp
structure Fr where
  life : Int
  era : Int
  seq : Int
  part : Int
  parts : Int
  data : List Nat
def Fr.ok (f : Fr) : Bool := decide (1 ≤ f.life) && decide (f.life ≤ 16777215) && decide (0 ≤ f.era) && decide (f.era ≤ 16777215) && decide (1 ≤ f.seq) && decide (f.seq ≤ 4294967295) && decide (1 ≤ f.parts) && decide (f.parts ≤ 255) && decide (0 ≤ f.part) && decide (f.part < f.parts) && decide (f.data.length ≤ 80)
theorem Fr.ok_iff (f : Fr) : f.ok = true ↔ 1 ≤ f.life ∧ f.life ≤ 16777215 ∧ 0 ≤ f.era ∧ f.era ≤ 16777215 ∧ 1 ≤ f.seq ∧ f.seq ≤ 4294967295 ∧ 1 ≤ f.parts ∧ f.parts ≤ 255 ∧ 0 ≤ f.part ∧ f.part < f.parts ∧ f.data.length ≤ 80 := by
  simp [Fr.ok, and_assoc]
def Fr.body (f : Fr) : List Nat := bign 3 f.life.toNat ++ bign 3 f.era.toNat ++ bign 4 f.seq.toNat ++ [f.part.toNat, f.parts.toNat, f.data.length] ++ f.data ++ List.replicate (80 - f.data.length) 0
theorem Fr.body_len {f : Fr} (h : f.data.length ≤ 80) : f.body.length = 93 := by
  simp [Fr.body, bign_len]; omega
end Go.Proofs.Ytiggcpfmmgmncaa
end
section
namespace Go.Proofs.Ytiggcpfmmgmncaa
open Go.ChangeShapes Go.WideShapes Go.ChangeAt Go.RowKit
set_option linter.unusedVariables false
set_option linter.unusedSimpArgs false

section
variable {P : Program} {w : World}
theorem run_app2 {t ty e : TypeId} {size bytes : Nat} (E : Elem P t e size bytes) {base n m c d : Nat} {A B : Option Addr} {xs news : List Value}
    (hown : w.ownsRow base e size (.slice A n c) n xs) (hl : news.length = m * size) (hm : 0 < m) (hr : Sl w B news) (h1 : ∀ u ∈ news, u.oneCell' = true)
    (h63 : n + m ≤ maxLen) (hb : (n + m) * bytes ≤ 140737488355328) (hbase : base ≤ w.heap.size) :
    ∃ A' c' w', (Builtin.append_ #[t, t] ty #[.slice A n c, .slice B m d]).run P w = .ok (.slice A' (n + m) c') w' ∧ w'.ownsRow base e size (.slice A' (n + m) c') (n + m) (xs ++ news) ∧
      w.grownBy w' (Value.slice A n c).ownBlock ∧ ((Value.slice A' (n + m) c').ownBlock = (Value.slice A n c).ownBlock ∨ (Value.slice A' (n + m) c').ownBlock = some w.heap.size) ∧ Below base w w' := by
  obtain ⟨i, z, hi, hz, hsize, hby, hzs⟩ := E.info
  have hne : news ≠ [] := by
    intro h0
    rw [h0, List.length_nil] at hl
    rcases Nat.mul_eq_zero.1 hl.symm with h | h
    · omega
    · have := E.pos; omega
  obtain ⟨b, o, rfl, hc⟩ := hr hne
  obtain ⟨v', w', hrun, h2, h3, _, h5⟩ := run_append_own_at (P := P) w base t ty e i z size bytes E.und hi hz hsize hby hzs E.pos _ n xs hown ⟨b, o, none⟩ m d news hl
    (fun j u hu => by rw [addr_add]; exact hc j u hu) h1 h63 hb hbase
  obtain ⟨A', c', rfl⟩ := own_form h2
  exact ⟨A', c', w', hrun, h2, h3, h5, below_of_grown h3 hbase (own_ge hown)⟩
theorem wpList_app2 {ops : Array Oper} {rest : List Oper} {o : Oper} {a : Act} {Q : Exit → Act → World → Prop} (hgd : o.guard = none) (s x : Operand) {t e : TypeId} {size bytes : Nat}
    (ho : o.op = .call { callee := .builtin .append, args := #[s, x], argTypes := #[t, t] }) (E : Elem P t e size bytes) {base n m c d : Nat} {A B : Option Addr} {xs news : List Value}
    (hs : a.eval s = .slice A n c) (hx : a.eval x = .slice B m d)
    (hown : w.ownsRow base e size (.slice A n c) n xs) (hl : news.length = m * size) (hm : 0 < m) (hr : Sl w B news) (h1 : ∀ u ∈ news, u.oneCell' = true)
    (h63 : n + m ≤ maxLen) (hb : (n + m) * bytes ≤ 140737488355328) (hbase : base ≤ w.heap.size)
    (h : ∀ A' c' w', w'.ownsRow base e size (.slice A' (n + m) c') (n + m) (xs ++ news) → w.grownBy w' (Value.slice A n c).ownBlock → ((Value.slice A' (n + m) c').ownBlock = (Value.slice A n c).ownBlock ∨ (Value.slice A' (n + m) c').ownBlock = some w.heap.size) → Below base w w' → wpList P ops Q rest (a.put o.dst (.slice A' (n + m) c')) w') :
    wpList P ops Q (o :: rest) a w :=
  wpList_plain hgd fun _ hK => by
    obtain ⟨A', c', w', hrun, h2, h3, h5, h4⟩ := run_app2 (P := P) (w := w) (ty := o.type) E (d := d) hown hl hm hr h1 h63 hb hbase
    unfold Oper.wp execOp
    simp only [ho, resolve, invoke, builtin, Sem.run_bind, Sem.run_pure, Result.andThen_ok, List.map_toArray, List.map_cons, List.map_nil, hs, hx, hrun]
    exact hK _ _ (h A' c' w' h2 h3 h5 h4)
end
def Apart (v u : Value) : Prop := ∀ g, v.ownBlock = some g → u.ownBlock ≠ some g
theorem Apart.symm {v u : Value} (h : Apart v u) : Apart u v := fun g h1 h2 => h g h2 h1
theorem Apart.none (u : Value) : Apart (.slice none 0 0) u := fun g h => by simp [Value.ownBlock] at h
section
variable {P : Program} {w : World}
theorem step_app2 {ops : Array Oper} {o : Oper} {a : Act} {K : Act → World → Prop} {Q : Exit → Act → World → Prop} {Z : Prop} (hgd : o.guard = none) (s x : Operand) {t e : TypeId} {size bytes : Nat}
    (ho : o.op = .call { callee := .builtin .append, args := #[s, x], argTypes := #[t, t] }) (E : Elem P t e size bytes) {base n m c d : Nat} {A B : Option Addr} {xs news : List Value}
    (hs : a.eval s = .slice A n c) (hx : a.eval x = .slice B m d)
    (hown : w.ownsRow base e size (.slice A n c) n xs) (hl : news.length = m * size) (hm : 0 < m) (hr : Sl w B news) (h1 : ∀ u ∈ news, u.oneCell' = true)
    (h63 : n + m ≤ maxLen) (hb : (n + m) * bytes ≤ 140737488355328) (hbase : base ≤ w.heap.size)
    (h : ∀ A' c' w', w'.ownsRow base e size (.slice A' (n + m) c') (n + m) (xs ++ news) → w.grownBy w' (Value.slice A n c).ownBlock → ((Value.slice A' (n + m) c').ownBlock = (Value.slice A n c).ownBlock ∨ (Value.slice A' (n + m) c').ownBlock = some w.heap.size) → Below base w w' → K (a.put o.dst (.slice A' (n + m) c')) w') :
    if Region.wanted o (yielded ops a.tmps) = true then Oper.wp P o a w K Q else Z := by
  have hw : Region.wanted o (yielded ops a.tmps) = true := by simp [Region.wanted, hgd]
  rw [if_pos hw]
  obtain ⟨A', c', w', hrun, h2, h3, h5, h4⟩ := run_app2 (P := P) (w := w) (ty := o.type) E (d := d) hown hl hm hr h1 h63 hb hbase
  unfold Oper.wp execOp
  simp only [ho, resolve, invoke, builtin, Sem.run_bind, Sem.run_pure, Result.andThen_ok, List.map_toArray, List.map_cons, List.map_nil, hs, hx, hrun]
  exact h A' c' w' h2 h3 h5 h4
end
theorem own_far1 {w : World} {base e size n : Nat} {v : Value} {xs : List Value} (h : w.ownsRow base e size v n xs) {p : Addr} (hp : v.ownBlock ≠ some p.block) (u : Value) : (w.setCell p u).ownsRow base e size v n xs := by
  obtain ⟨h1, h2⟩ := h
  refine ⟨h1, ?_⟩
  rcases h2 with h2 | ⟨g, cap, cur, hv, hg, hh, hr⟩
  · exact .inl h2
  · refine .inr ⟨g, cap, cur, hv, hg, ?_, hr⟩
    rw [Below.heap_setCell]
    · exact hh
    · intro e
      subst hv
      subst e
      exact hp rfl
theorem own_type {w : World} {base e size n g t : Nat} {v : Value} {xs : List Value} {cs : Array Value} {fr : Nat × Nat} (h : w.ownsRow base e size v n xs) (hg : w.heap[g]? = some (.cells cs t fr)) (hne : e ≠ t) : v.ownBlock ≠ some g := by
  rcases h.2 with ⟨rfl, _⟩ | ⟨g', cap, cur, rfl, _, hh, _⟩
  · simp [Value.ownBlock]
  · simp only [Value.ownBlock, ne_eq, Option.some.injEq]
    intro e1
    subst e1
    rw [hg] at hh
    injection hh with hh
    injection hh with _ e2
    exact hne e2.symm
theorem Bk.grown {w w' : World} {b : Nat} {cs : Array Value} {row : Option Nat} (h : Bk w b cs) (hg : w.grownBy w' row) (hne : row ≠ some b) : Bk w' b cs := by
  have hk := hg.block b h.1 (fun e => hne e.symm)
  exact ⟨Nat.lt_of_lt_of_le h.1 hg.size, fun o => (World.cell?_of_block (a := ⟨b, o, none⟩) hk).trans (h.2 o)⟩
end Go.Proofs.Ytiggcpfmmgmncaa
end
