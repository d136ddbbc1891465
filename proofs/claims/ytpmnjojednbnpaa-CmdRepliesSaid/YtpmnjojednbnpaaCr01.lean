import Derived.Laws.NewBlocks
import Derived.Lib.AppendZerosOnto
import Derived.Lib.Overlaps
import Derived.Test.YtpmnjojednbnpaaCr00
section
namespace Go.Proofs.Ytpmnjojednbnpaa
open Go.ChangeShapes Go.WideShapes Go.ChangeAt Go.RowKit
set_option linter.unusedVariables false
set_option linter.unusedSimpArgs false

section
variable {P : Program}
end

section
variable {w : World} {base : Nat} {e : TypeId} {size n c : Nat} {xs : List Value}
theorem own_below {w w' : World} {B e size n : Nat} {v : Value} {xs : List Value} (h : w.ownsRow B e size v n xs) (hb : Below w.heap.size w w') : w'.ownsRow B e size v n xs := by
  obtain ⟨h1, h2⟩ := h
  refine ⟨h1, ?_⟩
  rcases h2 with h2 | ⟨g, cap, cur, hv, hg, hh, hr⟩
  · exact .inl h2
  · refine .inr ⟨g, cap, cur, hv, hg, ?_, hr⟩
    have hlt : g < w.heap.size := by
      rcases Nat.lt_or_ge g w.heap.size with hlt | hge
      · exact hlt
      · rw [Array.getElem?_eq_none hge] at hh; cases hh
    rw [hb.block g hlt]
    exact hh
end

theorem step_app {P : Program} {w : World} {ops : Array Oper} {o : Oper} {a : Act} {K : Act → World → Prop} {Q : Exit → Act → World → Prop} {Z : Prop} (hgd : o.guard = none) (s x : Operand) {t e : TypeId} {size bytes : Nat}
    (ho : o.op = .call { callee := .builtin .append, args := #[s, x], argTypes := #[t, t] }) (E : Elem P t e size bytes) {base n m c d : Nat} {A B : Option Addr} {xs news : List Value}
    (hs : a.eval s = .slice A n c) (hx : a.eval x = .slice B m d)
    (hown : w.ownsRow base e size (.slice A n c) n xs) (hl : news.length = m * size) (hr : Sl w B news) (h1 : ∀ u ∈ news, u.oneCell' = true)
    (h63 : n + m ≤ maxLen) (hb : (n + m) * bytes ≤ 140737488355328) (hbase : base ≤ w.heap.size)
    (h : ∀ A' c' w', w'.ownsRow base e size (.slice A' (n + m) c') (n + m) (xs ++ news) → w.grownBy w' (Value.slice A n c).ownBlock → Below base w w' → K (a.put o.dst (.slice A' (n + m) c')) w') :
    if Region.wanted o (yielded ops a.tmps) = true then Oper.wp P o a w K Q else Z := by
  have hw : Region.wanted o (yielded ops a.tmps) = true := by simp [Region.wanted, hgd]
  rw [if_pos hw]
  exact wp_app s x ho E hs hx hown hl hr h1 h63 hb hbase h
theorem own_base {w : World} {base base' e size n : Nat} {v : Value} {xs : List Value} (h : w.ownsRow base e size v n xs) (hb : base' ≤ base) : w.ownsRow base' e size v n xs := by
  obtain ⟨h1, h2⟩ := h
  refine ⟨h1, ?_⟩
  rcases h2 with h2 | ⟨g, cap, cur, hv, hg, hr⟩
  · exact .inl h2
  · exact .inr ⟨g, cap, cur, hv, Nat.le_trans hb hg, hr⟩
def rc {α : Type} (f : α → List Value) (l : List α) : List Value := (l.map f).flatten
section
variable {α : Type} {f : α → List Value} {m : Nat}
theorem rc_cons (a : α) (l : List α) : rc f (a :: l) = f a ++ rc f l := by simp [rc]
theorem rc_length (hf : ∀ a, (f a).length = m) (l : List α) : (rc f l).length = l.length * m := by
  induction l with
  | nil => simp [rc]
  | cons a l ih => rw [rc_cons, List.length_append, ih, hf, List.length_cons, Nat.add_mul]; omega
theorem rc_at (hf : ∀ a, (f a).length = m) : ∀ (l : List α) (k : Nat) (h : k < l.length) (j : Nat), j < m → (rc f l)[k * m + j]? = (f l[k])[j]? := by
  intro l
  induction l with
  | nil => intro k h; simp at h
  | cons a l ih =>
    intro k h j hj
    rw [rc_cons]
    cases k with
    | zero => rw [List.getElem?_append_left (by rw [hf]; omega)]; simp
    | succ k =>
      rw [List.getElem?_append_right (by rw [hf, Nat.add_mul]; omega), hf, show (k + 1) * m + j - m = k * m + j from by rw [Nat.add_mul]; omega]
      rw [ih k (by simpa using h) j hj]
      simp
theorem rc_take (hf : ∀ a, (f a).length = m) (l : List α) (k : Nat) : (rc f l).take (k * m) = rc f (l.take k) := by
  induction l generalizing k with
  | nil => simp [rc]
  | cons a l ih =>
    cases k with
    | zero => simp [rc]
    | succ k =>
      rw [rc_cons, List.take_succ_cons, rc_cons, List.take_append, hf, show (k + 1) * m - m = k * m from by rw [Nat.add_mul]; omega, ih, List.take_of_length_le (by rw [hf, Nat.add_mul]; omega)]
theorem Sl.elem {w : World} {A : Option Addr} {l : List α} (hf : ∀ a, (f a).length = m) (hm : 0 < m) (h : Sl w A (rc f l)) {k : Nat} (hk : k < l.length) :
    ∃ b o, A = some ⟨b, o, none⟩ ∧ b < w.heap.size ∧ ∀ j u, (f l[k])[j]? = some u → w.cell? ⟨b, o + k * m + j, none⟩ = some u := by
  have hlen := rc_length hf l
  have hpos : k * m + 0 < (rc f l).length := by
    rw [hlen]
    have : (k + 1) * m ≤ l.length * m := Nat.mul_le_mul_right _ hk
    rw [Nat.add_mul] at this
    omega
  obtain ⟨b, o, hA, hc⟩ := h (by intro e; rw [e] at hpos; simp at hpos)
  have hg : ∀ j u, (f l[k])[j]? = some u → w.cell? ⟨b, o + k * m + j, none⟩ = some u := by
    intro j u hu
    have hj : j < m := by
      have := (List.getElem?_eq_some_iff.1 hu).1
      rwa [hf] at this
    rw [Nat.add_assoc]
    exact hc _ _ ((rc_at hf l k hk j hj).trans hu)
  have hmem := hc (k * m + 0) _ (List.getElem?_eq_getElem hpos)
  exact ⟨b, o, hA, World.block_lt_of_cell? _ _ hmem, hg⟩
end

section
variable {α : Type}
end
end Go.Proofs.Ytpmnjojednbnpaa
end
section
namespace Go.Proofs.Ytpmnjojednbnpaa
open Go.ChangeShapes Go.WideShapes Go.ChangeAt Go.RowKit
set_option linter.unusedVariables false
set_option linter.unusedSimpArgs false

def In64p (z : Int) : Prop := -9223372036854775808 ≤ z ∧ z ≤ 9223372036854775807
def zz (n : Int) : Nat := if 0 ≤ n then 2 * n.toNat else 2 * (-(n + 1)).toNat + 1
def uz (u : Nat) : Int := if u % 2 = 0 then ((u / 2 : Nat) : Int) else -((u / 2 : Nat) : Int) - 1
theorem uz_zz (n : Int) : uz (zz n) = n := by
  unfold uz zz
  by_cases h : 0 ≤ n
  · rw [if_pos h, if_pos (by omega)]; omega
  · rw [if_neg h, if_neg (by omega)]; omega
theorem zz_uz (u : Nat) : zz (uz u) = u := by
  unfold uz zz
  by_cases h : u % 2 = 0
  · rw [if_pos h, if_pos (by omega)]; omega
  · rw [if_neg h, if_neg (by omega)]; omega
theorem zz_lt {n : Int} (h : In64p n) : zz n < 18446744073709551616 := by
  unfold In64p at h
  unfold zz
  split <;> omega
theorem uz_in {u : Nat} (h : u < 18446744073709551616) : In64p (uz u) := by
  unfold In64p uz
  split <;> omega
def vb (u : Nat) : List Nat := if h : u < 128 then [u] else (u % 128 + 128) :: vb (u / 128)
termination_by u
decreasing_by omega
theorem vb_low {u : Nat} (h : u < 128) : vb u = [u] := by rw [vb, dif_pos h]
theorem vb_high {u : Nat} (h : ¬ u < 128) : vb u = (u % 128 + 128) :: vb (u / 128) := by rw [vb, dif_neg h]
theorem vb_byte : ∀ u, ∀ c ∈ vb u, c < 256 := by
  intro u
  induction u using Nat.strongRecOn with
  | _ u ih =>
    intro c hc
    by_cases h : u < 128
    · rw [vb_low h] at hc; simp at hc; omega
    · rw [vb_high h] at hc
      rcases List.mem_cons.1 hc with rfl | hc
      · omega
      · exact ih (u / 128) (by omega) c hc
theorem vb_ne (u : Nat) : vb u ≠ [] := by
  by_cases h : u < 128
  · rw [vb_low h]; simp
  · rw [vb_high h]; simp
def packI (n : Int) : List Nat := vb (zz n)
def packL (l : List Int) : List Nat := (l.map packI).flatten
theorem packL_cons (n : Int) (l : List Int) : packL (n :: l) = packI n ++ packL l := by simp [packL]
theorem packL_append (l m : List Int) : packL (l ++ m) = packL l ++ packL m := by simp [packL]
theorem packL_byte (l : List Int) : ∀ c ∈ packL l, c < 256 := by
  intro c hc
  unfold packL at hc
  rw [List.mem_flatten] at hc
  obtain ⟨m, hm, hc⟩ := hc
  obtain ⟨n, _, rfl⟩ := List.mem_map.1 hm
  exact vb_byte _ c hc
theorem vb_len : ∀ k u, u < 128 ^ (k + 1) → (vb u).length ≤ k + 1 := by
  intro k
  induction k with
  | zero => intro u h; rw [vb_low (by omega)]; simp
  | succ k ih =>
    intro u h
    by_cases h1 : u < 128
    · rw [vb_low h1]; simp
    · rw [vb_high h1, List.length_cons]
      have := ih (u / 128) (by rw [Nat.pow_succ] at h; exact Nat.div_lt_of_lt_mul (by rw [Nat.mul_comm]; exact h))
      omega
theorem vb_len10 {u : Nat} (h : u < 18446744073709551616) : (vb u).length ≤ 10 := by
  refine vb_len 9 u ?_
  have e : (128 : Nat) ^ (9 + 1) = 1180591620717411303424 := by decide
  rw [e]
  omega
def grp : Nat → Nat → List Nat → Int × Nat × List Nat
  | 0, acc, bs => (0, acc, bs)
  | _ + 1, _, [] => (4, 0, [])
  | f + 1, acc, c :: r => if (f = 0 ∧ 1 < c) ∨ (f < 9 ∧ c = 0) then (3, 0, r) else if c < 128 then (0, acc + c * 2 ^ (7 * (9 - f)), r) else grp f (acc + (c % 128) * 2 ^ (7 * (9 - f))) r
theorem pow_step {f : Nat} (h : f + 1 ≤ 9) : 2 ^ (7 * (9 - f)) = 2 ^ (7 * (9 - (f + 1))) * 128 := by
  have e : 7 * (9 - f) = 7 * (9 - (f + 1)) + 7 := by omega
  rw [e, Nat.pow_add]
theorem grp_vb : ∀ (f acc u : Nat) (r : List Nat), f ≤ 9 → u * 2 ^ (7 * (9 - f)) < 18446744073709551616 → (f = 9 ∨ u ≠ 0) → grp (f + 1) acc (vb u ++ r) = (0, acc + u * 2 ^ (7 * (9 - f)), r) := by
  intro f
  induction f with
  | zero =>
    intro acc u r _ hu h0
    have e : (2 : Nat) ^ (7 * (9 - 0)) = 9223372036854775808 := by decide
    rw [e] at hu
    have h1 : u < 2 := by omega
    rw [vb_low (by omega), List.singleton_append, grp, if_neg (by omega), if_pos (by omega)]
  | succ f ih =>
    intro acc u r hf hu h0
    by_cases h : u < 128
    · rw [vb_low h, List.singleton_append, grp, if_neg (by omega), if_pos h]
    · rw [vb_high h, List.cons_append, grp, if_neg (by omega), if_neg (by omega)]
      have hp := pow_step hf
      have hd : u = u / 128 * 128 + u % 128 := by omega
      obtain ⟨P, hP⟩ : ∃ P, 2 ^ (7 * (9 - (f + 1))) = P := ⟨_, rfl⟩
      rw [hP] at hp hu ⊢
      rw [ih _ (u / 128) r (by omega) (by
        rw [hp, ← Nat.mul_assoc, Nat.mul_right_comm]
        exact Nat.lt_of_le_of_lt (Nat.mul_le_mul_right _ (by omega)) hu) (.inr (by omega)), hp]
      have e1 : (u % 128 + 128) % 128 = u % 128 := by omega
      rw [e1]
      congr 2
      have e2 : u * P = (u / 128 * 128 + u % 128) * P := by rw [← hd]
      rw [e2, Nat.add_mul, Nat.mul_right_comm, ← Nat.mul_assoc, Nat.mul_right_comm (u / 128) P 128]
      omega
theorem grp_pack {n : Int} (h : In64p n) (r : List Nat) : grp 10 0 (packI n ++ r) = (0, zz n, r) := by
  have := grp_vb 9 0 (zz n) r (Nat.le_refl _) (by simpa using zz_lt h) (.inl rfl)
  simpa [packI] using this
theorem vb_grp : ∀ (f acc v : Nat) (bs r : List Nat), (∀ c ∈ bs, c < 256) → f ≤ 9 → acc < 2 ^ (7 * (9 - f)) → grp (f + 1) acc bs = (0, v, r) → ∃ u, v = acc + u * 2 ^ (7 * (9 - f)) ∧ bs = vb u ++ r ∧ (f = 9 ∨ u ≠ 0) ∧ v < 18446744073709551616 := by
  intro f
  induction f with
  | zero =>
    intro acc v bs r hby _ ha h
    cases bs with
    | nil => rw [grp] at h; injection h with h; cases h
    | cons c bs =>
      rw [grp] at h
      have e : (2 : Nat) ^ (7 * (9 - 0)) = 9223372036854775808 := by decide
      rw [e] at ha h ⊢
      by_cases h1 : (0 = 0 ∧ 1 < c) ∨ (0 < 9 ∧ c = 0)
      · rw [if_pos h1] at h; injection h with h; cases h
      · rw [if_neg h1, if_pos (by omega)] at h
        injection h with _ h
        injection h with h2 h3
        subst h3
        exact ⟨c, h2.symm, by rw [vb_low (by omega)]; rfl, .inr (by omega), by omega⟩
  | succ f ih =>
    intro acc v bs r hby hf ha h
    cases bs with
    | nil => rw [grp] at h; injection h with h; cases h
    | cons c bs =>
      rw [grp] at h
      have hp := pow_step hf
      have hm : 2 ^ (7 * (9 - f)) ≤ 9223372036854775808 := by
        have : (2 : Nat) ^ (7 * (9 - f)) ≤ 2 ^ 63 := Nat.pow_le_pow_right (by omega) (by omega)
        simpa using this
      obtain ⟨P, hP⟩ : ∃ P, 2 ^ (7 * (9 - (f + 1))) = P := ⟨_, rfl⟩
      rw [hP] at hp ha h ⊢
      by_cases h1 : (f + 1 = 0 ∧ 1 < c) ∨ (f + 1 < 9 ∧ c = 0)
      · rw [if_pos h1] at h; injection h with h; cases h
      rw [if_neg h1] at h
      by_cases h2 : c < 128
      · rw [if_pos h2] at h
        injection h with _ h
        injection h with h2' h3
        subst h3
        refine ⟨c, h2'.symm, by rw [vb_low h2]; rfl, by omega, ?_⟩
        rw [← h2']
        have : c * P ≤ 127 * P := Nat.mul_le_mul_right _ (by omega)
        omega
      · rw [if_neg h2] at h
        have hlt : acc + c % 128 * P < 2 ^ (7 * (9 - f)) := by
          rw [hp]
          have : c % 128 * P ≤ 127 * P := Nat.mul_le_mul_right _ (by omega)
          omega
        obtain ⟨u, hv, hb, hu, hl⟩ := ih (acc + c % 128 * P) v bs r (fun x hx => hby x (by simp [hx])) (by omega) hlt h
        have hc := hby c (by simp)
        have hu0 : u ≠ 0 := by omega
        refine ⟨u * 128 + c % 128, ?_, ?_, by omega, hl⟩
        · rw [hv, hp, Nat.add_mul, ← Nat.mul_assoc, Nat.mul_right_comm u P 128]; omega
        · rw [vb_high (by omega), show (u * 128 + c % 128) % 128 + 128 = c by omega, show (u * 128 + c % 128) / 128 = u by omega, hb]; rfl
structure Rs where
  B : List Nat
  err : Int
def rdI (lo hi : Int) (s : Rs) : Int × Rs :=
  if s.err ≠ 0 then (0, s) else if (grp 10 0 s.B).1 ≠ 0 then (0, ⟨[], (grp 10 0 s.B).1⟩)
  else if uz (grp 10 0 s.B).2.1 < lo ∨ hi < uz (grp 10 0 s.B).2.1 then (0, ⟨[], 7⟩) else (uz (grp 10 0 s.B).2.1, ⟨(grp 10 0 s.B).2.2, 0⟩)
theorem rdI_pack {n lo hi : Int} (h : In64p n) (h1 : lo ≤ n) (h2 : n ≤ hi) (r : List Nat) : rdI lo hi ⟨packI n ++ r, 0⟩ = (n, ⟨r, 0⟩) := by
  unfold rdI
  simp only
  rw [grp_pack h]
  simp only [uz_zz]
  rw [if_neg (by decide), if_neg (by decide), if_neg (by omega)]
theorem rdI_back {lo hi n : Int} {s s' : Rs} (hb : ∀ c ∈ s.B, c < 256) (h : rdI lo hi s = (n, s')) (he : s'.err = 0) (h0 : s.err = 0) : s.B = packI n ++ s'.B ∧ In64p n ∧ s'.B.length < s.B.length := by
  unfold rdI at h
  rw [if_neg (by simp [h0])] at h
  obtain ⟨e, u, r, hg⟩ : ∃ e u r, grp 10 0 s.B = (e, u, r) := ⟨_, _, _, rfl⟩
  rw [hg] at h
  simp only at h
  split at h
  · rename_i h1
    injection h with _ h
    subst h
    exact absurd he h1
  · rename_i h1
    split at h
    · injection h with _ h
      subst h
      simp at he
    · injection h with h2 h3
      subst h3; subst h2
      have h1 : e = 0 := by simpa using h1
      subst h1
      obtain ⟨u', hv, hb2, _, hl⟩ := vb_grp 9 0 u s.B r hb (Nat.le_refl _) (by simp) hg
      have e1 : u' = u := by simpa using hv.symm
      subst e1
      refine ⟨by rw [hb2, packI, zz_uz], uz_in hl, ?_⟩
      rw [hb2, List.length_append]
      have := vb_ne u'
      have := List.length_pos_iff.2 this
      simp only
      omega
end Go.Proofs.Ytpmnjojednbnpaa
end
section
namespace Go.Proofs.Ytpmnjojednbnpaa
open Go.ChangeShapes Go.WideShapes Go.ChangeAt Go.RowKit
set_option linter.unusedVariables false
set_option linter.unusedSimpArgs false

section
variable {P : Program} {w : World}
theorem run_app2 {t ty e : TypeId} {size bytes : Nat} (E : Elem P t e size bytes) {base n m c d : Nat} {A B : Option Addr} {xs news : List Value}
    (hown : w.ownsRow base e size (.slice A n c) n xs) (hl : news.length = m * size) (hm : 0 < m) (hr : Sl w B news) (h1 : ∀ u ∈ news, u.oneCell' = true)
    (h63 : n + m ≤ maxLen) (hb : (n + m) * bytes ≤ 140737488355328) (hbase : base ≤ w.heap.size) :
    ∃ A' c' w', (Builtin.append_ #[t, t] ty #[.slice A n c, .slice B m d]).run P w = .ok (.slice A' (n + m) c') w' ∧ w'.ownsRow base e size (.slice A' (n + m) c') (n + m) (xs ++ news) ∧
      w.grownBy w' (Value.slice A n c).ownBlock ∧ ((Value.slice A' (n + m) c').ownBlock = (Value.slice A n c).ownBlock ∨ (Value.slice A' (n + m) c').ownBlock = some w.heap.size) ∧ Below base w w' := by
  obtain ⟨i, z, hi, hz, hsize, hby, hzs⟩ := E.info
  have hne : news ≠ [] := by
    intro h0
    rw [h0, List.length_nil] at hl
    rcases Nat.mul_eq_zero.1 hl.symm with h | h
    · omega
    · have := E.pos; omega
  obtain ⟨b, o, rfl, hc⟩ := hr hne
  obtain ⟨v', w', hrun, h2, h3, _, h5⟩ := run_append_own_at (P := P) w base t ty e i z size bytes E.und hi hz hsize hby hzs E.pos _ n xs hown ⟨b, o, none⟩ m d news hl
    (fun j u hu => by rw [addr_add]; exact hc j u hu) h1 h63 hb hbase
  obtain ⟨A', c', rfl⟩ := own_form h2
  exact ⟨A', c', w', hrun, h2, h3, h5, below_of_grown h3 hbase (own_ge hown)⟩
theorem wpList_app2 {ops : Array Oper} {rest : List Oper} {o : Oper} {a : Act} {Q : Exit → Act → World → Prop} (hgd : o.guard = none) (s x : Operand) {t e : TypeId} {size bytes : Nat}
    (ho : o.op = .call { callee := .builtin .append, args := #[s, x], argTypes := #[t, t] }) (E : Elem P t e size bytes) {base n m c d : Nat} {A B : Option Addr} {xs news : List Value}
    (hs : a.eval s = .slice A n c) (hx : a.eval x = .slice B m d)
    (hown : w.ownsRow base e size (.slice A n c) n xs) (hl : news.length = m * size) (hm : 0 < m) (hr : Sl w B news) (h1 : ∀ u ∈ news, u.oneCell' = true)
    (h63 : n + m ≤ maxLen) (hb : (n + m) * bytes ≤ 140737488355328) (hbase : base ≤ w.heap.size)
    (h : ∀ A' c' w', w'.ownsRow base e size (.slice A' (n + m) c') (n + m) (xs ++ news) → w.grownBy w' (Value.slice A n c).ownBlock → ((Value.slice A' (n + m) c').ownBlock = (Value.slice A n c).ownBlock ∨ (Value.slice A' (n + m) c').ownBlock = some w.heap.size) → Below base w w' → wpList P ops Q rest (a.put o.dst (.slice A' (n + m) c')) w') :
    wpList P ops Q (o :: rest) a w :=
  wpList_plain hgd fun _ hK => by
    obtain ⟨A', c', w', hrun, h2, h3, h5, h4⟩ := run_app2 (P := P) (w := w) (ty := o.type) E (d := d) hown hl hm hr h1 h63 hb hbase
    unfold Oper.wp execOp
    simp only [ho, resolve, invoke, builtin, Sem.run_bind, Sem.run_pure, Result.andThen_ok, List.map_toArray, List.map_cons, List.map_nil, hs, hx, hrun]
    exact hK _ _ (h A' c' w' h2 h3 h5 h4)
end
def Apart (v u : Value) : Prop := ∀ g, v.ownBlock = some g → u.ownBlock ≠ some g
theorem Apart.symm {v u : Value} (h : Apart v u) : Apart u v := fun g h1 h2 => h g h2 h1
theorem Apart.none (u : Value) : Apart (.slice none 0 0) u := fun g h => by simp [Value.ownBlock] at h
section
variable {P : Program} {w : World}
end
theorem own_far1 {w : World} {base e size n : Nat} {v : Value} {xs : List Value} (h : w.ownsRow base e size v n xs) {p : Addr} (hp : v.ownBlock ≠ some p.block) (u : Value) : (w.setCell p u).ownsRow base e size v n xs := by
  obtain ⟨h1, h2⟩ := h
  refine ⟨h1, ?_⟩
  rcases h2 with h2 | ⟨g, cap, cur, hv, hg, hh, hr⟩
  · exact .inl h2
  · refine .inr ⟨g, cap, cur, hv, hg, ?_, hr⟩
    rw [Below.heap_setCell]
    · exact hh
    · intro e
      subst hv
      subst e
      exact hp rfl
theorem own_type {w : World} {base e size n g t : Nat} {v : Value} {xs : List Value} {cs : Array Value} {fr : Nat × Nat} (h : w.ownsRow base e size v n xs) (hg : w.heap[g]? = some (.cells cs t fr)) (hne : e ≠ t) : v.ownBlock ≠ some g := by
  rcases h.2 with ⟨rfl, _⟩ | ⟨g', cap, cur, rfl, _, hh, _⟩
  · simp [Value.ownBlock]
  · simp only [Value.ownBlock, ne_eq, Option.some.injEq]
    intro e1
    subst e1
    rw [hg] at hh
    injection hh with hh
    injection hh with _ e2
    exact hne e2.symm
theorem Bk.grown {w w' : World} {b : Nat} {cs : Array Value} {row : Option Nat} (h : Bk w b cs) (hg : w.grownBy w' row) (hne : row ≠ some b) : Bk w' b cs := by
  have hk := hg.block b h.1 (fun e => hne e.symm)
  exact ⟨Nat.lt_of_lt_of_le h.1 hg.size, fun o => (World.cell?_of_block (a := ⟨b, o, none⟩) hk).trans (h.2 o)⟩
end Go.Proofs.Ytpmnjojednbnpaa
end
section
namespace Go.Proofs.Ytpmnjojednbnpaa
open Go.ChangeShapes Go.WideShapes Go.ChangeAt Go.RowKit
set_option linter.unusedVariables false
set_option linter.unusedSimpArgs false

structure RowS (α : Type) where
  A : Option Addr
  c : Nat
  l : List α
section
variable {α : Type}
def RowS.cells (s : RowS α) : List Value := [.slice s.A s.l.length s.c]
theorem RowS.len (s : RowS α) : s.cells.length = 1 := rfl
def RowS.all (S : List (RowS α)) : List α := (S.map RowS.l).flatten
def RowsOk (w : World) (f : α → List Value) (S : List (RowS α)) : Prop := ∀ s ∈ S, Sl w s.A (rc f s.l)
theorem RowsOk.below {w w' : World} {f : α → List Value} {S : List (RowS α)} (h : RowsOk w f S) (hb : Below w.heap.size w w') : RowsOk w' f S := fun s hs => (h s hs).below hb
theorem RowsOk.alloc {w : World} {f : α → List Value} {S : List (RowS α)} (h : RowsOk w f S) (o : Obj) : RowsOk (w.alloc o) f S := fun s hs => (h s hs).alloc o
theorem RowsOk.drew {w : World} {f : α → List Value} {S : List (RowS α)} (h : RowsOk w f S) : RowsOk w.drew f S := h
theorem rd_rowsP {w : World} {f : α → List Value} {p : α → Prop} {s : Shape} {A : Option Addr} {n c : Nat} (hf : ∀ r, Rd w s r → ∃ g, r = f g ∧ p g) (h : Rd w (.sl s) [.slice A n c]) :
    ∃ l : List α, l.length = n ∧ n ≤ c ∧ c ≤ maxLen ∧ Sl w A (rc f l) ∧ ∀ y ∈ l, p y := by
  obtain ⟨A', n', c', rows, e, h1, h2, h3, h4, h5⟩ := h
  simp only [List.cons.injEq, Value.slice.injEq, and_true] at e
  obtain ⟨rfl, rfl, rfl⟩ := e
  have key : ∀ rows : List (List Value), (∀ r ∈ rows, Rd w s r) → ∃ l : List α, l.length = rows.length ∧ rows.flatten = rc f l ∧ ∀ y ∈ l, p y := by
    intro rows
    induction rows with
    | nil => intro _; exact ⟨[], rfl, rfl, fun y hy => by cases hy⟩
    | cons r rows ih =>
      intro h
      obtain ⟨l, a1, a2, a3⟩ := ih (fun x hx => h x (by simp [hx]))
      obtain ⟨x, rfl, hx⟩ := hf r (h r (by simp))
      refine ⟨x :: l, by simp [a1], by simp [a2, rc], fun y hy => ?_⟩
      rcases List.mem_cons.1 hy with rfl | hy
      · exact hx
      · exact a3 y hy
  obtain ⟨l, a1, a2, a3⟩ := key rows h5
  rw [a2] at h4
  exact ⟨l, by omega, h1, h2, h4, a3⟩
end
end Go.Proofs.Ytpmnjojednbnpaa
end
