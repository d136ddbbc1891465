import Derived.Test.YtldnponbkhgijaaGL19
import Derived.Test.YtldnponbkhgijaaGL21
section
namespace Go.Proofs.Ytldnponbkhgijaa
open Go.ChangeShapes Go.WideShapes Go.ChangeAt Go.RowKit
set_option linter.unusedVariables false
set_option linter.unusedSimpArgs false

theorem rc_set_rowS {α : Type} : ∀ (l : List (RowS α)) (k : Nat) (x : RowS α), (rc RowS.cells l).set k (.slice x.A x.l.length x.c) = rc RowS.cells (l.set k x)
  | [], k, _ => by simp [rc]
  | a :: l, 0, x => by simp [rc, RowS.cells]
  | a :: l, k + 1, x => by
    have ih := rc_set_rowS l k x
    rw [List.set_cons_succ, rc_cons, rc_cons, ← ih]
    simp [RowS.cells]
structure KeepQ (w : World) (H : List (RowS Int)) (V : World) : Prop where
  len : H.length = 9
  blk : V.heap[w.heap.size]? = some (.cells (rc RowS.cells H).toArray 202 (0, 0))
  own : ∀ i, (h : i < H.length) → V.ownsRow w.heap.size 2 1 (.slice H[i].A H[i].l.length H[i].c) H[i].l.length (ints .i64 H[i].l)
  ap : ∀ i j, (hi : i < H.length) → (hj : j < H.length) → i ≠ j → Apart (.slice H[i].A H[i].l.length H[i].c) (.slice H[j].A H[j].l.length H[j].c)
  bel : Below w.heap.size w V
theorem KeepQ.lt {w V : World} {H : List (RowS Int)} (h : KeepQ w H V) : w.heap.size < V.heap.size := by
  rcases Nat.lt_or_ge w.heap.size V.heap.size with h1 | h1
  · exact h1
  · have := h.blk
    rw [Array.getElem?_eq_none h1] at this; cases this
theorem KeepQ.step {w V V' : World} {H : List (RowS Int)} (h : KeepQ w H V) (hb : Below V.heap.size V V') : KeepQ w H V' :=
  ⟨h.len, by rw [hb.block _ h.lt]; exact h.blk, fun i hi => own_below (h.own i hi) hb, h.ap, since_step h.bel hb⟩
theorem KeepQ.alloc {w V : World} {H : List (RowS Int)} (h : KeepQ w H V) (o : Obj) : KeepQ w H (V.alloc o) := h.step ((Below.refl _ _).alloc (Nat.le_refl _) o)
theorem KeepQ.drew {w V : World} {H : List (RowS Int)} (h : KeepQ w H V) : KeepQ w H V.drew := h.step ⟨rfl, rfl, rfl, Nat.le_refl _, fun _ _ => rfl⟩
theorem KeepQ.cell {w V : World} {H : List (RowS Int)} (h : KeepQ w H V) {i : Nat} (hi : i < H.length) : V.cell? ⟨w.heap.size, i, none⟩ = some (.slice H[i].A H[i].l.length H[i].c) := by
  rw [cell_of_row V w.heap.size i _ 202 (0, 0) h.blk, ← Array.getElem?_toList]
  have e := rc_at (f := RowS.cells (α := Int)) (m := 1) RowS.len H i hi 0 (by decide)
  rw [Nat.mul_one, Nat.add_zero] at e
  simpa [RowS.cells] using e
theorem KeepQ.ne {w V : World} {H : List (RowS Int)} (h : KeepQ w H V) {i : Nat} (hi : i < H.length) : (Value.slice H[i].A H[i].l.length H[i].c).ownBlock ≠ some w.heap.size := own_type (h.own i hi) h.blk (by decide)
theorem KeepQ.blk_grown {w V W : World} {H : List (RowS Int)} (h : KeepQ w H V) {i : Nat} (hi : i < H.length) (hg : V.grownBy W (Value.slice H[i].A H[i].l.length H[i].c).ownBlock) : W.heap[w.heap.size]? = some (.cells (rc RowS.cells H).toArray 202 (0, 0)) := by
  rw [hg.block _ h.lt (fun e => h.ne hi e.symm)]; exact h.blk
theorem KeepQ.put {w V W : World} {H : List (RowS Int)} (h : KeepQ w H V) {i : Nat} (hi : i < H.length) {A' : Option Addr} {c' : Nat} {q : Int} (hg : V.grownBy W (Value.slice H[i].A H[i].l.length H[i].c).ownBlock)
    (hown : W.ownsRow w.heap.size 2 1 (.slice A' (H[i].l.length + 1) c') (H[i].l.length + 1) (ints .i64 H[i].l ++ [.int .i64 q]))
    (hv : (Value.slice A' (H[i].l.length + 1) c').ownBlock = (Value.slice H[i].A H[i].l.length H[i].c).ownBlock ∨ (Value.slice A' (H[i].l.length + 1) c').ownBlock = some V.heap.size) (hb : Below w.heap.size V W) :
    KeepQ w (H.set i ⟨A', c', H[i].l ++ [q]⟩) (W.setCell ⟨w.heap.size, i, none⟩ (.slice A' (H[i].l.length + 1) c')) := by
  have hblk := h.blk_grown hi hg
  have hA' : (Value.slice A' (H[i].l.length + 1) c').ownBlock ≠ some w.heap.size := own_type hown hblk (by decide)
  have hap : ∀ j, (hj : j < H.length) → i ≠ j → Apart (.slice A' (H[i].l.length + 1) c') (.slice H[j].A H[j].l.length H[j].c) := fun j hj hne => (h.ap i j hi hj hne).grow (h.own j hj) hv
  refine ⟨by rw [List.length_set]; exact h.len, ?_, ?_, ?_, Below.setCell (h.bel.trans hb) (p := ⟨w.heap.size, i, none⟩) (Nat.le_refl _) _⟩
  · rw [setCell_eq_setRow W w.heap.size i _ 202 (0, 0) _ hblk]
    have := setRow_heap W w.heap.size _ (((rc RowS.cells H).toArray).set! i (.slice A' (H[i].l.length + 1) c')) 202 (0, 0) hblk
    have e := rc_set_rowS H i ⟨A', c', H[i].l ++ [q]⟩
    simp only [List.length_append, List.length_cons, List.length_nil, Nat.zero_add] at e
    rw [← e]
    simpa using this
  · intro j hj
    rw [List.length_set] at hj
    by_cases e : i = j
    · subst e
      have h2 := own_far1 hown (p := ⟨w.heap.size, i, none⟩) hA' (.slice A' (H[i].l.length + 1) c')
      simp only [List.getElem_set_self, List.length_append, List.length_cons, List.length_nil, Nat.zero_add]
      have e2 : ints .i64 (H[i].l ++ [q]) = ints .i64 H[i].l ++ [.int .i64 q] := by simp [ints]
      rw [e2]
      exact h2
    · simp only [List.getElem_set_ne e]
      exact own_far1 (own_apart (h.own j hj) (h.ap i j hi hj e) hg) (p := ⟨w.heap.size, i, none⟩) (h.ne hj) _
  · intro j k hj hk hne
    rw [List.length_set] at hj hk
    by_cases e : i = j
    · subst e
      simp only [List.getElem_set_self, List.getElem_set_ne hne, List.length_append, List.length_cons, List.length_nil, Nat.zero_add]
      exact hap k hk hne
    · by_cases e2 : i = k
      · subst e2
        simp only [List.getElem_set_self, List.getElem_set_ne e, List.length_append, List.length_cons, List.length_nil, Nat.zero_add]
        exact (hap j hj e).symm
      · simp only [List.getElem_set_ne e, List.getElem_set_ne e2]
        exact h.ap j k hj hk hne
def nilQ : List (RowS Int) := List.replicate 9 ⟨none, 0, []⟩
theorem nilQ_at (i : Nat) (h : i < nilQ.length) : nilQ[i] = ⟨none, 0, []⟩ := List.eq_of_mem_replicate (List.getElem_mem h)
theorem KeepQ.new (w : World) : KeepQ w nilQ (w.alloc (.cells #[.slice none 0 0, .slice none 0 0, .slice none 0 0, .slice none 0 0, .slice none 0 0, .slice none 0 0, .slice none 0 0, .slice none 0 0, .slice none 0 0] 202)) := by
  refine ⟨rfl, heap_alloc_new w _, fun i hi => ?_, fun i j hi hj _ => ?_, since_alloc (Below.refl _ _) _⟩
  · rw [nilQ_at i hi]
    exact own_nil _ _ _
  · rw [nilQ_at i hi, nilQ_at j hj]
    exact Apart.none _
end Go.Proofs.Ytldnponbkhgijaa
end
section
namespace Go.Proofs.Ytldnponbkhgijaa
open Go.ChangeShapes Go.WideShapes Go.ChangeAt Go.RowKit
set_option linter.unusedVariables false
set_option linter.unusedSimpArgs false

theorem sumG_map (S : List (RowS Lg)) (i j : Nat) : sumG S i j = (((S.map RowS.l).take i).map fun l => getG l ((j : Int) + 1)).sum := by
  unfold sumG
  rw [← List.map_take, List.map_map]; rfl
noncomputable def addL (L : List (List Lg)) : Int × List Lg := addR (L.map fun l => ⟨none, 0, l⟩)
theorem sum_two (a b : List Lg) : addL [a, b] = if isG a = true ∧ isG b = true then ofR ((List.range 8).map fun j : Nat => getG a ((j : Int) + 1) + getG b ((j : Int) + 1)) else (3, []) := by
  unfold addL addR
  by_cases h : isG a = true ∧ isG b = true
  · rw [if_pos h, if_pos (by simp [h.1, h.2])]
    congr 1
    refine List.map_congr_left fun j _ => ?_
    rw [sumG_map]
    simp
  · rw [if_neg h, if_neg (by intro h2; exact h ⟨h2 ⟨none, 0, a⟩ (by simp), h2 ⟨none, 0, b⟩ (by simp)⟩)]
theorem legs_mem : ∀ (i : Int) (l : List Int), ∀ x ∈ legsF i l, i ≤ x.ins ∧ x.ins < i + l.length ∧ x.qty ≠ 0
  | _, [], x, h => by cases h
  | i, q :: r, x, h => by
    have ih := legs_mem (i + 1) r x
    unfold legsF at h
    simp only [List.length_cons]
    rcases List.mem_append.1 h with h | h
    · by_cases h0 : q = 0
      · rw [if_pos h0] at h; cases h
      · rw [if_neg h0] at h
        simp only [List.mem_singleton] at h
        subst h
        simp only
        exact ⟨by omega, by omega, h0⟩
    · have := ih h; omega
theorem legs_so : ∀ (i : Int) (l : List Int), SoG (legsF i l)
  | _, [] => List.Pairwise.nil
  | i, q :: r => by
    have ih := legs_so (i + 1) r
    unfold legsF
    by_cases h0 : q = 0
    · rw [if_pos h0]; exact ih
    · rw [if_neg h0, List.singleton_append]
      refine List.Pairwise.cons (fun x hx => ?_) ih
      have := legs_mem (i + 1) r x hx
      simp only
      omega
theorem ofR_is {l : List Int} (hl : l.length = 8) : isG (ofR l).2 = true := by
  unfold ofR
  split
  · refine (isG_iff _).2 ⟨fun x hx => ?_, legs_so _ _⟩
    have := legs_mem 1 l x hx
    omega
  · rfl
theorem addR_is (S : List (RowS Lg)) : isG (addR S).2 = true := by
  unfold addR
  split
  · exact ofR_is (by simp)
  · rfl
end Go.Proofs.Ytldnponbkhgijaa
end
section
namespace Go.Proofs.Ytldnponbkhgijaa
open Go.ChangeShapes Go.WideShapes Go.ChangeAt Go.RowKit
set_option linter.unusedVariables false
set_option linter.unusedSimpArgs false

def sumAt (h : Lg → Int) : Int → List Int → Int
  | _, [] => 0
  | i, q :: r => h ⟨i, q⟩ + sumAt h (i + 1) r
theorem sum_legsF (h : Lg → Int) (h0 : ∀ t, h ⟨t, 0⟩ = 0) : ∀ (i : Int) (L : List Int), ((legsF i L).map h).sum = sumAt h i L
  | _, [] => rfl
  | i, q :: r => by
    have ih := sum_legsF h h0 (i + 1) r
    rw [legsF, sumAt, ← ih]
    by_cases hq : q = 0
    · rw [if_pos hq, hq, h0]; simp
    · rw [if_neg hq]; simp
theorem sumAt_add (h : Lg → Int) (ha : ∀ t p q, h ⟨t, p + q⟩ = h ⟨t, p⟩ + h ⟨t, q⟩) (f g : Nat → Int) : ∀ (R : List Nat) (i : Int), sumAt h i (R.map fun j => f j + g j) = sumAt h i (R.map f) + sumAt h i (R.map g)
  | [], _ => by simp [sumAt]
  | j :: R, i => by
    simp only [List.map_cons, sumAt]
    rw [sumAt_add h ha f g R (i + 1), ha]
    omega
theorem shk_zero (is : List Ins) (s t : Int) : shk is s ⟨t, 0⟩ = 0 := by
  unfold shk
  split
  · rfl
  · unfold shockZ
    split <;> simp
theorem shk_add (is : List Ins) (s t p q : Int) : shk is s ⟨t, p + q⟩ = shk is s ⟨t, p⟩ + shk is s ⟨t, q⟩ := by
  unfold shk
  simp only
  split
  · rfl
  · unfold shockZ
    split
    · rw [Int.add_mul, Int.add_mul]
    · rfl
theorem sum_shk {M : List Lg} (h : isG M = true) (is : List Ins) (s : Int) : (M.map (shk is s)).sum = sumAt (shk is s) 1 ((List.range 8).map fun j : Nat => getG M ((j : Int) + 1)) := by
  obtain ⟨a1, a2⟩ := (isG_iff M).1 h
  have e := legs_back 8 1 M a2 (fun x hx => ⟨(a1 x hx).1, by have := (a1 x hx).2.1; omega, (a1 x hx).2.2⟩)
  have e2 : ((List.range 8).map fun j : Nat => getG M (1 + (j : Int))) = (List.range 8).map fun j : Nat => getG M ((j : Int) + 1) := List.map_congr_left fun j _ => by rw [Int.add_comm]
  rw [e2] at e
  rw [← sum_legsF _ (shk_zero is s), e]
theorem two_facts {a b B : List Lg} (h : addL [a, b] = (0, B)) : isG a = true ∧ isG b = true ∧ isG B = true ∧ (∀ x ∈ B, In64 x.qty) ∧ B = legsF 1 ((List.range 8).map fun j : Nat => getG a ((j : Int) + 1) + getG b ((j : Int) + 1)) := by
  have hB : isG B = true := by have := addR_is ([a, b].map fun l => (⟨none, 0, l⟩ : RowS Lg)); unfold addL at h; rw [h] at this; exact this
  rw [sum_two] at h
  split at h
  · rename_i hg
    unfold ofR at h
    split at h
    · rename_i h6
      injection h with _ e
      refine ⟨hg.1, hg.2, hB, ?_, e.symm⟩
      have key : ∀ (l : List Int) (i : Int), ∀ x ∈ legsF i l, x.qty ∈ l := by
        intro l
        induction l with
        | nil => intro i x hx; simp [legsF] at hx
        | cons q r ih =>
          intro i x hx
          unfold legsF at hx
          rcases List.mem_append.1 hx with hx | hx
          · split at hx
            · cases hx
            · rw [List.mem_singleton.1 hx]; exact List.mem_cons_self
          · exact List.mem_cons_of_mem _ (ih _ x hx)
      intro x hx
      rw [← e] at hx
      exact h6 _ (key _ _ x hx)
    · injection h with h1; cases h1
  · injection h with h1; cases h1
theorem loss_two {a b B : List Lg} (h : addL [a, b] = (0, B)) (is : List Ins) (s : Int) : lossZ is s B = lossZ is s a + lossZ is s b := by
  obtain ⟨ha, hb, _, _, e⟩ := two_facts h
  unfold lossZ
  rw [e, sum_legsF _ (shk_zero is s), sumAt_add _ (shk_add is s), ← sum_shk ha, ← sum_shk hb]
  omega
theorem getG_has {M : List Lg} {t : Int} (h : getG M t ≠ 0) : ∃ y ∈ M, y.ins = t := by
  by_cases hh : ∃ y ∈ M, y.ins = t
  · exact hh
  · exact absurd (getG_none fun x hx hi => hh ⟨x, hx, hi⟩) h
theorem miss_has {is : List Ins} {M : List Lg} (h : missI is M = false) {t : Int} (hg : getG M t ≠ 0) : (fndI is t).isSome = true := by
  obtain ⟨y, hy, rfl⟩ := getG_has hg
  unfold missI at h
  rw [List.any_eq_false] at h
  have := h y hy
  cases hq : fndI is y.ins with
  | none => rw [hq] at this; simp at this
  | some i => rfl
theorem code_ok {is : List Ins} {M : List Lg} (h : codeI is M = 0) : isG M = true ∧ missI is M = false := by
  unfold codeI at h
  split at h
  · cases h
  · rename_i h1
    split at h
    · cases h
    · rename_i h2
      exact ⟨by simpa using h1, by simpa using h2⟩
theorem legs_at : ∀ (l : List Int) (i : Int), ∀ x ∈ legsF i l, ∃ k : Nat, ∃ h : k < l.length, x.ins = i + k ∧ x.qty = l[k] ∧ l[k] ≠ 0
  | [], _, x, hx => by simp [legsF] at hx
  | q :: r, i, x, hx => by
    unfold legsF at hx
    rcases List.mem_append.1 hx with hx | hx
    · split at hx
      · cases hx
      · rename_i hq
        rw [List.mem_singleton.1 hx]
        exact ⟨0, by simp, by simp, rfl, hq⟩
    · obtain ⟨k, hk, h1, h2, h3⟩ := legs_at r (i + 1) x hx
      exact ⟨k + 1, by simpa using hk, by rw [h1]; omega, h2, h3⟩
theorem code_two {is : List Ins} {a b B : List Lg} (h : addL [a, b] = (0, B)) (ha : codeI is a = 0) (hb : codeI is b = 0) : codeI is B = 0 := by
  obtain ⟨_, _, hB, _, e⟩ := two_facts h
  obtain ⟨_, ma⟩ := code_ok ha
  obtain ⟨_, mb⟩ := code_ok hb
  unfold codeI
  rw [if_neg (by simp [hB]), if_neg]
  rw [Bool.not_eq_true]
  unfold missI
  rw [List.any_eq_false]
  intro x hx
  rw [e] at hx
  obtain ⟨k, hk, h1, h2, h3⟩ := legs_at _ _ x hx
  simp only [List.getElem_map, List.getElem_range] at h3
  have hi : x.ins = (k : Int) + 1 := by omega
  have : (fndI is x.ins).isSome = true := by
    rw [hi]
    by_cases h4 : getG a ((k : Int) + 1) = 0
    · exact miss_has mb (by omega)
    · exact miss_has ma h4
  cases hq : fndI is x.ins with
  | none => rw [hq] at this; cases this
  | some i => simp
theorem most_twice {a B : List Lg} (h : addL [a, a] = (0, B)) (is : List Ins) : ∀ k : Nat, (mostR is B k).1 = (mostR is a k).1 + (mostR is a k).1
  | 0 => rfl
  | k + 1 => by
    have ih := most_twice h is k
    rw [mostR, mostR, loss_two h]
    by_cases hc : (mostR is a k).1 < lossZ is k a
    · rw [if_pos hc, if_pos (by omega)]
    · rw [if_neg hc, if_neg (by omega)]; exact ih
theorem margin_of {is : List Ins} {M : List Lg} (h : codeI is M = 0) : marginR is M = (fV (mostR is M 8).1, fE (mostR is M 8).1) := by
  unfold marginR
  rw [worstR_ok h]; simp
theorem margin_ok {is : List Ins} {M : List Lg} (h : (marginR is M).2 = 0) : codeI is M = 0 ∧ In64 (mostR is M 8).1 ∧ (marginR is M).1 = (mostR is M 8).1 := by
  by_cases hc : codeI is M = 0
  · rw [margin_of hc] at h ⊢
    simp only at h ⊢
    unfold fE at h
    split at h
    · rename_i h6; exact ⟨hc, h6, by unfold fV; rw [if_pos h6]⟩
    · cases h
  · unfold marginR at h
    rw [worstR_no hc] at h
    simp only at h
    rw [if_pos hc] at h
    exact absurd h hc
theorem twice {a B : List Lg} {is : List Ins} (h : addL [a, a] = (0, B)) (ha : (marginR is a).2 = 0) : marginR is B = (fV ((marginR is a).1 + (marginR is a).1), fE ((marginR is a).1 + (marginR is a).1)) := by
  obtain ⟨c1, i1, e1⟩ := margin_ok ha
  rw [margin_of (code_two h c1 c1), most_twice h is 8, e1]
end Go.Proofs.Ytldnponbkhgijaa
end
