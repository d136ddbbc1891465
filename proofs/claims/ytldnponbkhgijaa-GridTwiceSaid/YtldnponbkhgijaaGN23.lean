import Derived.Test.YtldnponbkhgijaaGN20
import Derived.Test.YtldnponbkhgijaaGN22
section
namespace Go.Proofs.Ytldnponbkhgijaa
open Go.ChangeShapes Go.WideShapes Go.ChangeAt Go.RowKit
set_option linter.unusedVariables false
set_option linter.unusedSimpArgs false

theorem rc_set_rowS {α : Type} : ∀ (l : List (RowS α)) (k : Nat) (x : RowS α), (rc RowS.cells l).set k (.slice x.A x.l.length x.c) = rc RowS.cells (l.set k x)
  | [], k, _ => by simp [rc]
  | a :: l, 0, x => by simp [rc, RowS.cells]
  | a :: l, k + 1, x => by
    have ih := rc_set_rowS l k x
    rw [List.set_cons_succ, rc_cons, rc_cons, ← ih]
    simp [RowS.cells]
structure KeepQ (w : World) (H : List (RowS Int)) (V : World) : Prop where
  len : H.length = 9
  blk : V.heap[w.heap.size]? = some (.cells (rc RowS.cells H).toArray 202 (0, 0))
  own : ∀ i, (h : i < H.length) → V.ownsRow w.heap.size 2 1 (.slice H[i].A H[i].l.length H[i].c) H[i].l.length (ints .i64 H[i].l)
  ap : ∀ i j, (hi : i < H.length) → (hj : j < H.length) → i ≠ j → Apart (.slice H[i].A H[i].l.length H[i].c) (.slice H[j].A H[j].l.length H[j].c)
  bel : Below w.heap.size w V
theorem KeepQ.lt {w V : World} {H : List (RowS Int)} (h : KeepQ w H V) : w.heap.size < V.heap.size := by
  rcases Nat.lt_or_ge w.heap.size V.heap.size with h1 | h1
  · exact h1
  · have := h.blk
    rw [Array.getElem?_eq_none h1] at this; cases this
theorem KeepQ.step {w V V' : World} {H : List (RowS Int)} (h : KeepQ w H V) (hb : Below V.heap.size V V') : KeepQ w H V' :=
  ⟨h.len, by rw [hb.block _ h.lt]; exact h.blk, fun i hi => own_below (h.own i hi) hb, h.ap, since_step h.bel hb⟩
theorem KeepQ.alloc {w V : World} {H : List (RowS Int)} (h : KeepQ w H V) (o : Obj) : KeepQ w H (V.alloc o) := h.step ((Below.refl _ _).alloc (Nat.le_refl _) o)
theorem KeepQ.drew {w V : World} {H : List (RowS Int)} (h : KeepQ w H V) : KeepQ w H V.drew := h.step ⟨rfl, rfl, rfl, Nat.le_refl _, fun _ _ => rfl⟩
theorem KeepQ.cell {w V : World} {H : List (RowS Int)} (h : KeepQ w H V) {i : Nat} (hi : i < H.length) : V.cell? ⟨w.heap.size, i, none⟩ = some (.slice H[i].A H[i].l.length H[i].c) := by
  rw [cell_of_row V w.heap.size i _ 202 (0, 0) h.blk, ← Array.getElem?_toList]
  have e := rc_at (f := RowS.cells (α := Int)) (m := 1) RowS.len H i hi 0 (by decide)
  rw [Nat.mul_one, Nat.add_zero] at e
  simpa [RowS.cells] using e
theorem KeepQ.ne {w V : World} {H : List (RowS Int)} (h : KeepQ w H V) {i : Nat} (hi : i < H.length) : (Value.slice H[i].A H[i].l.length H[i].c).ownBlock ≠ some w.heap.size := own_type (h.own i hi) h.blk (by decide)
theorem KeepQ.blk_grown {w V W : World} {H : List (RowS Int)} (h : KeepQ w H V) {i : Nat} (hi : i < H.length) (hg : V.grownBy W (Value.slice H[i].A H[i].l.length H[i].c).ownBlock) : W.heap[w.heap.size]? = some (.cells (rc RowS.cells H).toArray 202 (0, 0)) := by
  rw [hg.block _ h.lt (fun e => h.ne hi e.symm)]; exact h.blk
theorem KeepQ.put {w V W : World} {H : List (RowS Int)} (h : KeepQ w H V) {i : Nat} (hi : i < H.length) {A' : Option Addr} {c' : Nat} {q : Int} (hg : V.grownBy W (Value.slice H[i].A H[i].l.length H[i].c).ownBlock)
    (hown : W.ownsRow w.heap.size 2 1 (.slice A' (H[i].l.length + 1) c') (H[i].l.length + 1) (ints .i64 H[i].l ++ [.int .i64 q]))
    (hv : (Value.slice A' (H[i].l.length + 1) c').ownBlock = (Value.slice H[i].A H[i].l.length H[i].c).ownBlock ∨ (Value.slice A' (H[i].l.length + 1) c').ownBlock = some V.heap.size) (hb : Below w.heap.size V W) :
    KeepQ w (H.set i ⟨A', c', H[i].l ++ [q]⟩) (W.setCell ⟨w.heap.size, i, none⟩ (.slice A' (H[i].l.length + 1) c')) := by
  have hblk := h.blk_grown hi hg
  have hA' : (Value.slice A' (H[i].l.length + 1) c').ownBlock ≠ some w.heap.size := own_type hown hblk (by decide)
  have hap : ∀ j, (hj : j < H.length) → i ≠ j → Apart (.slice A' (H[i].l.length + 1) c') (.slice H[j].A H[j].l.length H[j].c) := fun j hj hne => (h.ap i j hi hj hne).grow (h.own j hj) hv
  refine ⟨by rw [List.length_set]; exact h.len, ?_, ?_, ?_, Below.setCell (h.bel.trans hb) (p := ⟨w.heap.size, i, none⟩) (Nat.le_refl _) _⟩
  · rw [setCell_eq_setRow W w.heap.size i _ 202 (0, 0) _ hblk]
    have := setRow_heap W w.heap.size _ (((rc RowS.cells H).toArray).set! i (.slice A' (H[i].l.length + 1) c')) 202 (0, 0) hblk
    have e := rc_set_rowS H i ⟨A', c', H[i].l ++ [q]⟩
    simp only [List.length_append, List.length_cons, List.length_nil, Nat.zero_add] at e
    rw [← e]
    simpa using this
  · intro j hj
    rw [List.length_set] at hj
    by_cases e : i = j
    · subst e
      have h2 := own_far1 hown (p := ⟨w.heap.size, i, none⟩) hA' (.slice A' (H[i].l.length + 1) c')
      simp only [List.getElem_set_self, List.length_append, List.length_cons, List.length_nil, Nat.zero_add]
      have e2 : ints .i64 (H[i].l ++ [q]) = ints .i64 H[i].l ++ [.int .i64 q] := by simp [ints]
      rw [e2]
      exact h2
    · simp only [List.getElem_set_ne e]
      exact own_far1 (own_apart (h.own j hj) (h.ap i j hi hj e) hg) (p := ⟨w.heap.size, i, none⟩) (h.ne hj) _
  · intro j k hj hk hne
    rw [List.length_set] at hj hk
    by_cases e : i = j
    · subst e
      simp only [List.getElem_set_self, List.getElem_set_ne hne, List.length_append, List.length_cons, List.length_nil, Nat.zero_add]
      exact hap k hk hne
    · by_cases e2 : i = k
      · subst e2
        simp only [List.getElem_set_self, List.getElem_set_ne e, List.length_append, List.length_cons, List.length_nil, Nat.zero_add]
        exact (hap j hj e).symm
      · simp only [List.getElem_set_ne e, List.getElem_set_ne e2]
        exact h.ap j k hj hk hne
def nilQ : List (RowS Int) := List.replicate 9 ⟨none, 0, []⟩
theorem nilQ_at (i : Nat) (h : i < nilQ.length) : nilQ[i] = ⟨none, 0, []⟩ := List.eq_of_mem_replicate (List.getElem_mem h)
theorem KeepQ.new (w : World) : KeepQ w nilQ (w.alloc (.cells #[.slice none 0 0, .slice none 0 0, .slice none 0 0, .slice none 0 0, .slice none 0 0, .slice none 0 0, .slice none 0 0, .slice none 0 0, .slice none 0 0] 202)) := by
  refine ⟨rfl, heap_alloc_new w _, fun i hi => ?_, fun i j hi hj _ => ?_, since_alloc (Below.refl _ _) _⟩
  · rw [nilQ_at i hi]
    exact own_nil _ _ _
  · rw [nilQ_at i hi, nilQ_at j hj]
    exact Apart.none _
end Go.Proofs.Ytldnponbkhgijaa
end
section
namespace Go.Proofs.Ytldnponbkhgijaa
open Go.ChangeShapes Go.WideShapes Go.ChangeAt Go.RowKit
set_option linter.unusedVariables false
set_option linter.unusedSimpArgs false

theorem sumG_map (S : List (RowS Lg)) (i j : Nat) : sumG S i j = (((S.map RowS.l).take i).map fun l => getG l ((j : Int) + 1)).sum := by
  unfold sumG
  rw [← List.map_take, List.map_map]; rfl
theorem addR_eq {S U : List (RowS Lg)} (h : S.map RowS.l = U.map RowS.l) : addR S = addR U := by
  have hl : S.length = U.length := by have := congrArg List.length h; simpa using this
  have h1 : (∀ s ∈ S, isG s.l = true) ↔ ∀ s ∈ U, isG s.l = true := by
    have e : ∀ X : List (RowS Lg), (∀ s ∈ X, isG s.l = true) ↔ ∀ l ∈ X.map RowS.l, isG l = true := fun X => by
      constructor
      · intro hx l hl
        obtain ⟨s, hs, rfl⟩ := List.mem_map.1 hl
        exact hx s hs
      · intro hx s hs
        exact hx _ (List.mem_map.2 ⟨s, hs, rfl⟩)
    rw [e, e, h]
  have h2 : ((List.range 8).map fun j : Nat => sumG S S.length j) = (List.range 8).map fun j : Nat => sumG U U.length j := List.map_congr_left fun j _ => by rw [sumG_map, sumG_map, h, hl]
  unfold addR
  rw [h2]
  by_cases hs : ∀ s ∈ S, isG s.l = true
  · rw [if_pos hs, if_pos (h1.1 hs)]
  · rw [if_neg hs, if_neg (fun h => hs (h1.2 h))]
noncomputable def addL (L : List (List Lg)) : Int × List Lg := addR (L.map fun l => ⟨none, 0, l⟩)
theorem addR_L (S : List (RowS Lg)) : addR S = addL (S.map RowS.l) := addR_eq (by simp [List.map_map, Function.comp])
theorem sum_two (a b : List Lg) : addL [a, b] = if isG a = true ∧ isG b = true then ofR ((List.range 8).map fun j : Nat => getG a ((j : Int) + 1) + getG b ((j : Int) + 1)) else (3, []) := by
  unfold addL addR
  by_cases h : isG a = true ∧ isG b = true
  · rw [if_pos h, if_pos (by simp [h.1, h.2])]
    congr 1
    refine List.map_congr_left fun j _ => ?_
    rw [sumG_map]
    simp
  · rw [if_neg h, if_neg (by intro h2; exact h ⟨h2 ⟨none, 0, a⟩ (by simp), h2 ⟨none, 0, b⟩ (by simp)⟩)]
theorem legs_mem : ∀ (i : Int) (l : List Int), ∀ x ∈ legsF i l, i ≤ x.ins ∧ x.ins < i + l.length ∧ x.qty ≠ 0
  | _, [], x, h => by cases h
  | i, q :: r, x, h => by
    have ih := legs_mem (i + 1) r x
    unfold legsF at h
    simp only [List.length_cons]
    rcases List.mem_append.1 h with h | h
    · by_cases h0 : q = 0
      · rw [if_pos h0] at h; cases h
      · rw [if_neg h0] at h
        simp only [List.mem_singleton] at h
        subst h
        simp only
        exact ⟨by omega, by omega, h0⟩
    · have := ih h; omega
theorem legs_so : ∀ (i : Int) (l : List Int), SoG (legsF i l)
  | _, [] => List.Pairwise.nil
  | i, q :: r => by
    have ih := legs_so (i + 1) r
    unfold legsF
    by_cases h0 : q = 0
    · rw [if_pos h0]; exact ih
    · rw [if_neg h0, List.singleton_append]
      refine List.Pairwise.cons (fun x hx => ?_) ih
      have := legs_mem (i + 1) r x hx
      simp only
      omega
theorem ofR_is {l : List Int} (hl : l.length = 8) : isG (ofR l).2 = true := by
  unfold ofR
  split
  · refine (isG_iff _).2 ⟨fun x hx => ?_, legs_so _ _⟩
    have := legs_mem 1 l x hx
    omega
  · rfl
theorem addR_is (S : List (RowS Lg)) : isG (addR S).2 = true := by
  unfold addR
  split
  · exact ofR_is (by simp)
  · rfl
theorem rows_2 {w : World} {A1 A2 : Option Addr} {c1 c2 : Nat} {D R : List Lg} (h1 : Sl w A1 (rc Lg.cells D)) (h2 : Sl w A2 (rc Lg.cells R)) : RowsOk w Lg.cells [(⟨A1, c1, D⟩ : RowS Lg), ⟨A2, c2, R⟩] := fun s hs => by
  rcases List.mem_cons.1 hs with rfl | hs
  · exact h1
  · rcases List.mem_cons.1 hs with rfl | hs
    · exact h2
    · cases hs
theorem radd_2 (a b : List Lg) (ha : a.length ≤ 400000) (hb : b.length ≤ 400000) (a6 : ∀ y ∈ a, In64 y.qty) (b6 : ∀ y ∈ b, In64 y.qty) (A A1 A2 : Option Addr) (c1 c2 : Nat) (w : World) (h : Sl w A (rc RowS.cells [(⟨A1, c1, a⟩ : RowS Lg), ⟨A2, c2, b⟩])) (h1 : Sl w A1 (rc Lg.cells a)) (h2 : Sl w A2 (rc Lg.cells b)) :
    Calls Try.prog 51 #[.slice A 2 2] w fun e w' => GRes w.heap.size w' e (addL [a, b]) ∧ Below w.heap.size w w' := by
  have e := radd_any A 2 [(⟨A1, c1, a⟩ : RowS Lg), ⟨A2, c2, b⟩] w (by simp) (fun s hs => by rcases List.mem_cons.1 hs with rfl | hs; (simp only; omega); rcases List.mem_cons.1 hs with rfl | hs; (simp only; omega); cases hs)
    (fun s hs => by rcases List.mem_cons.1 hs with rfl | hs; exact a6; rcases List.mem_cons.1 hs with rfl | hs; exact b6; cases hs) h (rows_2 h1 h2)
  rw [addR_L] at e
  exact e
end Go.Proofs.Ytldnponbkhgijaa
end
