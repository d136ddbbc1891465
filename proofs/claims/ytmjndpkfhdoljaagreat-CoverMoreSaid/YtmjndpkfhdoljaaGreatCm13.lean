import Derived.Test.YtmjndpkfhdoljaaGreatCm12
set_option maxHeartbeats 16000000
set_option maxRecDepth 100000
set_option linter.unusedVariables false
set_option linter.unusedSimpArgs false
namespace Go.Proofs.YtmjndpkfhdoljaaGreat
open Go.ChangeShapes Go.WideShapes Go.ChangeAt Go.RowKit
section
theorem rc_set_rowS {α : Type} : ∀ (l : List (RowS α)) (k : Nat) (x : RowS α), (rc RowS.cells l).set k (.slice x.A x.l.length x.c) = rc RowS.cells (l.set k x)
  | [], k, _ => by simp [rc]
  | a :: l, 0, x => by simp [rc, RowS.cells]
  | a :: l, k + 1, x => by
    have ih := rc_set_rowS l k x
    rw [List.set_cons_succ, rc_cons, rc_cons, ← ih]
    simp [RowS.cells]
structure KeepQ (w : World) (H : List (RowS Int)) (V : World) : Prop where
  len : H.length = 9
  blk : V.heap[w.heap.size]? = some (.cells (rc RowS.cells H).toArray 183 (0, 0))
  own : ∀ i, (h : i < H.length) → V.ownsRow w.heap.size 2 1 (.slice H[i].A H[i].l.length H[i].c) H[i].l.length (ints .i64 H[i].l)
  ap : ∀ i j, (hi : i < H.length) → (hj : j < H.length) → i ≠ j → Apart_Apart (.slice H[i].A H[i].l.length H[i].c) (.slice H[j].A H[j].l.length H[j].c)
  bel : Below w.heap.size w V
theorem KeepQ.lt {w V : World} {H : List (RowS Int)} (h : KeepQ w H V) : w.heap.size < V.heap.size := by
  rcases Nat.lt_or_ge w.heap.size V.heap.size with h1 | h1
  · exact h1
  · have := h.blk
    rw [Array.getElem?_eq_none h1] at this; cases this
theorem KeepQ.step {w V V' : World} {H : List (RowS Int)} (h : KeepQ w H V) (hb : Below V.heap.size V V') : KeepQ w H V' :=
  ⟨h.len, by rw [hb.block _ h.lt]; exact h.blk, fun i hi => own_below (h.own i hi) hb, h.ap, since_step h.bel hb⟩
theorem KeepQ.alloc {w V : World} {H : List (RowS Int)} (h : KeepQ w H V) (o : Obj) : KeepQ w H (V.alloc o) := h.step ((Below.refl _ _).alloc (Nat.le_refl _) o)
theorem KeepQ.drew {w V : World} {H : List (RowS Int)} (h : KeepQ w H V) : KeepQ w H V.drew := h.step ⟨rfl, rfl, rfl, Nat.le_refl _, fun _ _ => rfl⟩
theorem KeepQ.cell {w V : World} {H : List (RowS Int)} (h : KeepQ w H V) {i : Nat} (hi : i < H.length) : V.cell? ⟨w.heap.size, i, none⟩ = some (.slice H[i].A H[i].l.length H[i].c) := by
  rw [cell_of_row V w.heap.size i _ 183 (0, 0) h.blk, ← Array.getElem?_toList]
  have e := rc_at (f := RowS.cells (α := Int)) (m := 1) RowS.len H i hi 0 (by decide)
  rw [Nat.mul_one, Nat.add_zero] at e
  simpa [RowS.cells] using e
theorem cell_rowQ {V : World} {g : Nat} {H : List (RowS Int)} (h : V.heap[g]? = some (.cells (rc RowS.cells H).toArray 183 (0, 0))) {i : Nat} (hi : i < H.length) : V.cell? ⟨g, i, none⟩ = some (.slice H[i].A H[i].l.length H[i].c) := by
  rw [cell_of_row V g i _ 183 (0, 0) h, ← Array.getElem?_toList]
  have e := rc_at (f := RowS.cells (α := Int)) (m := 1) RowS.len H i hi 0 (by decide)
  rw [Nat.mul_one, Nat.add_zero] at e
  simpa [RowS.cells] using e
theorem own_neQ {w : World} {base e size n g : Nat} {v : Value} {xs : List Value} (h : w.ownsRow base e size v n xs) (hg : w.heap.size ≤ g) : v.ownBlock ≠ some g := by
  intro h2
  rcases h.2 with ⟨rfl, _⟩ | ⟨g', cap, cur, rfl, _, hh, _⟩
  · simp [Value.ownBlock] at h2
  · simp only [Value.ownBlock, Option.some.injEq] at h2
    subst h2
    rw [Array.getElem?_eq_none hg] at hh
    cases hh
theorem KeepQ.ne {w V : World} {H : List (RowS Int)} (h : KeepQ w H V) {i : Nat} (hi : i < H.length) : (Value.slice H[i].A H[i].l.length H[i].c).ownBlock ≠ some w.heap.size := own_type (h.own i hi) h.blk (by decide)
theorem KeepQ.blk_grown {w V W : World} {H : List (RowS Int)} (h : KeepQ w H V) {i : Nat} (hi : i < H.length) (hg : V.grownBy W (Value.slice H[i].A H[i].l.length H[i].c).ownBlock) : W.heap[w.heap.size]? = some (.cells (rc RowS.cells H).toArray 183 (0, 0)) := by
  rw [hg.block _ h.lt (fun e => h.ne hi e.symm)]; exact h.blk
theorem KeepQ.put {w V W : World} {H : List (RowS Int)} (h : KeepQ w H V) {i : Nat} (hi : i < H.length) {A' : Option Addr} {c' : Nat} {q : Int} (hg : V.grownBy W (Value.slice H[i].A H[i].l.length H[i].c).ownBlock)
    (hown : W.ownsRow w.heap.size 2 1 (.slice A' (H[i].l.length + 1) c') (H[i].l.length + 1) (ints .i64 H[i].l ++ [.int .i64 q]))
    (hv : (Value.slice A' (H[i].l.length + 1) c').ownBlock = (Value.slice H[i].A H[i].l.length H[i].c).ownBlock ∨ (Value.slice A' (H[i].l.length + 1) c').ownBlock = some V.heap.size) (hb : Below w.heap.size V W) :
    KeepQ w (H.set i ⟨A', c', H[i].l ++ [q]⟩) (W.setCell ⟨w.heap.size, i, none⟩ (.slice A' (H[i].l.length + 1) c')) := by
  have hblk := h.blk_grown hi hg
  have hA' : (Value.slice A' (H[i].l.length + 1) c').ownBlock ≠ some w.heap.size := own_type hown hblk (by decide)
  have hap : ∀ j, (hj : j < H.length) → i ≠ j → Apart_Apart (.slice A' (H[i].l.length + 1) c') (.slice H[j].A H[j].l.length H[j].c) := fun j hj hne => (h.ap i j hi hj hne).grow (h.own j hj) hv
  refine ⟨by rw [List.length_set]; exact h.len, ?_, ?_, ?_, Below.setCell (h.bel.trans hb) (p := ⟨w.heap.size, i, none⟩) (Nat.le_refl _) _⟩
  · rw [setCell_eq_setRow W w.heap.size i _ 183 (0, 0) _ hblk]
    have := setRow_heap W w.heap.size _ (((rc RowS.cells H).toArray).set! i (.slice A' (H[i].l.length + 1) c')) 183 (0, 0) hblk
    have e := rc_set_rowS H i ⟨A', c', H[i].l ++ [q]⟩
    simp only [List.length_append, List.length_cons, List.length_nil, Nat.zero_add] at e
    rw [← e]
    simpa using this
  · intro j hj
    rw [List.length_set] at hj
    by_cases e : i = j
    · subst e
      have h2 := own_far1 hown (p := ⟨w.heap.size, i, none⟩) hA' (.slice A' (H[i].l.length + 1) c')
      simp only [List.getElem_set_self, List.length_append, List.length_cons, List.length_nil, Nat.zero_add]
      have e2 : ints .i64 (H[i].l ++ [q]) = ints .i64 H[i].l ++ [.int .i64 q] := by simp [ints]
      rw [e2]
      exact h2
    · simp only [List.getElem_set_ne e]
      exact own_far1 (own_apart_Apart (h.own j hj) (h.ap i j hi hj e) hg) (p := ⟨w.heap.size, i, none⟩) (h.ne hj) _
  · intro j k hj hk hne
    rw [List.length_set] at hj hk
    by_cases e : i = j
    · subst e
      simp only [List.getElem_set_self, List.getElem_set_ne hne, List.length_append, List.length_cons, List.length_nil, Nat.zero_add]
      exact hap k hk hne
    · by_cases e2 : i = k
      · subst e2
        simp only [List.getElem_set_self, List.getElem_set_ne e, List.length_append, List.length_cons, List.length_nil, Nat.zero_add]
        exact (hap j hj e).symm
      · simp only [List.getElem_set_ne e, List.getElem_set_ne e2]
        exact h.ap j k hj hk hne
def nilQ : List (RowS Int) := List.replicate 9 ⟨none, 0, []⟩
theorem nilQ_at (i : Nat) (h : i < nilQ.length) : nilQ[i] = ⟨none, 0, []⟩ := List.eq_of_mem_replicate (List.getElem_mem h)
theorem KeepQ.new (w : World) : KeepQ w nilQ (w.alloc (.cells #[.slice none 0 0, .slice none 0 0, .slice none 0 0, .slice none 0 0, .slice none 0 0, .slice none 0 0, .slice none 0 0, .slice none 0 0, .slice none 0 0] 183)) := by
  refine ⟨rfl, heap_alloc_new w _, fun i hi => ?_, fun i j hi hj _ => ?_, since_alloc (Below.refl _ _) _⟩
  · rw [nilQ_at i hi]
    exact own_nil _ _ _
  · rw [nilQ_at i hi, nilQ_at j hj]
    exact Apart_Apart.none _
theorem len9 {H : List (RowS Int)} (h : H.length = 9) : ∃ h0 h1 h2 h3 h4 h5 h6 h7 h8, H = [h0, h1, h2, h3, h4, h5, h6, h7, h8] := by
  match H, h with
  | [h0, h1, h2, h3, h4, h5, h6, h7, h8], _ => exact ⟨h0, h1, h2, h3, h4, h5, h6, h7, h8, rfl⟩
theorem index9 (h0 h1 h2 h3 h4 h5 h6 h7 h8 : RowS Int) (k : Nat) (h : k < [h0, h1, h2, h3, h4, h5, h6, h7, h8].length) (W : World) :
    (Instr.index 183 (.agg #[.slice h0.A h0.l.length h0.c, .slice h1.A h1.l.length h1.c, .slice h2.A h2.l.length h2.c, .slice h3.A h3.l.length h3.c, .slice h4.A h4.l.length h4.c, .slice h5.A h5.l.length h5.c, .slice h6.A h6.l.length h6.c, .slice h7.A h7.l.length h7.c, .slice h8.A h8.l.length h8.c]) (.int .i64 (k : Int))).run Tryz.prog W = .ok (.slice [h0, h1, h2, h3, h4, h5, h6, h7, h8][k].A [h0, h1, h2, h3, h4, h5, h6, h7, h8][k].l.length [h0, h1, h2, h3, h4, h5, h6, h7, h8][k].c) W := by
  have h9 : k < 9 := h
  have hk : k = 0 ∨ k = 1 ∨ k = 2 ∨ k = 3 ∨ k = 4 ∨ k = 5 ∨ k = 6 ∨ k = 7 ∨ k = 8 := by omega
  rcases hk with rfl | rfl | rfl | rfl | rfl | rfl | rfl | rfl | rfl <;> (show _ = _; kernel_rfl)
def colG (P : List Lg) (i : Nat) : List Int := (P.filter (inG i)).map Lg.qty
theorem colG_snoc (P : List Lg) (x : Lg) (i : Nat) : colG (P ++ [x]) i = colG P i ++ if x.ins = (i : Int) then [x.qty] else [] := by
  unfold colG
  rw [List.filter_append, List.map_append]
  congr 1
  by_cases h : x.ins = (i : Int)
  · rw [if_pos h]; simp [inG, h]
  · rw [if_neg h]; simp [inG, h]
theorem colG_append (P Q : List Lg) (i : Nat) : colG (P ++ Q) i = colG P i ++ colG Q i := by unfold colG; rw [List.filter_append, List.map_append]
theorem colG_len (P : List Lg) (i : Nat) : (colG P i).length ≤ P.length := by unfold colG; rw [List.length_map]; exact List.length_filter_le _ _
theorem colG_in {P : List Lg} (h : ∀ y ∈ P, In64 y.qty) (i : Nat) : All64 (colG P i) := fun z hz => by
  unfold colG at hz
  obtain ⟨y, hy, rfl⟩ := List.mem_map.1 hz
  exact h y (List.mem_filter.1 hy).1
theorem colG_get : ∀ {l : List Lg}, SoG l → ∀ i : Nat, (colG l i).sum = getG l i
  | [], _, i => rfl
  | x :: r, h, i => by
    have ih := colG_get h.of_cons i
    have e : colG (x :: r) i = (if x.ins = (i : Int) then [x.qty] else []) ++ colG r i := by
      have := colG_append [x] r i
      rw [List.singleton_append] at this
      rw [this]
      congr 1
      have := colG_snoc [] x i
      simpa [colG] using this
    rw [e, getG_cons]
    by_cases hx : x.ins = (i : Int)
    · rw [if_pos hx, if_pos hx, List.sum_append, ih, getG_none (fun y hy => by have := List.rel_of_pairwise_cons h hy; omega)]
      simp
    · rw [if_neg hx, if_neg hx, List.nil_append, ih]
theorem colG_all {S : List (RowS Lg)} (h : ∀ s ∈ S, isG s.l = true) (j : Nat) : (colG (RowS.all S) (j + 1)).sum = sumG S S.length j := by
  unfold sumG
  rw [List.take_length]
  induction S with
  | nil => rfl
  | cons s S ih =>
    rw [RowS.all_cons, colG_append, List.sum_append, ih (fun r hr => h r (by simp [hr])), List.map_cons, List.sum_cons, colG_get ((isG_iff s.l).1 (h s (by simp))).2]
    rfl
theorem colG_zero {S : List (RowS Lg)} (h : ∀ s ∈ S, isG s.l = true) : colG (RowS.all S) 0 = [] := by
  induction S with
  | nil => rfl
  | cons s S ih =>
    rw [RowS.all_cons, colG_append, ih (fun r hr => h r (by simp [hr])), List.append_nil]
    unfold colG
    rw [List.map_eq_nil_iff, List.filter_eq_nil_iff]
    intro x hx
    have := ((isG_iff s.l).1 (h s (by simp))).1 x hx
    simp [inG]
    omega
def numsG (S : List (RowS Lg)) : List Int := (List.range 9).map fun k : Nat => (colG (RowS.all S) k).sum
theorem numsG_at (S : List (RowS Lg)) (k : Nat) (h : k < (numsG S).length) : (numsG S)[k] = (colG (RowS.all S) k).sum := by simp [numsG]
theorem numsG_eq {S : List (RowS Lg)} (h : ∀ s ∈ S, isG s.l = true) : numsG S = 0 :: (List.range 8).map fun j : Nat => sumG S S.length j := by
  unfold numsG
  rw [List.range_succ_eq_map, List.map_cons, List.map_map, colG_zero h]
  congr 1
  refine List.map_congr_left fun j _ => ?_
  exact colG_all h j
theorem numsG_ok {S : List (RowS Lg)} (h : ∀ s ∈ S, isG s.l = true) (h6 : ∀ z ∈ numsG S, In64 z) : addR S = (0, legsF 0 (numsG S)) := by
  rw [numsG_eq h] at h6 ⊢
  unfold addR ofR
  rw [if_pos h, if_pos (fun q hq => h6 q (by simp only [List.mem_cons]; exact .inr hq)), legsF, if_pos rfl]
  rfl
theorem numsG_bad {S : List (RowS Lg)} (h : ∀ s ∈ S, isG s.l = true) {z : Int} (hz : z ∈ numsG S) (h6 : ¬ In64 z) : addR S = (7, []) := by
  rw [numsG_eq h] at hz
  unfold addR ofR
  rw [if_pos h, if_neg]
  intro hq
  rcases List.mem_cons.1 hz with rfl | hz
  · exact h6 (by unfold In64; omega)
  · exact h6 (hq z hz)
theorem drop_step0 {zs : List Int} {k : Nat} (h : k < zs.length) {D X : List Lg} (he : D ++ legsF (k : Int) (zs.drop k) = X) : (D ++ if zs[k] = 0 then [] else [⟨(k : Int), zs[k]⟩]) ++ legsF ((k + 1 : Nat) : Int) (zs.drop (k + 1)) = X := by
  rw [← he, List.drop_eq_getElem_cons h, legsF, List.append_assoc]
  rfl
theorem vadd_any (A : Option Addr) (cap : Nat) (S : List (RowS Lg)) (w : World) (hl : S.length ≤ 1000000) (hn : (RowS.all S).length ≤ 900000) (hq : ∀ y ∈ RowS.all S, In64 y.qty) (hs : Sl w A (rc RowS.cells S)) (ho : RowsOk w Lg.cells S) :
  Calls Tryz.prog 97 #[.slice A S.length cap] w fun e w' => GRes w.heap.size w' e (addR S) ∧ Below w.heap.size w w' := by
 have HAL := Lib.hid hn
 have HQ := Lib.hid hq
 have HBAD : Hid (∀ i, (h : i < S.length) → isG S[i].l = false → addR S = (3, [])) := Lib.hid fun i h hb => by
  unfold addR
  rw [if_neg (fun h2 => by rw [h2 _ (List.getElem_mem h)] at hb; cases hb)]
 have HEND : Hid ((∀ j, (hj : j < S.length) → isG S[j].l = true) → ∀ s ∈ S, isG s.l = true) := Lib.hid fun h s hs => by obtain ⟨j, hj, rfl⟩ := List.getElem_of_mem hs; exact h j hj
 have hQ0 := KeepQ.new w
 have hs0 := hs.alloc (.cells #[.slice none 0 0, .slice none 0 0, .slice none 0 0, .slice none 0 0, .slice none 0 0, .slice none 0 0, .slice none 0 0, .slice none 0 0, .slice none 0 0] 183)
 obtain ⟨RR, hRR⟩ : ∃ RR, addR S = RR := ⟨_, rfl⟩
 have HRR := Lib.hid hRR
 rw [hRR] at HBAD ⊢
 clear hn hq hRR hs0
 go_enter Tryz.func97, Tryz.ntmps97
 go_upto_region 2 with fail
 generalize hWW : w.alloc (.cells #[.slice none 0 0, .slice none 0 0, .slice none 0 0, .slice none 0 0, .slice none 0 0, .slice none 0 0, .slice none 0 0, .slice none 0 0, .slice none 0 0] 183) = W0 at *
 clear hWW
 go_wp2_with fail
 go_loopw [16] (fun iv wr => ∃ (i : Nat) (H : List (RowS Int)), i ≤ S.length ∧ iv = .int .i64 i ∧ (∀ j, (hj : j < S.length) → j < i → isG S[j].l = true) ∧ KeepQ w H wr ∧ (∀ m, (hm : m < H.length) → H[m].l = colG (RowS.all (S.take i)) m)) (fun iv _ => S.length - (intOf iv).toNat)
 case atStart => exact ⟨0, nilQ, by omega, rfl, fun j hj h => absurd h (by omega), hQ0, fun m hm => by rw [nilQ_at m hm]; rfl⟩
 case round =>
  obtain ⟨i0, H, hi, rfl, hno, hQ, hcol⟩ := hrel
  clear hQ0
  by_cases hlt : i0 < S.length
  ·have hli : (i0 : Int) < (S.length : Int) := by omega
   have HNX : Hid (isG S[i0].l = true → ∀ j, (hj : j < S.length) → j < i0 + 1 → isG S[j].l = true) := Lib.hid (fun h j hj hjk => by
    rcases Nat.lt_or_ge j i0 with h' | h'
    ·exact hno j hj h'
    ·obtain rfl : j = i0 := by omega
     exact h)
   have HBD := Lib.hid (HBAD.out i0 hlt)
   have hT := RowS.all_take hlt
   have hle := @all_len_le _ S (i0 + 1)
   have hNo := HAL.out
   rw [hT, List.length_append] at hle
   have HT := Lib.hid hT
   have HQ6 : Hid (∀ y ∈ S[i0].l, In64 y.qty) := Lib.hid fun y hy => HQ.out y (by rw [RowS.all, List.mem_flatten]; exact ⟨S[i0].l, List.mem_map.2 ⟨S[i0], List.getElem_mem hlt, rfl⟩, hy⟩)
   obtain ⟨b, o, rfl, hbw, hg⟩ := hs.rowS hlt
   have hin := ho S[i0] (List.getElem_mem hlt)
   obtain ⟨P, hP⟩ : ∃ P, RowS.all (S.take i0) = P := ⟨_, rfl⟩
   obtain ⟨⟨sA, sc, sl⟩, hs1⟩ : ∃ s, S[i0] = s := ⟨_, rfl⟩
   rw [hP] at hcol hle HT
   rw [hs1] at hin hg HBD HNX HQ6 hle HT
   simp only at hin hg HBD HNX HQ6 hle HT
   have hll : P.length + sl.length ≤ 900000 := by omega
   have g2 := (hQ.bel.cell (p := ⟨b, o + i0, none⟩) hbw).trans hg
   have HIN : Hid (∀ V, Below w.heap.size w V → Sl V sA (rc Lg.cells sl)) := Lib.hid fun V hV => hin.below hV
   have HIS := Lib.hid (fun V h => vis_any sA sc sl V (by omega) h)
   have hge : (0 : Int) ≤ (i0 : Int) := by omega
   clear hno hs1 hin hg hP hle hT hNo
   cases hq : isG sl with
   | false =>
    have HE := Lib.hid (HBD.out hq)
    rw [hq] at HIS
    clear hq HBD HNX hcol
    go_wp2_with fail
    refine (HIS.out _ (HIN.out _ hQ.bel)).mono ?_
    rintro e w2 ⟨rfl, hb⟩
    have hB2 := since_step hQ.bel hb
    go_wp2_with fail
    go_ret2
    rw [HE.out]
    exact ⟨GRes.nil _ _ _, hB2⟩
   | true =>
    have HN1 := Lib.hid (HNX.out hq)
    have HIG := Lib.hid ((isG_iff sl).1 hq).1
    have HC0 := Lib.hid hcol
    rw [hq] at HIS
    clear hq HBD HNX hcol
    go_wp2_with fail
    refine (HIS.out _ (HIN.out _ hQ.bel)).mono ?_
    rintro e w2 ⟨rfl, hb⟩
    have hQs := hQ.step hb
    clear hb g2 HIS hQ
    generalize wr = wz at *
    go_wp2_with fail
    go_loopw [25] (fun kv wr => ∃ (k : Nat) (H : List (RowS Int)), k ≤ sl.length ∧ kv = .int .i64 k ∧ KeepQ w H wr ∧ (∀ m, (hm : m < H.length) → H[m].l = colG (P ++ sl.take k) m)) (fun kv _ => sl.length - (intOf kv).toNat)
    case atStart => exact ⟨0, H, by omega, rfl, hQs, fun m hm => by rw [HC0.out m hm]; simp⟩
    case round =>
     clear hQs HC0
     obtain ⟨k, H, hk, rfl, hQ, hcol⟩ := hrel
     by_cases hlt2 : k < sl.length
     ·obtain ⟨b2, o2, rfl, hbw2, hg⟩ := (HIN.out _ hQ.bel).lg hlt2
      have hlk : (k : Int) < (sl.length : Int) := by omega
      obtain ⟨hi1, hi8, hq0⟩ := HIG.out _ (List.getElem_mem hlt2)
      have HTK : Hid (P ++ sl.take (k + 1) = (P ++ sl.take k) ++ [sl[k]]) := Lib.hid (by rw [List.take_succ_eq_append_getElem hlt2, List.append_assoc])
      have hPl : (P ++ sl.take k).length ≤ 900000 := by rw [List.length_append, List.length_take]; omega
      obtain ⟨v, hv⟩ : ∃ v, sl[k] = v := ⟨_, rfl⟩
      obtain ⟨PP, hPP⟩ : ∃ PP, P ++ sl.take k = PP := ⟨_, rfl⟩
      rw [hv] at hg hi1 hi8 HTK
      rw [hPP] at hcol HTK hPl
      obtain ⟨vi, xq⟩ := v
      simp only at hi1 hi8
      obtain ⟨i, rfl⟩ := Int.eq_ofNat_of_zero_le (show 0 ≤ vi by omega)
      obtain ⟨g0, g1⟩ := hg
      simp only at g0 g1
      have hi9 : i < H.length := by rw [hQ.len]; omega
      have hcl := hcol i hi9
      have hxl : H[i].l.length ≤ 900000 := by rw [hcl]; exact Nat.le_trans (colG_len PP i) hPl
      have hil : (0 : Int) ≤ (i : Int) := by omega
      have hiu : (i : Int) < 9 := by omega
      have hwl := hQ.lt
      have HNE := Lib.hid (own_neQ (hQ.own i hi9) (Nat.le_refl _))
      have HC5 := Lib.hid (fun V (h : KeepQ w H V) => h.cell hi9)
      have HOW := Lib.hid (fun V (h : KeepQ w H V) => h.own i hi9)
      have HBG := Lib.hid (fun V W (h : KeepQ w H V) hg => h.blk_grown (W := W) hi9 hg)
      have HBC := Lib.hid (fun V h => cell_rowQ (V := V) (g := w.heap.size) (H := H) h hi9)
      have HPT := Lib.hid (fun V W A2 c2 (h : KeepQ w H V) hg hown hv hb => h.put (W := W) (A' := A2) (c' := c2) (q := xq) hi9 hg hown hv hb)
      obtain ⟨x, hx⟩ : ∃ x, H[i] = x := ⟨_, rfl⟩
      have HKN : Hid (∀ A2 c2 FW, KeepQ w (H.set i ⟨A2, c2, x.l ++ [xq]⟩) FW → KeepQ w (H.set i ⟨A2, c2, x.l ++ [xq]⟩) FW ∧ ∀ m, (hm : m < (H.set i ⟨A2, c2, x.l ++ [xq]⟩).length) → (H.set i ⟨A2, c2, x.l ++ [xq]⟩)[m].l = colG (P ++ sl.take (k + 1)) m) := Lib.hid fun A2 c2 FW h => ⟨h, fun m hm => by
       rw [List.length_set] at hm
       rw [HTK.out, colG_snoc, List.getElem_set]
       by_cases e : i = m
       ·subst e
        rw [if_pos rfl, if_pos rfl]
        simp only
        rw [← hx, hcl]
       ·rw [if_neg e, if_neg (by simp only; omega), List.append_nil]
        exact hcol m hm⟩
      rw [hx] at HNE hxl
      simp only [hx] at HC5 HOW HBG HBC HPT
      have hZ := Bk.new wr #[.int .i64 (i : Int), .int .i64 xq] 151
      have hQ1 := hQ.alloc (.cells #[.int .i64 (i : Int), .int .i64 xq] 151)
      have HBX := Lib.hid (show w.heap.size ≠ wr.heap.size by omega)
      clear hcl hx hcol HTK hi9 hwl hQ hq0 hPP hPl hv
      go_upto_region 10 with fail
      generalize hWW : wr.alloc (.cells #[.int .i64 (i : Int), .int .i64 xq] 151) = W1 at *
      generalize hbx : wr.heap.size = bx at *
      clear hWW hbx g0 g1
      have hQ := hQ1.drew
      refine wp_region_held_drew (S := (fun V => Below w.heap.size w V ∧ Bk V bx #[.int .i64 (i : Int), .int .i64 xq])) (by kernel_rfl) (by exact ⟨hQ1.bel.drew, hZ.drew⟩) (fun hHeld => ?_)
      refine tkI 0 29 rfl (by intro w hSw; obtain ⟨lk, ck⟩ := And.right hSw; have k0 := ck 0; have k1 := ck 1; simp at k0 k1; clear ck; go_simp <;> with_reducible rfl) hHeld ?_; simp only [pqZ]
      refine tkI 1 30 rfl (by intro w hSw; obtain ⟨lk, ck⟩ := And.right hSw; have k0 := ck 0; have k1 := ck 1; simp at k0 k1; clear ck; go_simp <;> with_reducible rfl) hHeld ?_; simp only [pqZ]
      refine tkI 2 31 rfl (by intro w hSw; obtain ⟨lk, ck⟩ := And.right hSw; have k0 := ck 0; have k1 := ck 1; simp at k0 k1; clear ck; go_simp <;> with_reducible rfl) hHeld ?_; simp only [pqZ]
      refine tkI 3 32 rfl (by intro w hSw; obtain ⟨lk, ck⟩ := And.right hSw; have k0 := ck 0; have k1 := ck 1; simp at k0 k1; clear ck; go_simp <;> with_reducible rfl) hHeld ?_; simp only [pqZ]
      refine tkI 4 33 rfl (by intro w hSw; obtain ⟨lk, ck⟩ := And.right hSw; have k0 := ck 0; have k1 := ck 1; simp at k0 k1; clear ck; go_simp <;> with_reducible rfl) hHeld ?_; simp only [pqZ]
      refine tkI 6 35 rfl (by intro w hSw; obtain ⟨lk, ck⟩ := And.right hSw; have k0 := ck 0; have k1 := ck 1; simp at k0 k1; clear ck; go_simp <;> with_reducible rfl) hHeld ?_; simp only [pqZ]
      refine tkI 7 36 rfl (by intro w hSw; obtain ⟨lk, ck⟩ := And.right hSw; have k0 := ck 0; have k1 := ck 1; simp at k0 k1; clear ck; go_simp <;> with_reducible rfl) hHeld ?_; simp only [pqZ]
      refine wpAnyH_ready (rs := [5, 8]) (by kernel_rfl) (by simp) ?_
      refine AllReadyH.cons (o := ⟨some 34, _, _, _, _, _⟩) rfl (fun K hK => ?_) (AllReadyH.cons (o := ⟨some 37, _, _, _, _, _⟩) rfl (fun K hK => ?_) AllReadyH.nil)
      ·have hHd := hHeld
       obtain ⟨lk, ck⟩ := And.right hHd; have k0 := ck 0; have k1 := ck 1; simp at k0 k1; clear ck
       have hc5 := HC5.out _ hQ
       have hKeep := hHeld
       go_simp
       refine hK.out _ _ (by (try dsimp only); exact hKeep) (fun hHeld => ?_); clear hK K hKeep; try simp only [pqZ]
       refine rdZ 8 37 rfl (by kernel_rfl) (fun K hK => ?_)
       have hHd := hHeld
       obtain ⟨lk, ck⟩ := And.right hHd; have k0 := ck 0; have k1 := ck 1; simp at k0 k1; clear ck
       have HU := (Sl.new_ W1 (ints .i64 [xq]) 2).drew
       have hZ2 := (hZ.alloc (.cells #[.int .i64 xq] 2)).drew
       have hKeep : Below w.heap.size w _ ∧ Bk _ bx #[.int .i64 (i : Int), .int .i64 xq] := ⟨since_alloc hHeld.1 (.cells #[.int .i64 xq] 2), hZ2⟩
       have hQ := (hQ1.alloc (.cells #[.int .i64 xq] 2)).drew
       go_simp
       refine hK.out _ _ (by (try dsimp only); exact hKeep) (fun hHeld => ?_); clear hK K hKeep; try simp only [pqZ]
       refine rdZ 9 38 rfl (by kernel_rfl) (fun K hK => ?_)
       have hown1 := HOW.out _ hQ
       have hsz := (KeepQ.bel hQ).size
       refine step_app2 rfl (.tmp 34) (.tmp 37) rfl EI64 (n := x.l.length) (m := 1) (c := x.c) (d := 1) (A := x.A) (B := some ⟨W1.heap.size, 0, none⟩) (by simp [Act.eval, Act.put]; done) (by simp [Act.eval, Act.put]; done) hown1 (news := ints .i64 [xq]) rfl (by decide) HU (ints_one _ _) (by unfold maxLen; omega) (by omega) hsz ?_
       intro A2 c2 u2 hown2 hg2 hv2 hb2
       have hZ3 := hZ2.grown hg2 HNE.out
       have hKeep : Below w.heap.size w u2 ∧ Bk u2 bx #[.int .i64 (i : Int), .int .i64 xq] := ⟨(KeepQ.bel hQ).trans hb2, hZ3⟩
       refine hK.out _ _ (by (try dsimp only); exact hKeep) (fun hHeld => ?_); clear hK K hKeep; try simp only [pqZ]
       refine tkI 10 39 rfl (by intro w hSw; obtain ⟨lk, ck⟩ := And.right hSw; have k0 := ck 0; have k1 := ck 1; simp at k0 k1; clear ck; go_simp <;> with_reducible rfl) hHeld ?_; simp only [pqZ]
       refine wpAnyH_ready (rs := [11]) (by kernel_rfl) (by simp) ?_
       refine AllReadyH.cons (o := ⟨none, _, _, _, _, _⟩) rfl (fun K hK => ?_) AllReadyH.nil
       have hHd := hHeld
       obtain ⟨lk, ck⟩ := And.right hHd; have k0 := ck 0; have k1 := ck 1; simp at k0 k1; clear ck
       have hbk := HBG.out _ _ hQ hg2
       have hc5 : u2.cell? ⟨w.heap.size, i, none⟩ = some (.slice x.A x.l.length x.c) := HBC.out _ hbk
       have hf5 : u2.frozen? ⟨w.heap.size, i, none⟩ = false := by simp [World.frozen?, hbk]
       have hQN := HPT.out _ u2 A2 c2 hQ hg2 hown2 hv2 hb2
       have hKeep : Below w.heap.size w (u2.setCell ⟨w.heap.size, i, none⟩ (.slice A2 (x.l.length + 1) c2)) ∧ Bk (u2.setCell ⟨w.heap.size, i, none⟩ (.slice A2 (x.l.length + 1) c2)) bx #[.int .i64 (i : Int), .int .i64 xq] := ⟨Below.setCell hHeld.1 (p := ⟨w.heap.size, i, none⟩) (Nat.le_refl _) _, hZ3.far1 (p := ⟨w.heap.size, i, none⟩) HBX.out _⟩
       clear hbk
       skip
       go_simp
       refine hK.out _ _ (by (try dsimp only); exact hKeep) (fun hHeld => ?_); clear hK K hKeep; try simp only [pqZ]
       refine wpAnyH_done (by kernel_rfl) ?_ _
       generalize hFW : (u2.setCell ⟨w.heap.size, i, none⟩ (.slice A2 (x.l.length + 1) c2)) = FW at *
       have hQ2 := HKN.out _ _ _ hQN
       clear hFW hQN
       go_wp2_with fail
       go_roundw
       case rel => exact ⟨k + 1, H.set i ⟨A2, c2, x.l ++ [xq]⟩, by omega, by go_num, hQ2.1, hQ2.2⟩
       case measure => simp [intOf]; omega
      ·have hHd := hHeld
       obtain ⟨lk, ck⟩ := And.right hHd; have k0 := ck 0; have k1 := ck 1; simp at k0 k1; clear ck
       have HU := (Sl.new_ W1 (ints .i64 [xq]) 2).drew
       have hZ2 := (hZ.alloc (.cells #[.int .i64 xq] 2)).drew
       have hKeep : Below w.heap.size w _ ∧ Bk _ bx #[.int .i64 (i : Int), .int .i64 xq] := ⟨since_alloc hHeld.1 (.cells #[.int .i64 xq] 2), hZ2⟩
       have hQ := (hQ1.alloc (.cells #[.int .i64 xq] 2)).drew
       go_simp
       refine hK.out _ _ (by (try dsimp only); exact hKeep) (fun hHeld => ?_); clear hK K hKeep; try simp only [pqZ]
       refine rdZ 5 34 rfl (by kernel_rfl) (fun K hK => ?_)
       have hHd := hHeld
       obtain ⟨lk, ck⟩ := And.right hHd; have k0 := ck 0; have k1 := ck 1; simp at k0 k1; clear ck
       have hc5 := HC5.out _ hQ
       have hKeep := hHeld
       go_simp
       refine hK.out _ _ (by (try dsimp only); exact hKeep) (fun hHeld => ?_); clear hK K hKeep; try simp only [pqZ]
       refine rdZ 9 38 rfl (by kernel_rfl) (fun K hK => ?_)
       have hown1 := HOW.out _ hQ
       have hsz := (KeepQ.bel hQ).size
       refine step_app2 rfl (.tmp 34) (.tmp 37) rfl EI64 (n := x.l.length) (m := 1) (c := x.c) (d := 1) (A := x.A) (B := some ⟨W1.heap.size, 0, none⟩) (by simp [Act.eval, Act.put]; done) (by simp [Act.eval, Act.put]; done) hown1 (news := ints .i64 [xq]) rfl (by decide) HU (ints_one _ _) (by unfold maxLen; omega) (by omega) hsz ?_
       intro A2 c2 u2 hown2 hg2 hv2 hb2
       have hZ3 := hZ2.grown hg2 HNE.out
       have hKeep : Below w.heap.size w u2 ∧ Bk u2 bx #[.int .i64 (i : Int), .int .i64 xq] := ⟨(KeepQ.bel hQ).trans hb2, hZ3⟩
       refine hK.out _ _ (by (try dsimp only); exact hKeep) (fun hHeld => ?_); clear hK K hKeep; try simp only [pqZ]
       refine tkI 10 39 rfl (by intro w hSw; obtain ⟨lk, ck⟩ := And.right hSw; have k0 := ck 0; have k1 := ck 1; simp at k0 k1; clear ck; go_simp <;> with_reducible rfl) hHeld ?_; simp only [pqZ]
       refine wpAnyH_ready (rs := [11]) (by kernel_rfl) (by simp) ?_
       refine AllReadyH.cons (o := ⟨none, _, _, _, _, _⟩) rfl (fun K hK => ?_) AllReadyH.nil
       have hHd := hHeld
       obtain ⟨lk, ck⟩ := And.right hHd; have k0 := ck 0; have k1 := ck 1; simp at k0 k1; clear ck
       have hbk := HBG.out _ _ hQ hg2
       have hc5 : u2.cell? ⟨w.heap.size, i, none⟩ = some (.slice x.A x.l.length x.c) := HBC.out _ hbk
       have hf5 : u2.frozen? ⟨w.heap.size, i, none⟩ = false := by simp [World.frozen?, hbk]
       have hQN := HPT.out _ u2 A2 c2 hQ hg2 hown2 hv2 hb2
       have hKeep : Below w.heap.size w (u2.setCell ⟨w.heap.size, i, none⟩ (.slice A2 (x.l.length + 1) c2)) ∧ Bk (u2.setCell ⟨w.heap.size, i, none⟩ (.slice A2 (x.l.length + 1) c2)) bx #[.int .i64 (i : Int), .int .i64 xq] := ⟨Below.setCell hHeld.1 (p := ⟨w.heap.size, i, none⟩) (Nat.le_refl _) _, hZ3.far1 (p := ⟨w.heap.size, i, none⟩) HBX.out _⟩
       clear hbk
       skip
       go_simp
       refine hK.out _ _ (by (try dsimp only); exact hKeep) (fun hHeld => ?_); clear hK K hKeep; try simp only [pqZ]
       refine wpAnyH_done (by kernel_rfl) ?_ _
       generalize hFW : (u2.setCell ⟨w.heap.size, i, none⟩ (.slice A2 (x.l.length + 1) c2)) = FW at *
       have hQ2 := HKN.out _ _ _ hQN
       clear hFW hQN
       go_wp2_with fail
       go_roundw
       case rel => exact ⟨k + 1, H.set i ⟨A2, c2, x.l ++ [xq]⟩, by omega, by go_num, hQ2.1, hQ2.2⟩
       case measure => simp [intOf]; omega
     ·obtain rfl : k = sl.length := by omega
      rw [List.take_length] at hcol
      have hcol2 : ∀ m, (hm : m < H.length) → H[m].l = colG (RowS.all (S.take (i0 + 1))) m := fun m hm => by rw [HT.out]; exact hcol m hm
      clear hcol
      have HC2 := Lib.hid hcol2
      clear hcol2
      go_wp2_with fail
      go_roundw
      case rel => exact ⟨i0 + 1, H, by omega, by go_num, HN1.out, hQ, HC2.out⟩
      case measure => simp [intOf]; omega
  ·obtain rfl : i0 = S.length := by omega
   have hall := HEND.out (fun j hj => hno j hj hj)
   rw [List.take_length] at hcol
   have HZL : Hid ((numsG S).length = 9) := Lib.hid (by unfold numsG; simp)
   have HZK : Hid (∀ k, (h : k < (numsG S).length) → (numsG S)[k] = (colG (RowS.all S) k).sum) := Lib.hid fun k h => numsG_at S k h
   have HOK : Hid ((∀ z ∈ numsG S, In64 z) → RR = (0, legsF 0 (numsG S))) := Lib.hid fun h => by rw [← HRR.out]; exact numsG_ok hall h
   have HNO : Hid (∀ k, (h : k < (numsG S).length) → ¬ In64 (numsG S)[k] → RR = (7, [])) := Lib.hid fun k h hb => by rw [← HRR.out]; exact numsG_bad hall (List.getElem_mem h) hb
   obtain ⟨X, hX⟩ : ∃ X, legsF 0 (numsG S) = X := ⟨_, rfl⟩
   have HX0 := Lib.hid hX
   rw [hX] at HOK
   have HRR2 := HRR
   generalize numsG S = zs at *
   have HCM : Hid (∀ k, (h : k < H.length) → All64 H[k].l ∧ H[k].l.length ≤ 1000000 ∧ ∀ h2 : k < zs.length, H[k].l.sum = zs[k]) := Lib.hid fun k h => by
    have hn := HAL.out
    have hlen := colG_len (RowS.all S) k
    rw [← hcol k h] at hlen
    refine ⟨by rw [hcol k h]; exact colG_in HQ.out k, by omega, fun h2 => by rw [HZK.out k h2, hcol k h]⟩
   have HSL := Lib.hid (fun k (h : k < H.length) => Sl.of_own (hQ.own k h))
   have hBel := hQ.bel
   have hsz := hQ.lt
   obtain ⟨h0, h1, h2, h3, h4, h5, h6, h7, h8, hH⟩ := len9 hQ.len
   have hcells := fun i (h : i < H.length) => hQ.cell h
   subst hH
   have c0 := hcells 0 (by simp)
   have c1 := hcells 1 (by simp)
   have c2 := hcells 2 (by simp)
   have c3 := hcells 3 (by simp)
   have c4 := hcells 4 (by simp)
   have c5 := hcells 5 (by simp)
   have c6 := hcells 6 (by simp)
   have c7 := hcells 7 (by simp)
   have c8 := hcells 8 (by simp)
   simp only [List.getElem_cons_zero, List.getElem_cons_succ] at c0 c1 c2 c3 c4 c5 c6 c7 c8
   have HIX := Lib.hid (index9 h0 h1 h2 h3 h4 h5 h6 h7 h8)
   have H9 : Hid ([h0, h1, h2, h3, h4, h5, h6, h7, h8].length = 9) := Lib.hid rfl
   clear hcells hcol hno hall hQ hX HZK
   go_wp2_with fail
   clear c0 c1 c2 c3 c4 c5 c6 c7 c8
   generalize hAR : (#[.slice h0.A h0.l.length h0.c, .slice h1.A h1.l.length h1.c, .slice h2.A h2.l.length h2.c, .slice h3.A h3.l.length h3.c, .slice h4.A h4.l.length h4.c, .slice h5.A h5.l.length h5.c, .slice h6.A h6.l.length h6.c, .slice h7.A h7.l.length h7.c, .slice h8.A h8.l.length h8.c] : Array Value) = AR at *
   generalize hHL : [h0, h1, h2, h3, h4, h5, h6, h7, h8] = HL at *
   clear hAR hHL
   generalize wr = U at *
   go_loopw [9, 43] (fun ov i wr => ∃ (k : Nat) (D : List Lg) (A2 : Option Addr) (c2 : Nat), k ≤ 9 ∧ i = .int .i64 k ∧ ov = .slice A2 D.length c2 ∧ wr.ownsRow U.heap.size 151 2 (.slice A2 D.length c2) D.length (rc Lg.cells D) ∧ D.length ≤ k ∧ (∀ j, (hj : j < zs.length) → j < k → In64 zs[j]) ∧ D ++ legsF (k : Int) (zs.drop k) = X ∧ Below U.heap.size U wr) (fun _ i _ => 9 - (intOf i).toNat)
   case atStart => exact ⟨0, [], none, 0, by omega, rfl, rfl, own_nil _ _ _, Nat.le_refl _, fun j hj h => absurd h (by omega), HX0.out, Below.refl _ _⟩
   case round =>
    obtain ⟨k, D, A2, c2, hk, rfl, rfl, own2, hDk, hin, hd, hB⟩ := hrel
    by_cases hlt : k < 9
    ·have hlk : (k : Int) < 9 := by omega
     have hgk : (0 : Int) ≤ (k : Int) := by omega
     have hkH : k < HL.length := by rw [H9.out]; exact hlt
     have hkz : k < zs.length := by rw [HZL.out]; exact hlt
     have hix := HIX.out k hkH
     obtain ⟨a64, aln, asum⟩ := HCM.out k hkH
     have asm := asum hkz
     have hsl := (HSL.out k hkH).below hB
     have HST := Lib.hid (drop_step0 hkz hd)
     have HBK := Lib.hid (HNO.out k hkz)
     have HIN := Lib.hid (fun (h6 : In64 zs[k]) j (hj : j < zs.length) (hjk : j < k + 1) => show In64 zs[j] by
      rcases Nat.lt_or_ge j k with h' | h'
      ·exact hin j hj h'
      ·obtain rfl : j = k := by omega
       exact h6)
     have HDK := Lib.hid hDk
     obtain ⟨x, hx⟩ : ∃ x, HL[k] = x := ⟨_, rfl⟩
     rw [hx] at asm a64 aln hsl
     simp only [hx] at hix
     have HSM := fsum_any x.A x.c x.l wr aln a64 hsl
     rw [asm] at HSM
     obtain ⟨z, hz⟩ : ∃ z, zs[k] = z := ⟨_, rfl⟩
     rw [hz] at HSM HBK
     simp only [hz] at HST HIN
     have HSM := Lib.hid HSM
     clear asum asm a64 aln hsl hz hx hin hd hDk hkz hkH
     by_cases h64 : In64 z
     ·have e1 : fV z = z := if_pos h64
      have e2 : fE z = 0 := if_pos h64
      rw [e1, e2] at HSM
      have HN6 := Lib.hid (HIN.out h64)
      clear e1 e2 h64 HIN HBK
      go_wp2_with fail
      refine HSM.out.mono ?_
      rintro e w1 ⟨rfl, hk1⟩
      have hB1 := since_step hB hk1
      have own2 := own_below own2 hk1
      have hs1 := hB1.size
      clear hk1 HSM
      by_cases h0 : z = 0
      ·have hzb : (z == 0) = true := by simpa using h0
       have HST2 : Hid (D ++ legsF ((k + 1 : Nat) : Int) (zs.drop (k + 1)) = X) := Lib.hid (by have := HST.out; rw [if_pos h0, List.append_nil] at this; exact this)
       have HD2 := Lib.hid (show D.length ≤ k + 1 by have := HDK.out; omega)
       clear HST h0 hix
       go_wp2_with fail
       go_roundw
       case rel => exact ⟨k + 1, D, A2, c2, by omega, by go_num, rfl, own2, HD2.out, HN6.out, HST2.out, hB1⟩
       case measure => simp [intOf]; omega
      ·have hzb : (z == 0) = false := by simpa using h0
       have HST2 : Hid ((D ++ [(⟨(k : Int), z⟩ : Lg)]) ++ legsF ((k + 1 : Nat) : Int) (zs.drop (k + 1)) = X) := Lib.hid (by have := HST.out; rw [if_neg h0] at this; exact this)
       have HD2 := Lib.hid (show (D ++ [(⟨(k : Int), z⟩ : Lg)]).length ≤ k + 1 by have := HDK.out; simp; omega)
       have hD6 : D.length ≤ 1000 := by have := HDK.out; omega
       clear HST h0 HDK hix
       go_wp2_with (first
        | (at_builtin; refine wpList_app rfl (.tmp 57) (.tmp 61) rfl ELg rfl rfl (own2.alloc _) (m := 1) (news := (⟨(k : Int), z⟩ : Lg).cells) rfl (Sl.new_ _ _ _) (Lg.one _) (by unfold maxLen; omega) (by omega) (by simp only [World.size_alloc]; omega) ?_; intro A3 c3 w3 own3 hg3 hb3)
        | fail)
       have hB3 := (since_alloc hB1 (.cells #[.int .i64 (k : Int), .int .i64 z] 151)).trans hb3
       go_roundw
       case rel => exact ⟨k + 1, D ++ [⟨(k : Int), z⟩], A3, c3, by omega, by go_num, by simp, by simpa [rc] using own3, HD2.out, HN6.out, HST2.out, hB3⟩
       case measure => simp [intOf]; omega
     ·have e1 : fV z = 0 := if_neg h64
      have e2 : fE z = 7 := if_neg h64
      rw [e1, e2] at HSM
      have HE := Lib.hid (HBK.out h64)
      clear e1 e2 h64 HIN HBK
      go_wp2_with fail
      refine HSM.out.mono ?_
      rintro e w1 ⟨rfl, hk1⟩
      have hB1 := since_step hB hk1
      go_wp2_with fail
      go_ret2
      rw [HE.out]
      exact ⟨GRes.nil _ _ _, hBel.trans (hB1.mono (Nat.le_of_lt hsz))⟩
    ·obtain rfl : k = 9 := by omega
     have HE : Hid (RR = (0, D)) := Lib.hid (by
      have e1 := HOK.out (fun q hq => by
       obtain ⟨j, hj, rfl⟩ := List.getElem_of_mem hq
       exact hin j hj (by rw [← HZL.out]; exact hj))
      rw [List.drop_eq_nil_of_le (by rw [HZL.out]; exact Nat.le_refl _), legsF, List.append_nil] at hd
      rw [e1, hd])
     clear hin hd
     go_wp2_with fail
     go_ret2
     rw [HE.out]
     exact ⟨⟨A2, c2, rfl, own_base own2 (Nat.le_of_lt hsz)⟩, hBel.trans (hB.mono (Nat.le_of_lt hsz))⟩
end
end Go.Proofs.YtmjndpkfhdoljaaGreat
