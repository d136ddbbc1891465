import Derived.Test.YtahdmomadbbhoaaMk28
import Derived.Test.YtahdmomadbbhoaaMk33
section
namespace Go.Proofs.Ytahdmomadbbhoaa
open Go.ChangeShapes Go.WideShapes Go.ChangeAt Go.RowKit
set_option linter.unusedVariables false
set_option linter.unusedSimpArgs false

def gn (is : List Ins) (x : Lg) : Int := match fndI is x.ins with
  | none => 0
  | some i => gainZ i x.qty i.price i.nxt
def gnZ (is : List Ins) (M : List Lg) : Int := (M.map (gn is)).sum
def gbR (is : List Ins) (M : List Lg) : Int × Int := if missI is M = true then (0, 11) else (fV (gnZ is M), fE (gnZ is M))
def gnR (is : List Ins) (M : List Lg) : Int × Int := if isG M = false then (0, 3) else gbR is M
def OkT (is : List Ins) : Prop := ∀ i ∈ is, okB i = true
theorem gnR_form {is : List Ins} {M : List Lg} (h : isG M = false) : gnR is M = (0, 3) := if_pos h
theorem gnR_go {is : List Ins} {M : List Lg} (h : isG M = true) : gnR is M = gbR is M := if_neg (by simp [h])
theorem gbR_miss {is : List Ins} {M : List Lg} {k : Nat} (hk : k < M.length) (hn : fndI is M[k].ins = none) : gbR is M = (0, 11) := by
  unfold gbR
  rw [if_pos]
  unfold missI
  rw [List.any_eq_true]
  exact ⟨_, List.getElem_mem hk, by rw [hn]; rfl⟩
theorem gbR_ok {is : List Ins} {M : List Lg} (hf : ∀ k, (hk : k < M.length) → (fndI is M[k].ins).isSome = true) : gbR is M = (fV (gnZ is M), fE (gnZ is M)) := by
  unfold gbR
  rw [if_neg]
  unfold missI
  intro ha
  rw [List.any_eq_true] at ha
  obtain ⟨x, hx, hn⟩ := ha
  obtain ⟨k, hk, rfl⟩ := List.getElem_of_mem hx
  have := hf k hk
  cases hq : fndI is M[k].ins with
  | none => rw [hq] at this; cases this
  | some i => rw [hq] at hn; cases hn
theorem gnZ_step (is : List Ins) (M : List Lg) {k : Nat} (hk : k < M.length) : gnZ is (M.take (k + 1)) = gnZ is (M.take k) + gn is M[k] := by
  unfold gnZ
  rw [take_snoc M k hk, List.map_append, List.sum_append]
  simp
theorem ok_pr {i : Ins} (h : okB i = true) : prB i.price = true ∧ prB i.nxt = true := by
  unfold okB headB at h
  simp only [Bool.and_eq_true] at h
  exact ⟨h.1.1.1.2, h.1.1.2⟩
theorem gain_bd {i : Ins} {q : Int} (ho : okB i = true) (hq : In64 q) : -(1298074214633706907132624082305024 : Int) ≤ gainZ i q i.price i.nxt ∧ gainZ i q i.price i.nxt ≤ 1298074214633706907132624082305024 := by
  obtain ⟨p1, p2⟩ := ok_pr ho
  have hm := (pr_move p1 p2)
  have ht := ok_mult ho
  unfold gainZ
  unfold In64 at hq
  have a1 := abs_mul_le (A := 9223372036854775808) (B := 2147483647) (a := q) (b := i.nxt - i.price) (by omega) ⟨hm.1, hm.2.1⟩
  have a2 := abs_mul_le (A := 9223372036854775808 * 2147483647) (B := 65536) (a := q * (i.nxt - i.price)) (b := i.mult) a1 (by omega)
  omega
theorem gn_bd {is : List Ins} (ho : OkT is) {x : Lg} (hq : In64 x.qty) : -(1298074214633706907132624082305024 : Int) ≤ gn is x ∧ gn is x ≤ 1298074214633706907132624082305024 := by
  unfold gn
  split
  · omega
  · rename_i i hi
    exact gain_bd (ho i (mem_fndI hi)) hq
theorem gnZ_bd {is : List Ins} (ho : OkT is) : ∀ {M : List Lg}, (∀ y ∈ M, In64 y.qty) → -((M.length : Int) * 1298074214633706907132624082305024) ≤ gnZ is M ∧ gnZ is M ≤ (M.length : Int) * 1298074214633706907132624082305024
  | [], _ => by simp [gnZ]
  | x :: M, h => by
    have ih := gnZ_bd ho (M := M) fun y hy => h y (List.mem_cons_of_mem _ hy)
    have e : gnZ is (x :: M) = gn is x + gnZ is M := by unfold gnZ; simp
    have b := gn_bd ho (h x (by simp))
    rw [e, List.length_cons]
    omega
theorem gnZ_128 {is : List Ins} (ho : OkT is) {M : List Lg} (h : ∀ y ∈ M, In64 y.qty) (hl : M.length ≤ 1000) : In128 (gnZ is M) := by
  have := gnZ_bd ho h
  unfold In128
  omega
theorem gn_128 {is : List Ins} (ho : OkT is) {x : Lg} (h : In64 x.qty) : In128 (gn is x) := by
  have := gn_bd ho h
  unfold In128
  omega
theorem fE_zero {z : Int} (h : fE z = 0) : fV z = z := by
  unfold fE at h
  unfold fV
  split at h
  · rename_i h6; rw [if_pos h6]
  · cases h
theorem gbR_zero {is : List Ins} {M : List Lg} (h : (gbR is M).2 = 0) : missI is M = false ∧ (gbR is M).1 = gnZ is M := by
  unfold gbR at *
  split at h
  · cases h
  · rename_i hm
    rw [if_neg hm]
    exact ⟨by simpa using hm, fE_zero h⟩
theorem gbR_in (is : List Ins) (M : List Lg) : In64 (gbR is M).1 := by
  unfold gbR
  split
  · decide
  · exact fV_in _
def outF (is : List Ins) (cs : List Pc) : List Fw := (cs.map fun c => (⟨c.ac, c.cl, (gbR is c.L).1⟩ : Fw)).filter fun x => x.amt != 0
def flowsR (is : List Ins) (cs : List Pc) : Int × List Fw := if isH cs = false then (3, []) else match cs.find? (fun c => (gbR is c.L).2 != 0) with
  | some c => ((gbR is c.L).2, [])
  | none => (0, outF is cs)
def settR (is : List Ins) (cs : List Pc) (p : List Fw) : Int × List Fw := if isF p = false then (3, []) else if (flowsR is cs).1 ≠ 0 then ((flowsR is cs).1, []) else payR p (flowsR is cs).2
theorem flowsR_form {is : List Ins} {cs : List Pc} (h : isH cs = false) : flowsR is cs = (3, []) := if_pos h
theorem flowsR_err {is : List Ins} {cs : List Pc} {k : Nat} {n : Int} (hi : isH cs = true) (hk : k < cs.length) (hno : ∀ j, (hj : j < cs.length) → j < k → (gbR is cs[j].L).2 = 0) (hn : (gbR is cs[k].L).2 = n) (he : n ≠ 0) : flowsR is cs = (n, []) := by
  have e : cs.find? (fun c => (gbR is c.L).2 != 0) = some cs[k] := by
    rw [List.find?_eq_some_iff_getElem]
    refine ⟨by simpa [hn] using he, k, hk, rfl, fun j hj => ?_⟩
    simp [hno j (by omega) hj]
  unfold flowsR
  rw [if_neg (by simp [hi]), e]
  simp only [hn]
theorem flowsR_ok {is : List Ins} {cs : List Pc} (hi : isH cs = true) (h : ∀ j, (hj : j < cs.length) → (gbR is cs[j].L).2 = 0) : flowsR is cs = (0, outF is cs) := by
  have e : cs.find? (fun c => (gbR is c.L).2 != 0) = none := by
    rw [List.find?_eq_none]
    intro c hc
    obtain ⟨k, hk, rfl⟩ := List.getElem_of_mem hc
    simp [h k hk]
  unfold flowsR
  rw [if_neg (by simp [hi]), e]
theorem flowsR_zero {is : List Ins} {cs : List Pc} {O : List Fw} (h : flowsR is cs = (0, O)) : isH cs = true ∧ (∀ c ∈ cs, (gbR is c.L).2 = 0) ∧ O = outF is cs := by
  unfold flowsR at h
  split at h
  · cases h
  · rename_i hi
    have hi : isH cs = true := by simpa using hi
    split at h
    · rename_i c hc
      have := List.find?_some hc
      injection h with h1 h2
      rw [h1] at this
      cases this
    · rename_i hc
      rw [List.find?_eq_none] at hc
      injection h with h1 h2
      exact ⟨hi, fun c hm => by simpa using hc c hm, h2.symm⟩
theorem flowsR_errs {is : List Ins} {cs : List Pc} {n : Int} {O : List Fw} (h : flowsR is cs = (n, O)) (hn : n ≠ 0) : O = [] := by
  unfold flowsR at h
  split at h
  · injection h with _ h; exact h.symm
  · split at h
    · injection h with _ h; exact h.symm
    · injection h with h _; exact absurd h.symm hn
theorem outF_step (is : List Ins) (cs : List Pc) {k : Nat} (hk : k < cs.length) : outF is (cs.take (k + 1)) = outF is (cs.take k) ++ (if (gbR is cs[k].L).1 = 0 then [] else [⟨cs[k].ac, cs[k].cl, (gbR is cs[k].L).1⟩]) := by
  unfold outF
  rw [take_snoc cs k hk, List.map_append, List.filter_append]
  congr 1
  by_cases h : (gbR is cs[k].L).1 = 0
  · simp [h]
  · simp [h]
theorem outF_len (is : List Ins) (cs : List Pc) : (outF is cs).length ≤ cs.length := by
  unfold outF
  exact Nat.le_trans (List.length_filter_le _ _) (by simp)
theorem outF_in {is : List Ins} {cs : List Pc} (hk : ∀ c ∈ cs, In64 c.ac ∧ In64 c.cl) : ∀ x ∈ outF is cs, Fw.in_ x := by
  intro x hx
  unfold outF at hx
  rw [List.mem_filter, List.mem_map] at hx
  obtain ⟨⟨c, hc, rfl⟩, _⟩ := hx
  exact ⟨(hk c hc).1, (hk c hc).2, gbR_in _ _⟩
theorem flowsR_in {is : List Ins} {cs : List Pc} (hk : ∀ c ∈ cs, In64 c.ac ∧ In64 c.cl) : ∀ x ∈ (flowsR is cs).2, Fw.in_ x := by
  unfold flowsR
  split
  · intro x hx; cases hx
  · split
    · intro x hx; cases hx
    · exact outF_in hk
theorem flowsR_len (is : List Ins) (cs : List Pc) : (flowsR is cs).2.length ≤ cs.length := by
  unfold flowsR
  split
  · simp
  · split
    · simp
    · exact outF_len _ _
theorem settR_form {is : List Ins} {cs : List Pc} {p : List Fw} (h : isF p = false) : settR is cs p = (3, []) := if_pos h
theorem settR_err {is : List Ins} {cs : List Pc} {p O : List Fw} {n : Int} (h : isF p = true) (hf : flowsR is cs = (n, O)) (hn : n ≠ 0) : settR is cs p = (n, []) := by
  unfold settR
  rw [if_neg (by simp [h]), hf, if_pos hn]
theorem settR_ok {is : List Ins} {cs : List Pc} {p O : List Fw} (h : isF p = true) (hf : flowsR is cs = (0, O)) : settR is cs p = payR p O := by
  unfold settR
  rw [if_neg (by simp [h]), hf, if_neg (by simp)]
theorem settR_facts {is : List Ins} {cs : List Pc} {p Q : List Fw} (h : settR is cs p = (0, Q)) : isF p = true ∧ ∃ O, flowsR is cs = (0, O) ∧ payR p O = (0, Q) := by
  unfold settR at h
  split at h
  · cases h
  · rename_i hp
    split at h
    · rename_i hn
      injection h with h _
      exact absurd h hn
    · rename_i hn
      have hn : (flowsR is cs).1 = 0 := Decidable.not_not.1 hn
      exact ⟨by simpa using hp, _, by rw [← hn], h⟩
theorem payR_facts {p O Q : List Fw} (h : payR p O = (0, Q)) : isF p = true ∧ Q = purseOf (p ++ O) := by
  unfold payR at h
  split at h
  · cases h
  · rename_i hp
    split at h
    · cases h
    · injection h with _ h
      exact ⟨by simpa using hp, h.symm⟩
theorem payR_err {p O Q : List Fw} {n : Int} (h : payR p O = (n, Q)) (hn : n ≠ 0) : Q = [] := by
  unfold payR at h
  split at h
  · injection h with _ h; exact h.symm
  · split at h
    · injection h with _ h; exact h.symm
    · injection h with h _; exact absurd h.symm hn
theorem settR_errs {is : List Ins} {cs : List Pc} {p Q : List Fw} {n : Int} (h : settR is cs p = (n, Q)) (hn : n ≠ 0) : Q = [] := by
  unfold settR at h
  split at h
  · injection h with _ h; exact h.symm
  · split at h
    · injection h with _ h; exact h.symm
    · exact payR_err h hn
-- OF A BALANCED BOOK NOTHING
theorem gn_zero (is : List Ins) (t : Int) : gn is ⟨t, 0⟩ = 0 := by
  unfold gn
  simp only
  split
  · rfl
  · unfold gainZ; simp
theorem gn_add (is : List Ins) (t p q : Int) : gn is ⟨t, p + q⟩ = gn is ⟨t, p⟩ + gn is ⟨t, q⟩ := by
  unfold gn
  simp only
  split
  · rfl
  · unfold gainZ; rw [Int.add_mul, Int.add_mul]
theorem sum_gn {M : List Lg} (h : isG M = true) (is : List Ins) : gnZ is M = sumAt (gn is) 1 ((List.range 8).map fun j : Nat => getG M ((j : Int) + 1)) := by
  obtain ⟨a1, a2⟩ := (isG_iff M).1 h
  have e := legs_back 8 1 M a2 (fun x hx => ⟨(a1 x hx).1, by have := (a1 x hx).2.1; omega, (a1 x hx).2.2⟩)
  have e2 : ((List.range 8).map fun j : Nat => getG M (1 + (j : Int))) = (List.range 8).map fun j : Nat => getG M ((j : Int) + 1) := List.map_congr_left fun j _ => by rw [Int.add_comm]
  rw [e2] at e
  unfold gnZ
  rw [← sum_legsF _ (gn_zero is), e]
theorem sumAt_zero (is : List Ins) : ∀ (L : List Int) (i : Int), (∀ q ∈ L, q = 0) → sumAt (gn is) i L = 0
  | [], _, _ => rfl
  | q :: r, i, h => by
    have ih := sumAt_zero is r (i + 1) fun x hx => h x (List.mem_cons_of_mem _ hx)
    rw [sumAt, ih, h q List.mem_cons_self, gn_zero]; rfl
theorem sum_book (is : List Ins) : ∀ cs : List Pc, (∀ c ∈ cs, isG c.L = true) → (cs.map fun c => gnZ is c.L).sum = sumAt (gn is) 1 ((List.range 8).map fun j : Nat => (sumsH cs ((j : Int) + 1)).sum)
  | [], _ => by
    rw [sumAt_zero]
    · rfl
    · intro q hq
      obtain ⟨j, _, rfl⟩ := List.mem_map.1 hq
      rfl
  | b :: r, h => by
    have ih := sum_book is r fun c hc => h c (List.mem_cons_of_mem _ hc)
    have e : ((List.range 8).map fun j : Nat => (sumsH (b :: r) ((j : Int) + 1)).sum) = (List.range 8).map fun j : Nat => (getG b.L ((j : Int) + 1)) + (sumsH r ((j : Int) + 1)).sum := List.map_congr_left fun j _ => sums_consP b r _
    rw [e, sumAt_add _ (gn_add is) (fun j : Nat => getG b.L ((j : Int) + 1)) (fun j : Nat => (sumsH r ((j : Int) + 1)).sum), ← ih, ← sum_gn (h b List.mem_cons_self), List.map_cons, List.sum_cons]
theorem tot_filter : ∀ l : List Fw, totF (l.filter fun x => x.amt != 0) = totF l
  | [] => rfl
  | x :: l => by
    have ih := tot_filter l
    unfold totF at *
    rw [List.filter_cons]
    by_cases h : x.amt = 0
    · simp [h, ih]
    · simp [h, ih]
theorem flows_zero {is : List Ins} {cs : List Pc} {O : List Fw} (h : flowsR is cs = (0, O)) (hb : balP cs = true) : totF O = 0 := by
  obtain ⟨hi, h0, rfl⟩ := flowsR_zero h
  unfold outF
  rw [tot_filter]
  unfold totF
  rw [List.map_map]
  have e : cs.map (Fw.amt ∘ fun c => (⟨c.ac, c.cl, (gbR is c.L).1⟩ : Fw)) = cs.map fun c => gnZ is c.L := List.map_congr_left fun c hc => (gbR_zero (h0 c hc)).2
  rw [e, sum_book is cs fun c hc => ((okH_iff c).1 (((isH_iff cs).1 hi).1 c hc)).2]
  apply sumAt_zero
  intro q hq
  obtain ⟨j, hj, rfl⟩ := List.mem_map.1 hq
  unfold balP at hb
  exact of_decide_eq_true hb j hj
theorem flows_is {is : List Ins} {cs : List Pc} {O : List Fw} (h : flowsR is cs = (0, O)) : isF O = true := by
  obtain ⟨hi, h0, rfl⟩ := flowsR_zero h
  refine isF_of ?_ ?_
  · unfold outF
    exact List.Pairwise.filter _ (List.pairwise_map.2 (isH_sorted hi))
  · intro x hx
    unfold outF at hx
    rw [List.mem_filter] at hx
    simpa using hx.2
theorem sett_total {is : List Ins} {cs : List Pc} {p Q : List Fw} (h : settR is cs p = (0, Q)) (hb : balP cs = true) : totF Q = totF p := by
  obtain ⟨_, O, hO, hQ⟩ := settR_facts h
  obtain ⟨_, rfl⟩ := payR_facts hQ
  have h0 := flows_zero hO hb
  rw [totF_purseOf]
  unfold totF at *
  rw [List.map_append, List.sum_append, h0]
  omega
-- THERE AND BACK
theorem sumU_has {l : List Fw} {a c : Int} (h : sumU l a c ≠ 0) : ∃ y ∈ l, y.ac = a ∧ y.cl = c := by
  by_cases he : ∃ y ∈ l, y.ac = a ∧ y.cl = c
  · exact he
  · refine absurd (sumU_none fun x hx => ?_) h
    rw [← Bool.not_eq_true, unF_iff]
    exact fun hk => he ⟨x, hx, hk⟩
theorem purseOf_ext {l m : List Fw} (h : ∀ a c, sumU l a c = sumU m a c) : purseOf l = purseOf m :=
  sorted_ext ordF _ _ (purseOf_sorted l) (purseOf_sorted m) fun x => by
    rw [mem_purseOf, mem_purseOf, h]
    constructor
    · rintro ⟨_, h1, h2⟩
      exact ⟨sumU_has (by rw [← h1]; exact h2), h1, h2⟩
    · rintro ⟨_, h1, h2⟩
      exact ⟨sumU_has (by rw [h, ← h1]; exact h2), h1, h2⟩
theorem sumU_mem : ∀ {l : List Fw}, l.Pairwise (fun a b => ahF a b = true) → ∀ x ∈ l, sumU l x.ac x.cl = x.amt
  | [], _, x, hx => by cases hx
  | y :: l, h, x, hx => by
    rw [sumU_cons]
    have hno : ∀ z ∈ l, ¬ (z.ac = y.ac ∧ z.cl = y.cl) := fun z hz hk => by
      have h1 := List.rel_of_pairwise_cons h hz
      simp only [ahF, keyLt_iff] at h1
      omega
    rcases List.mem_cons.1 hx with rfl | hx
    · rw [if_pos ((unF_iff _ _ _).2 ⟨rfl, rfl⟩), sumU_none]
      · simp
      · intro z hz
        rw [← Bool.not_eq_true, unF_iff]
        exact hno z hz
    · rw [if_neg, sumU_mem h.of_cons x hx]
      · simp
      · rw [unF_iff]
        rintro ⟨h1, h2⟩
        exact hno x hx ⟨h1.symm, h2.symm⟩
theorem purseOf_self {p : List Fw} (h : isF p = true) : purseOf p = p := by
  symm
  refine purse_unique (isF_sorted h) fun x => ?_
  constructor
  · intro hx
    exact ⟨⟨x, hx, rfl, rfl⟩, (sumU_mem (isF_sorted h) x hx).symm, isF_amt h x hx⟩
  · rintro ⟨⟨y, hy, h1, h2⟩, h3, h4⟩
    have h5 := sumU_mem (isF_sorted h) y hy
    rw [h1, h2, ← h3] at h5
    obtain ⟨xa, xc, xm⟩ := x
    obtain ⟨ya, yc, ym⟩ := y
    simp only at h1 h2 h5
    subst h1 h2 h5
    exact hy
def swI (i : Ins) : Ins := ⟨i.id, i.mult, i.nxt, i.price, i.mv⟩
theorem swI_ok {i : Ins} (h : okB i = true) : okB (swI i) = true := by
  unfold okB headB swI at *
  simp only [Bool.and_eq_true] at *
  obtain ⟨⟨⟨⟨h1, h2⟩, h3⟩, h4⟩, h5⟩ := h
  exact ⟨⟨⟨⟨h1, h3⟩, h2⟩, h4⟩, h5⟩
theorem fndI_sw (is : List Ins) (t : Int) : fndI (is.map swI) t = (fndI is t).map swI := by
  unfold fndI
  rw [List.find?_map]
  rfl
theorem gn_sw (is : List Ins) (x : Lg) : gn (is.map swI) x = -gn is x := by
  unfold gn
  rw [fndI_sw]
  cases fndI is x.ins with
  | none => rfl
  | some i =>
    simp only [Option.map_some, gainZ, swI]
    rw [show i.price - i.nxt = -(i.nxt - i.price) by omega, Int.mul_neg, Int.neg_mul]
theorem gnZ_sw (is : List Ins) : ∀ M : List Lg, gnZ (is.map swI) M = -gnZ is M
  | [] => rfl
  | x :: M => by
    have ih := gnZ_sw is M
    unfold gnZ at *
    rw [List.map_cons, List.map_cons, List.sum_cons, List.sum_cons, ih, gn_sw]
    omega
theorem okT_sw {is : List Ins} (h : OkT is) : OkT (is.map swI) := fun i hi => by
  obtain ⟨j, hj, rfl⟩ := List.mem_map.1 hi
  exact swI_ok (h j hj)
theorem sum_outF {is : List Ins} {cs : List Pc} (a c : Int) : sumU (outF is cs) a c = (cs.map fun g => if unH a c g = true then (gbR is g.L).1 else 0).sum := by
  induction cs with
  | nil => rfl
  | cons g r ih =>
    have e : outF is (g :: r) = (if (gbR is g.L).1 = 0 then [] else [⟨g.ac, g.cl, (gbR is g.L).1⟩]) ++ outF is r := by
      unfold outF
      rw [List.map_cons, List.filter_cons]
      by_cases h : (gbR is g.L).1 = 0
      · simp [h]
      · simp [h]
    rw [e, sumU_append, ih, List.map_cons, List.sum_cons]
    congr 1
    by_cases h : (gbR is g.L).1 = 0
    · rw [if_pos h, h]; simp [sumU]
    · rw [if_neg h, sumU_cons]
      have e2 : unF a c ⟨g.ac, g.cl, (gbR is g.L).1⟩ = unH a c g := rfl
      rw [e2]; simp [sumU]
theorem outF_sw {is : List Ins} {cs : List Pc} (h : ∀ c ∈ cs, (gbR is c.L).2 = 0) (h2 : ∀ c ∈ cs, (gbR (is.map swI) c.L).2 = 0) (a c : Int) : sumU (outF (is.map swI) cs) a c = -sumU (outF is cs) a c := by
  rw [sum_outF, sum_outF]
  induction cs with
  | nil => rfl
  | cons g r ih =>
    have ih := ih (fun x hx => h x (List.mem_cons_of_mem _ hx)) fun x hx => h2 x (List.mem_cons_of_mem _ hx)
    rw [List.map_cons, List.map_cons, List.sum_cons, List.sum_cons, ih, (gbR_zero (h g List.mem_cons_self)).2, (gbR_zero (h2 g List.mem_cons_self)).2, gnZ_sw]
    split <;> omega
theorem sett_back {is : List Ins} {cs : List Pc} {p Q R : List Fw} (h : settR is cs p = (0, Q)) (h2 : settR (is.map swI) cs Q = (0, R)) : R = p := by
  obtain ⟨hp, O, hO, hQ⟩ := settR_facts h
  obtain ⟨_, O2, hO2, hR⟩ := settR_facts h2
  obtain ⟨_, rfl⟩ := payR_facts hQ
  obtain ⟨_, rfl⟩ := payR_facts hR
  obtain ⟨_, z1, rfl⟩ := flowsR_zero hO
  obtain ⟨_, z2, rfl⟩ := flowsR_zero hO2
  refine (purseOf_ext (m := p) fun a c => ?_).trans (purseOf_self hp)
  rw [sumU_append, sumU_purseOf, sumU_append, outF_sw z1 z2]
  omega
theorem purseOf_in {l : List Fw} (h : ∀ x ∈ l, In64 x.ac ∧ In64 x.cl) (hf : fitsU l = true) : ∀ x ∈ purseOf l, Fw.in_ x := by
  intro x hx
  obtain ⟨⟨y, hy, h1, h2⟩, h3, h4⟩ := (mem_purseOf l x).1 hx
  refine ⟨h1 ▸ (h y hy).1, h2 ▸ (h y hy).2, ?_⟩
  unfold fitsU at hf
  rw [List.all_eq_true] at hf
  have := hf ⟨x.ac, x.cl⟩ ((mem_unitsU l ⟨x.ac, x.cl⟩).2 ⟨y, hy, h1, h2⟩)
  rw [h3]
  exact (fitI_iff _).1 this
theorem payR_in {p O : List Fw} (h : ∀ x ∈ p ++ O, Fw.in_ x) : ∀ x ∈ (payR p O).2, Fw.in_ x := by
  unfold payR
  split
  · intro x hx; cases hx
  · split
    · intro x hx; cases hx
    · rename_i hf
      exact purseOf_in (fun x hx => ⟨(h x hx).1, (h x hx).2.1⟩) (by simpa using hf)
theorem settR_in {is : List Ins} {cs : List Pc} {p : List Fw} (hp : ∀ x ∈ p, Fw.in_ x) (hk : ∀ c ∈ cs, In64 c.ac ∧ In64 c.cl) : ∀ x ∈ (settR is cs p).2, Fw.in_ x := by
  unfold settR
  split
  · intro x hx; cases hx
  · split
    · intro x hx; cases hx
    · exact payR_in fun x hx => (List.mem_append.1 hx).elim (hp x) (flowsR_in hk x)
end Go.Proofs.Ytahdmomadbbhoaa
end
