import Derived.Test.YtahdmomadbbhoaaMk10
import Derived.Test.YtahdmomadbbhoaaMk11
import Derived.Test.YtahdmomadbbhoaaMk01
section
namespace Go.Proofs.Ytahdmomadbbhoaa
open Go.ChangeShapes Go.WideShapes Go.ChangeAt Go.RowKit
set_option linter.unusedVariables false
set_option linter.unusedSimpArgs false

theorem mul_in128 {a b : Int} (ha : In64 a) (hb : In64 b) : In128 (a * b) := by
  unfold In64 at ha hb
  have h : (a * b).natAbs ≤ 9223372036854775808 * 9223372036854775808 := by
    rw [Int.natAbs_mul]
    exact Nat.mul_le_mul (by omega) (by omega)
  unfold In128
  omega
set_option maxHeartbeats 1000000 in
theorem wmul_any (a b : Int) (ha : In64 a) (hb : In64 b) (w : World) :
    Calls Try.prog 27 #[.int .i64 a, .int .i64 b] w fun e w' => e = .returned (.agg #[.int .i64 (hiN (a * b)), .int .u64 (loN (a * b))]) ∧ Below w.heap.size w w' := by
  have hin := mul_in128 ha hb
  have HE := Lib.hid (wideE_yes hin)
  have ha128 := (of_in a ha).2.2
  go_enter Try.func27, Try.ntmps27
  go_wp2_with fail
  refine (wof_any a ha _).mono ?_
  rintro e w1 ⟨rfl, hb1⟩
  have A1 := (T2.new w 0 0 62).below hb1
  have hB1 := since_step (since_alloc (Below.refl _ _) _) hb1
  clear hb1
  go_wp2_with fail
  refine (wtimes_any a b ha128 hb _).mono ?_
  rintro e w2 ⟨rfl, hb2⟩
  have A2 := A1.below hb2
  have hB2 := since_step hB1 hb2
  rw [HE.out]
  clear hb2 A1 hB1
  obtain ⟨q0, q1, q2, q3, q4⟩ := id A2
  have hcs := @cell_set
  go_wp2_with fail
  refine bodyPost_ret (v := .agg #[.int .i64 (hiN (a * b)), .int .u64 (loN (a * b))]) ?_ rfl ?_
  · simp [results, Try.results27, go_sem, World.cell?_alloc_lt, q0, cell_set, q1, q2]
  · refine ⟨rfl, ?_⟩
    repeat' (first | with_reducible exact hB2 | with_reducible exact since_alloc hB2 _ | with_reducible refine Below.setCell ?_ ?_ _ | with_reducible refine Below.alloc ?_ ?_ _)
    all_goals first | (simp; done) | (simp; omega) | exact hB2.size
def fV (x : Int) : Int := if In64 x then x else 0
def fE (x : Int) : Int := if In64 x then 0 else 7
theorem int_any (x : Int) (h : In128 x) (w : World) :
    Calls Try.prog 29 #[.agg #[.int .i64 (hiN x), .int .u64 (loN x)]] w fun e w' => e = .returned (.tuple #[.int .i64 (fV x), .int .i64 (fE x)]) ∧ Below w.heap.size w w' := by
  by_cases hx : In64 x
  · rw [show fV x = x from if_pos hx, show fE x = 0 from if_pos hx]; exact int_yes x hx w
  · rw [show fV x = 0 from if_neg hx, show fE x = 7 from if_neg hx]; exact int_no x h hx w
end Go.Proofs.Ytahdmomadbbhoaa
end
section
namespace Go.Proofs.Ytahdmomadbbhoaa
open Go.ChangeShapes Go.WideShapes Go.ChangeAt Go.RowKit
set_option linter.unusedVariables false
set_option linter.unusedSimpArgs false

def bval : List Nat → Nat
  | [] => 0
  | b :: l => b + 2 * bval l
def Bin (l : List Nat) : Prop := ∀ b ∈ l, b ≤ 1
def Norm (l : List Nat) : Prop := Bin l ∧ ∀ k, (h : k < l.length) → l.length = k + 1 → l[k] = 1
theorem Bin.nil : Bin [] := fun b h => by cases h
theorem Norm.nil : Norm [] := ⟨Bin.nil, fun k h => by simp at h⟩
theorem Bin.take {l : List Nat} (h : Bin l) (n : Nat) : Bin (l.take n) := fun b hb => h b (List.mem_of_mem_take hb)
theorem Bin.app {a b : List Nat} (h : Bin a) (k : Bin b) : Bin (a ++ b) := fun x hx => by
  rcases List.mem_append.1 hx with h' | h'
  · exact h x h'
  · exact k x h'
theorem Bin.snoc {a : List Nat} (h : Bin a) {x : Nat} (hx : x ≤ 1) : Bin (a ++ [x]) := h.app fun b hb => by simp at hb; omega
theorem Bin.at_ {l : List Nat} (h : Bin l) {k : Nat} (hk : k < l.length) : l[k] ≤ 1 := h _ (List.getElem_mem hk)
theorem bval_append (a b : List Nat) : bval (a ++ b) = bval a + 2 ^ a.length * bval b := by
  induction a with
  | nil => simp [bval]
  | cons x a ih =>
    simp only [List.cons_append, bval, ih, List.length_cons, Nat.pow_succ]
    rw [Nat.mul_add, Nat.mul_comm (2 ^ a.length) 2, Nat.mul_assoc]
    omega
theorem bval_snoc (a : List Nat) (x : Nat) : bval (a ++ [x]) = bval a + 2 ^ a.length * x := by
  rw [bval_append]; simp [bval]
theorem bval_take (l : List Nat) (k : Nat) (h : k < l.length) : bval (l.take (k + 1)) = bval (l.take k) + 2 ^ k * l[k] := by
  rw [take_snoc l k h, bval_snoc, List.length_take, Nat.min_eq_left (by omega)]
theorem bval_lt {l : List Nat} (h : Bin l) : bval l < 2 ^ l.length := by
  induction l with
  | nil => simp [bval]
  | cons x l ih =>
    have := ih fun b hb => h b (by simp [hb])
    have h1 := h x (by simp)
    simp only [bval, List.length_cons, Nat.pow_succ]
    omega
theorem bval_drop (l : List Nat) (k : Nat) (hk : k ≤ l.length) : bval l = bval (l.take k) + 2 ^ k * bval (l.drop k) := by
  conv => lhs; rw [← List.take_append_drop k l]
  rw [bval_append, List.length_take, Nat.min_eq_left hk]
theorem Norm.ge {l : List Nat} (h : Norm l) {k : Nat} (hk : l.length = k + 1) : 2 ^ k ≤ bval l := by
  have h1 := bval_take l k (by omega)
  rw [List.take_of_length_le (by omega), h.2 k (by omega) hk] at h1
  omega
theorem norm_of_ge {l : List Nat} (h : Bin l) {k : Nat} (hk : l.length = k + 1) (hv : 2 ^ k ≤ bval l) : Norm l := by
  refine ⟨h, fun j hj hl => ?_⟩
  obtain rfl : j = k := by omega
  have h1 := bval_take l j (by omega)
  rw [List.take_of_length_le (by omega)] at h1
  have h2 := bval_lt (h.take j)
  rw [List.length_take, Nat.min_eq_left (by omega)] at h2
  have h3 := h.at_ hj
  rcases Nat.lt_or_ge 0 l[j] with h4 | h4
  · omega
  · have : l[j] = 0 := by omega
    rw [this] at h1
    omega
theorem Norm.zero {l : List Nat} (h : Norm l) : bval l = 0 ↔ l = [] := by
  constructor
  · intro e
    cases hl : l.length with
    | zero => exact List.eq_nil_of_length_eq_zero hl
    | succ k => have := h.ge hl; have := Nat.pow_pos (n := k) (show 0 < 2 by omega); omega
  · rintro rfl; rfl
theorem Norm.len_le {l : List Nat} (h : Norm l) {n : Nat} (hv : bval l < 2 ^ n) : l.length ≤ n := by
  cases hl : l.length with
  | zero => omega
  | succ k =>
    have h1 := h.ge hl
    refine Decidable.byContradiction fun hn => ?_
    have : 2 ^ n ≤ 2 ^ k := Nat.pow_le_pow_right (by omega) (by omega)
    omega
theorem Norm.len_iff {l : List Nat} (h : Norm l) (n : Nat) : l.length ≤ n ↔ bval l < 2 ^ n := by
  refine ⟨fun hl => ?_, h.len_le⟩
  have := bval_lt h.1
  have : 2 ^ l.length ≤ 2 ^ n := Nat.pow_le_pow_right (by omega) hl
  omega
theorem Norm.lt_len {a b : List Nat} (ha : Norm a) (hb : Norm b) (h : a.length < b.length) : bval a < bval b := by
  obtain ⟨k, hk⟩ : ∃ k, b.length = k + 1 := ⟨b.length - 1, by omega⟩
  have h1 := hb.ge hk
  have h2 := bval_lt ha.1
  have : 2 ^ a.length ≤ 2 ^ k := Nat.pow_le_pow_right (by omega) (by omega)
  omega
theorem bval_top {a b : List Nat} (ha : Bin a) (hb : Bin b) (hl : a.length = b.length) {k : Nat} (h1 : k < a.length) (h2 : k < b.length) (he : a.drop (k + 1) = b.drop (k + 1)) (hlt : a[k] < b[k]) : bval a < bval b := by
  rw [bval_drop a (k + 1) (by omega), bval_drop b (k + 1) (by omega), he, bval_take a k h1, bval_take b k h2]
  have h3 := bval_lt (ha.take k)
  rw [List.length_take, Nat.min_eq_left (by omega)] at h3
  have h4 := hb.at_ h2
  have e1 : a[k] = 0 := by omega
  have e2 : b[k] = 1 := by omega
  rw [e1, e2]
  omega
theorem bval_trim {l : List Nat} {n : Nat} (hn : n ≤ l.length) (h : ∀ j, (hj : j < l.length) → n ≤ j → l[j] = 0) : bval (l.take n) = bval l := by
  rw [bval_drop l n hn]
  have : bval (l.drop n) = 0 := by
    have key : ∀ m : List Nat, (∀ x ∈ m, x = 0) → bval m = 0 := by
      intro m
      induction m with
      | nil => intro _; rfl
      | cons x m ih => intro hm; simp only [bval, ih fun y hy => hm y (by simp [hy]), hm x (by simp)]
    refine key _ fun x hx => ?_
    obtain ⟨j, hj, rfl⟩ := List.getElem_of_mem hx
    rw [List.getElem_drop]
    simp at hj
    exact h _ (by omega) (by omega)
  rw [this]
  simp
structure BigAt (w : World) (neg : Bool) (A : Option Addr) (n c : Nat) (z : Int) : Prop where
  ex : ∃ bits : List Nat, bits.length = n ∧ n ≤ c ∧ c ≤ maxLen ∧ Sl w A (by8 bits) ∧ Norm bits ∧ (neg = true → bits ≠ []) ∧ z = if neg = true then -(bval bits : Int) else (bval bits : Int)
theorem BigAt.below {w w' : World} {neg : Bool} {A : Option Addr} {n c : Nat} {z : Int} (h : BigAt w neg A n c z) (hb : Below w.heap.size w w') : BigAt w' neg A n c z := by
  obtain ⟨bits, h1, h2, h3, h4, h5, h6, h7⟩ := h.ex
  exact ⟨bits, h1, h2, h3, h4.below hb, h5, h6, h7⟩
theorem BigAt.alloc {w : World} {neg : Bool} {A : Option Addr} {n c : Nat} {z : Int} (h : BigAt w neg A n c z) (o : Obj) : BigAt (w.alloc o) neg A n c z := h.below ((Below.refl _ _).alloc (Nat.le_refl _) o)
theorem BigAt.drew {w : World} {neg : Bool} {A : Option Addr} {n c : Nat} {z : Int} (h : BigAt w neg A n c z) : BigAt w.drew neg A n c z := h.below ⟨rfl, rfl, rfl, Nat.le_refl _, fun _ _ => rfl⟩
theorem BigAt.zero (w : World) : BigAt w false none 0 0 0 := ⟨[], rfl, Nat.le_refl _, by decide, Sl.nil, Norm.nil, (fun h => nomatch h), rfl⟩
theorem BigAt.len {w : World} {neg : Bool} {A : Option Addr} {n c : Nat} {z : Int} (h : BigAt w neg A n c z) {k : Nat} : n ≤ k ↔ z.natAbs < 2 ^ k := by
  obtain ⟨bits, h1, h2, h3, h4, h5, h6, h7⟩ := h.ex
  rw [← h1, h5.len_iff, h7]
  cases neg <;> simp
theorem BigAt.neg_iff {w : World} {neg : Bool} {A : Option Addr} {n c : Nat} {z : Int} (h : BigAt w neg A n c z) : neg = decide (z < 0) := by
  obtain ⟨bits, h1, h2, h3, h4, h5, h6, h7⟩ := h.ex
  cases neg with
  | false => simp only [Bool.false_eq_true, if_false] at h7; rw [h7]; simp
  | true =>
    simp only [if_true] at h7
    have : 0 < bval bits := by
      have := h5.zero
      have := h6 rfl
      rcases Nat.eq_zero_or_pos (bval bits) with h | h
      · exact absurd (h5.zero.1 h) (h6 rfl)
      · exact h
    rw [h7]
    symm
    simp
    omega
theorem big_take {w : World} {A : Option Addr} {c k : Nat} {bits : List Nat} (neg : Bool) (hb : Bin bits) (hk : k ≤ bits.length) (hc : bits.length ≤ c ∧ c ≤ maxLen) (hs : Sl w A (by8 bits))
    (hz : ∀ j, (hj : j < bits.length) → k ≤ j → bits[j] = 0) (hn : ∀ m, (hm : m < bits.length) → k = m + 1 → bits[m] = 1) :
    BigAt w (neg && decide (0 < k)) A k c (if neg = true then -(bval bits : Int) else (bval bits : Int)) := by
  have hv := bval_trim hk hz
  have hN : Norm (bits.take k) := by
    refine ⟨hb.take k, fun j hj hl => ?_⟩
    have h1 : j < bits.length := by simp at hj; omega
    rw [List.getElem_take]
    refine hn j h1 ?_
    rw [List.length_take] at hl
    omega
  refine ⟨bits.take k, by simp; omega, by omega, hc.2, by rw [by8_take]; exact hs.take k, hN, fun h e => ?_, ?_⟩
  · have : k = 0 := by
      have := congrArg List.length e
      simp at this
      rcases this with h | h
      · exact h
      · rw [h] at hk; simp at hk; exact hk
    subst this
    simp at h
  · rw [hv]
    cases neg with
    | false => simp
    | true =>
      simp only [Bool.true_and, if_true]
      by_cases h : 0 < k
      · simp [h]
      · have hk0 : k = 0 := by omega
        subst hk0
        simp [bval] at hv
        simp [← hv]
theorem own_cap' {w : World} {base : Nat} {e : TypeId} {size n c : Nat} {A : Option Addr} {xs : List Value} (h : w.ownsRow base e size (.slice A n c) n xs) : n ≤ c ∧ c ≤ maxLen := by
  rcases h.2 with ⟨hv, h0⟩ | ⟨g, cap, cur, hv, hg, hh, hnc, hcm, _⟩
  · injection hv with e1 e2 e3; subst e3; subst h0; exact ⟨Nat.le_refl _, by decide⟩
  · injection hv with e1 e2 e3; subst e3; exact ⟨hnc, hcm⟩
end Go.Proofs.Ytahdmomadbbhoaa
end
