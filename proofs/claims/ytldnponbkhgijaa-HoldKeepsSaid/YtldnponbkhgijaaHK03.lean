import Derived.Deep.RegionWith
import Derived.Test.YtldnponbkhgijaaHK02
import Derived.Shelf.Bits.Mul64
import Derived.Shelf.Small.Bits
import Derived.Shelf.Strconv.Itoa0
import Derived.Test.YtldnponbkhgijaaProg
import Derived.Test.YtldnponbkhgijaaHK00
import Derived.BigQuiet
import Derived.Deep.QuietTactic
import Derived.IntWalk
import Derived.BigRegion
import Derived.Deep.DeepCutAuto
import Derived.Deep.RegionHeld3
import Derived.Test.YtldnponbkhgijaaHK01
import Derived.Deep.CutBlock
import Derived.Deep.CutRange
import Derived.Lib.ItoaNum
section
namespace Go.Proofs.Ytldnponbkhgijaa
open Go.ChangeShapes Go.WideShapes Go.ChangeAt Go.RowKit
set_option linter.unusedVariables false
set_option linter.unusedSimpArgs false

def wcells (l : List Int) : List Value := (l.map fun x => [Value.int .i64 (hiN x), Value.int .u64 (loN x)]).flatten
theorem wcells_length (l : List Int) : (wcells l).length = l.length * 2 := by
  induction l with
  | nil => rfl
  | cons a l ih => simp [wcells] at *; omega
theorem wcells_hi (l : List Int) (k : Nat) (h : k < l.length) : (wcells l)[k * 2]? = some (.int .i64 (hiN l[k])) ∧ (wcells l)[k * 2 + 1]? = some (.int .u64 (loN l[k])) := by
  induction l generalizing k with
  | nil => simp at h
  | cons a l ih =>
    cases k with
    | zero => simp [wcells]
    | succ k =>
      have := ih k (by simpa using h)
      simp only [wcells, List.map_cons, List.flatten_cons] at this ⊢
      rw [show (k + 1) * 2 = k * 2 + 1 + 1 from by omega, show k * 2 + 1 + 1 + 1 = (k * 2 + 1) + 1 + 1 from rfl]
      simpa using this
def T3 (w : World) (g : Nat) (x : Int) : Prop :=
  g < w.heap.size ∧ w.cell? ⟨g, 0, none⟩ = some (.int .i64 (hiN x)) ∧ w.cell? ⟨g, 1, none⟩ = some (.int .u64 (loN x)) ∧ w.cell? ⟨g, 2, none⟩ = some (.int .i64 (topN x)) ∧
  w.frozen? ⟨g, 0, none⟩ = false ∧ w.frozen? ⟨g, 1, none⟩ = false ∧ w.frozen? ⟨g, 2, none⟩ = false
def T2 (w : World) (g : Nat) (a b : Int) : Prop :=
  g < w.heap.size ∧ w.cell? ⟨g, 0, none⟩ = some (.int .i64 a) ∧ w.cell? ⟨g, 1, none⟩ = some (.int .u64 b) ∧ w.frozen? ⟨g, 0, none⟩ = false ∧ w.frozen? ⟨g, 1, none⟩ = false
section
variable {w w' : World} {g : Nat} {x a b : Int}
theorem T3.below (h : T3 w g x) (hb : Below w.heap.size w w') : T3 w' g x := by
  obtain ⟨h0, h1, h2, h3, f1, f2, f3⟩ := h
  exact ⟨Nat.lt_of_lt_of_le h0 hb.size, (hb.cell (p := ⟨g, 0, none⟩) h0).trans h1, (hb.cell (p := ⟨g, 1, none⟩) h0).trans h2, (hb.cell (p := ⟨g, 2, none⟩) h0).trans h3,
    (hb.frozen (p := ⟨g, 0, none⟩) h0).trans f1, (hb.frozen (p := ⟨g, 1, none⟩) h0).trans f2, (hb.frozen (p := ⟨g, 2, none⟩) h0).trans f3⟩
theorem T2.below (h : T2 w g a b) (hb : Below w.heap.size w w') : T2 w' g a b := by
  obtain ⟨h0, h1, h2, f1, f2⟩ := h
  exact ⟨Nat.lt_of_lt_of_le h0 hb.size, (hb.cell (p := ⟨g, 0, none⟩) h0).trans h1, (hb.cell (p := ⟨g, 1, none⟩) h0).trans h2, (hb.frozen (p := ⟨g, 0, none⟩) h0).trans f1, (hb.frozen (p := ⟨g, 1, none⟩) h0).trans f2⟩
theorem T3.set3 (h : T3 w g x) (y : Int) : T3 (((w.setCell ⟨g, 0, none⟩ (.int .i64 (hiN y))).setCell ⟨g, 1, none⟩ (.int .u64 (loN y))).setCell ⟨g, 2, none⟩ (.int .i64 (topN y))) g y := by
  obtain ⟨h0, h1, h2, h3, f1, f2, f3⟩ := h
  refine ⟨by simpa using h0, ?_, ?_, ?_, by simpa using f1, by simpa using f2, by simpa using f3⟩ <;> simp [cell_set, h1, h2, h3]
theorem T2.far (h : T2 w g a b) {p : Addr} (hp : p.block ≠ g) (v : Value) : T2 (w.setCell p v) g a b := by
  obtain ⟨h0, h1, h2, f1, f2⟩ := h
  have k : ∀ o, (w.setCell p v).cell? ⟨g, o, none⟩ = w.cell? ⟨g, o, none⟩ := fun o => World.cell?_setCell_other w _ _ _ (by rintro rfl; exact hp rfl)
  exact ⟨by simpa using h0, (k 0).trans h1, (k 1).trans h2, by simpa using f1, by simpa using f2⟩
theorem T2.new (w : World) (a b : Int) (t : TypeId) : T2 (w.alloc (.cells #[.int .i64 a, .int .u64 b] t)) w.heap.size a b := by
  refine ⟨by simp, ?_, ?_, ?_, ?_⟩ <;> simp
theorem T2.alloc (h : T2 w g a b) (o : Obj) : T2 (w.alloc o) g a b := h.below ((Below.refl _ _).alloc (Nat.le_refl _) o)
theorem T3.alloc (h : T3 w g x) (o : Obj) : T3 (w.alloc o) g x := h.below ((Below.refl _ _).alloc (Nat.le_refl _) o)
theorem T3.new (w : World) (x : Int) (t : TypeId) : T3 (w.alloc (.cells #[.int .i64 (hiN x), .int .u64 (loN x), .int .i64 (topN x)] t)) w.heap.size x := by
  refine ⟨by simp, ?_, ?_, ?_, ?_, ?_, ?_⟩ <;> simp
theorem T3.drew (h : T3 w g x) : T3 w.drew g x := h
theorem T2.drew (h : T2 w g a b) : T2 w.drew g a b := h
end
theorem zero_parts : hiN 0 = 0 ∧ loN 0 = 0 ∧ topN 0 = 0 := by decide
def wideE (x : Int) : Value := if In128 x then .tuple #[.agg #[.int .i64 (hiN x), .int .u64 (loN x)], .int .i64 0] else .tuple #[.agg #[.int .i64 0, .int .u64 0], .int .i64 7]
theorem wideE_yes {x : Int} (h : In128 x) : wideE x = .tuple #[.agg #[.int .i64 (hiN x), .int .u64 (loN x)], .int .i64 0] := if_pos h
theorem wideE_no {x : Int} (h : ¬ In128 x) : wideE x = .tuple #[.agg #[.int .i64 0, .int .u64 0], .int .i64 7] := if_neg h
set_option maxHeartbeats 2000000 in
theorem wadd_any (A : Option Addr) (cap : Nat) (l : List Int) (w : World) (hl : l.length ≤ 1000000) (hx : ∀ x ∈ l, In128 x) (hs : Sl w A (wcells l)) :
    Calls Try.prog 78 #[.slice A l.length cap] w fun e w' =>
      e = .returned (wideE l.sum) ∧ Below w.heap.size w w' := by
  obtain ⟨z1, z2, z3⟩ := zero_parts
  go_enter Try.func78, Try.ntmps78
  go_wp2
  go_loopw [9] (fun i wr => ∃ k : Nat, k ≤ l.length ∧ i = .int .i64 k ∧ T3 wr (w.heap.size + 1) (l.take k).sum ∧ T2 wr w.heap.size 0 0 ∧ Below w.heap.size w wr) (fun i _ => l.length - (intOf i).toNat)
  case atStart =>
    refine ⟨0, by omega, rfl, ?_, ?_, ?_⟩
    · unfold T3
      simp only [List.take_zero, List.sum_nil, z1, z2, z3]
      simp
    · unfold T2
      refine ⟨by simp; omega, ?_, ?_, ?_, ?_⟩ <;> simp
    · exact ((Below.refl _ _).alloc (Nat.le_refl _) _).alloc (by simp) _
  case round =>
    obtain ⟨k, hk, rfl, ht3, ht2, hB⟩ := hrel
    by_cases hlt : k < l.length
    · obtain ⟨b, o, rfl, hcc⟩ := hs (by intro e; have := wcells_length l; rw [e] at this; simp at this; omega)
      obtain ⟨w1, w2⟩ := wcells_hi l k hlt
      have hc1 := hcc _ _ w1
      have hc2 := hcc _ _ w2
      have hbw : b < w.heap.size := World.block_lt_of_cell? _ _ hc1
      have hd1 := (hB.cell (p := ⟨b, o + k * 2, none⟩) hbw).trans hc1
      have hd2 : wr.cell? ⟨b, o + k * 2 + 1, none⟩ = _ := (hB.cell (p := ⟨b, o + (k * 2 + 1), none⟩) hbw).trans hc2
      have hbr : b < wr.heap.size := Nat.lt_of_lt_of_le hbw hB.size
      have hin := hx _ (List.getElem_mem hlt)
      have hsum : (l.take (k + 1)).sum = (l.take k).sum + l[k] := by rw [take_snoc l k hlt, List.sum_append]; simp
      have HS := Lib.hid hsum
      clear hsum w1 w2 hc1 hc2 hcc
      generalize l[k] = x at *
      generalize (l.take k).sum = y at *
      obtain ⟨a0, a1, a2, a3, f1, f2, f3⟩ := id ht3
      go_wp2_with fail
      have u3 := ht3.below ((Below.refl _ _).alloc (Nat.le_refl _) (.cells #[.int .i64 (hiN x), .int .u64 (loN x)] 28))
      have u2 := ht2.below ((Below.refl _ _).alloc (Nat.le_refl _) (.cells #[.int .i64 (hiN x), .int .u64 (loN x)] 28))
      have uB := since_alloc hB (.cells #[.int .i64 (hiN x), .int .u64 (loN x)] 28)
      clear hd1 hd2
      have hcs := @cell_set
      go_region_with (first
        | (go_at_call 140; refine (long_any x hin _).mono ?_; rintro e w1 ⟨rfl, hb1⟩; have v3 := u3.drew.below hb1; have v2 := u2.drew.below hb1; have vB := since_step uB.drew hb1; obtain ⟨a10, a11, a12, a13, f11, f12, f13⟩ := id v3; unfold sumV; clear hb1)
        | (go_at_call 139; refine (plus_any y x _).mono ?_; rintro e w2 ⟨rfl, hb2⟩; have y3 := v3.below hb2; have y2 := v2.below hb2; have yB := since_step vB hb2; obtain ⟨a20, a21, a22, a23, f21, f22, f23⟩ := id y3; unfold sumV; clear hb2))
      all_goals
        go_wp2
        go_roundw
        case rel =>
          refine ⟨k + 1, by omega, by go_num, ?_, ?_, ?_⟩
          · rw [HS.out]; exact y3.set3 _
          · exact ((y2.far (by simp) _).far (by simp) _).far (by simp) _
          · repeat' (first | with_reducible exact yB | with_reducible refine Below.setCell ?_ ?_ _)
            all_goals simp
        case measure => simp [intOf]; omega
    · obtain rfl : k = l.length := by omega
      rw [List.take_length] at ht3
      obtain ⟨a0, a1, a2, a3, f1, f2, f3⟩ := id ht3
      have h192 : In192 l.sum := by
        have key : ∀ m : List Int, (∀ x ∈ m, In128 x) → -(m.length : Int) * 170141183460469231731687303715884105728 ≤ m.sum ∧ m.sum ≤ (m.length : Int) * 170141183460469231731687303715884105728 := by
          intro m
          induction m with
          | nil => intro _; simp
          | cons a m ih =>
            intro hm
            have h1 := ih (fun x hx => hm x (by simp [hx]))
            have h2 := hm a (by simp)
            unfold In128 at h2
            simp only [List.length_cons, List.sum_cons]
            omega
        have := key l hx
        unfold In192
        omega
      by_cases hin : In128 l.sum
      · have HE := Lib.hid (wideE_yes hin)
        go_wp2_with fail
        refine (narrow_yes l.sum hin _).mono ?_
        rintro e w1 ⟨rfl, hb1⟩
        have y2 := ht2.below hb1
        have hB1 := since_step hB hb1
        obtain ⟨c0, c1, c2, g1, g2⟩ := id y2
        have hcs := @cell_set
        clear hb1
        go_wp2
        refine bodyPost_ret (v := .tuple #[.agg #[.int .i64 (hiN l.sum), .int .u64 (loN l.sum)], .int .i64 0]) ?_ rfl ?_
        · simp [results, Try.results78, go_sem, cell_set, c1, c2]
        · refine ⟨by rw [HE.out], ?_⟩
          repeat' (first | with_reducible exact hB1 | with_reducible refine Below.setCell ?_ ?_ _)
          all_goals simp
      · have HE := Lib.hid (wideE_no hin)
        go_wp2_with fail
        refine (narrow_no l.sum h192 hin _).mono ?_
        rintro e w1 ⟨rfl, hb1⟩
        have y2 := ht2.below hb1
        have hB1 := since_step hB hb1
        obtain ⟨c0, c1, c2, g1, g2⟩ := id y2
        have hcs := @cell_set
        clear hb1
        go_wp2
        refine bodyPost_ret (v := .tuple #[.agg #[.int .i64 0, .int .u64 0], .int .i64 7]) ?_ rfl ?_
        · simp [results, Try.results78, go_sem, cell_set, c1, c2]
        · refine ⟨by rw [HE.out], ?_⟩
          repeat' (first | with_reducible exact hB1 | with_reducible refine Below.setCell ?_ ?_ _)
          all_goals simp
end Go.Proofs.Ytldnponbkhgijaa
end
section
namespace Go.Proofs.Ytldnponbkhgijaa
open Go.ChangeShapes Go.WideShapes Go.ChangeAt Go.RowKit
set_option linter.unusedVariables false
set_option linter.unusedSimpArgs false

def fV (x : Int) : Int := if In64 x then x else 0
def fE (x : Int) : Int := if In64 x then 0 else 7
theorem int_any (x : Int) (h : In128 x) (w : World) :
    Calls Try.prog 112 #[.agg #[.int .i64 (hiN x), .int .u64 (loN x)]] w fun e w' => e = .returned (.tuple #[.int .i64 (fV x), .int .i64 (fE x)]) ∧ Below w.heap.size w w' := by
  by_cases hx : In64 x
  · rw [show fV x = x from if_pos hx, show fE x = 0 from if_pos hx]; exact int_yes x hx w
  · rw [show fV x = 0 from if_neg hx, show fE x = 7 from if_neg hx]; exact int_no x h hx w
end Go.Proofs.Ytldnponbkhgijaa
end
section
namespace Go.Proofs.Ytldnponbkhgijaa
open Go.ChangeShapes Go.WideShapes Go.ChangeAt Go.RowKit
set_option linter.unusedVariables false
set_option linter.unusedSimpArgs false

def bval : List Nat → Nat
  | [] => 0
  | b :: l => b + 2 * bval l
def Bin (l : List Nat) : Prop := ∀ b ∈ l, b ≤ 1
def Norm (l : List Nat) : Prop := Bin l ∧ ∀ k, (h : k < l.length) → l.length = k + 1 → l[k] = 1
theorem Bin.nil : Bin [] := fun b h => by cases h
theorem Norm.nil : Norm [] := ⟨Bin.nil, fun k h => by simp at h⟩
theorem Bin.take {l : List Nat} (h : Bin l) (n : Nat) : Bin (l.take n) := fun b hb => h b (List.mem_of_mem_take hb)
theorem Bin.app {a b : List Nat} (h : Bin a) (k : Bin b) : Bin (a ++ b) := fun x hx => by
  rcases List.mem_append.1 hx with h' | h'
  · exact h x h'
  · exact k x h'
theorem Bin.at_ {l : List Nat} (h : Bin l) {k : Nat} (hk : k < l.length) : l[k] ≤ 1 := h _ (List.getElem_mem hk)
theorem bval_append (a b : List Nat) : bval (a ++ b) = bval a + 2 ^ a.length * bval b := by
  induction a with
  | nil => simp [bval]
  | cons x a ih =>
    simp only [List.cons_append, bval, ih, List.length_cons, Nat.pow_succ]
    rw [Nat.mul_add, Nat.mul_comm (2 ^ a.length) 2, Nat.mul_assoc]
    omega
theorem bval_snoc (a : List Nat) (x : Nat) : bval (a ++ [x]) = bval a + 2 ^ a.length * x := by
  rw [bval_append]; simp [bval]
theorem bval_take (l : List Nat) (k : Nat) (h : k < l.length) : bval (l.take (k + 1)) = bval (l.take k) + 2 ^ k * l[k] := by
  rw [take_snoc l k h, bval_snoc, List.length_take, Nat.min_eq_left (by omega)]
theorem bval_lt {l : List Nat} (h : Bin l) : bval l < 2 ^ l.length := by
  induction l with
  | nil => simp [bval]
  | cons x l ih =>
    have := ih fun b hb => h b (by simp [hb])
    have h1 := h x (by simp)
    simp only [bval, List.length_cons, Nat.pow_succ]
    omega
theorem Norm.ge {l : List Nat} (h : Norm l) {k : Nat} (hk : l.length = k + 1) : 2 ^ k ≤ bval l := by
  have h1 := bval_take l k (by omega)
  rw [List.take_of_length_le (by omega), h.2 k (by omega) hk] at h1
  omega
theorem Norm.zero {l : List Nat} (h : Norm l) : bval l = 0 ↔ l = [] := by
  constructor
  · intro e
    cases hl : l.length with
    | zero => exact List.eq_nil_of_length_eq_zero hl
    | succ k => have := h.ge hl; have := Nat.pow_pos (n := k) (show 0 < 2 by omega); omega
  · rintro rfl; rfl
theorem Norm.len_le {l : List Nat} (h : Norm l) {n : Nat} (hv : bval l < 2 ^ n) : l.length ≤ n := by
  cases hl : l.length with
  | zero => omega
  | succ k =>
    have h1 := h.ge hl
    refine Decidable.byContradiction fun hn => ?_
    have : 2 ^ n ≤ 2 ^ k := Nat.pow_le_pow_right (by omega) (by omega)
    omega
theorem Norm.len_iff {l : List Nat} (h : Norm l) (n : Nat) : l.length ≤ n ↔ bval l < 2 ^ n := by
  refine ⟨fun hl => ?_, h.len_le⟩
  have := bval_lt h.1
  have : 2 ^ l.length ≤ 2 ^ n := Nat.pow_le_pow_right (by omega) hl
  omega
structure BigAt (w : World) (neg : Bool) (A : Option Addr) (n c : Nat) (z : Int) : Prop where
  ex : ∃ bits : List Nat, bits.length = n ∧ n ≤ c ∧ c ≤ maxLen ∧ Sl w A (by8 bits) ∧ Norm bits ∧ (neg = true → bits ≠ []) ∧ z = if neg = true then -(bval bits : Int) else (bval bits : Int)
theorem BigAt.below {w w' : World} {neg : Bool} {A : Option Addr} {n c : Nat} {z : Int} (h : BigAt w neg A n c z) (hb : Below w.heap.size w w') : BigAt w' neg A n c z := by
  obtain ⟨bits, h1, h2, h3, h4, h5, h6, h7⟩ := h.ex
  exact ⟨bits, h1, h2, h3, h4.below hb, h5, h6, h7⟩
theorem BigAt.alloc {w : World} {neg : Bool} {A : Option Addr} {n c : Nat} {z : Int} (h : BigAt w neg A n c z) (o : Obj) : BigAt (w.alloc o) neg A n c z := h.below ((Below.refl _ _).alloc (Nat.le_refl _) o)
theorem BigAt.drew {w : World} {neg : Bool} {A : Option Addr} {n c : Nat} {z : Int} (h : BigAt w neg A n c z) : BigAt w.drew neg A n c z := h.below ⟨rfl, rfl, rfl, Nat.le_refl _, fun _ _ => rfl⟩
theorem BigAt.zero (w : World) : BigAt w false none 0 0 0 := ⟨[], rfl, Nat.le_refl _, by decide, Sl.nil, Norm.nil, (fun h => nomatch h), rfl⟩
theorem BigAt.len {w : World} {neg : Bool} {A : Option Addr} {n c : Nat} {z : Int} (h : BigAt w neg A n c z) {k : Nat} : n ≤ k ↔ z.natAbs < 2 ^ k := by
  obtain ⟨bits, h1, h2, h3, h4, h5, h6, h7⟩ := h.ex
  rw [← h1, h5.len_iff, h7]
  cases neg <;> simp
end Go.Proofs.Ytldnponbkhgijaa
end
section
namespace Go.Proofs.Ytldnponbkhgijaa
open Go.ChangeShapes Go.WideShapes Go.ChangeAt Go.RowKit
set_option linter.unusedVariables false
set_option linter.unusedSimpArgs false

def RB (w : World) (g : Nat) : Prop := g < w.heap.size ∧ w.cell? ⟨g, 0, none⟩ = some (.bool false) ∧ w.cell? ⟨g, 1, none⟩ = some (.slice none 0 0) ∧ ∀ i, w.frozen? ⟨g, i, none⟩ = false
theorem RB.new (w : World) (t : TypeId) : RB (w.alloc (.cells #[.bool false, .slice none 0 0] t)) w.heap.size := ⟨by simp, by simp, by simp, fun i => by simp⟩
theorem RB.far {w w' : World} {B g : Nat} (h : RB w g) (hb : Below B w w') (hg : g < B) : RB w' g :=
  ⟨Nat.lt_of_lt_of_le h.1 hb.size, (hb.cell (p := ⟨g, 0, none⟩) hg).trans h.2.1, (hb.cell (p := ⟨g, 1, none⟩) hg).trans h.2.2.1, fun i => (hb.frozen (p := ⟨g, i, none⟩) hg).trans (h.2.2.2 i)⟩
theorem RB.below {w w' : World} {g : Nat} (h : RB w g) (hb : Below w.heap.size w w') : RB w' g := h.far hb h.1
theorem RB.alloc {w : World} {g : Nat} (h : RB w g) (o : Obj) : RB (w.alloc o) g := h.below ((Below.refl _ _).alloc (Nat.le_refl _) o)
def Fr (B : Nat) (A : Option Addr) (n : Nat) : Prop := ∀ b o, A = some ⟨b, o, none⟩ → 0 < n → B ≤ b
theorem Fr.own {w : World} {base : Nat} {e : TypeId} {size n c : Nat} {A : Option Addr} {xs : List Value} (h : w.ownsRow base e size (.slice A n c) n xs) : Fr base A n := by
  intro b o hA hn
  obtain ⟨g, e1, e2, _⟩ := own_at h hn
  rw [hA] at e1
  injection e1 with e1
  injection e1 with e1
  omega
theorem BigAt.far {w : World} {neg : Bool} {A : Option Addr} {n c : Nat} {z : Int} (h : BigAt w neg A n c z) {p : Addr} (hp : ∀ b o, A = some ⟨b, o, none⟩ → 0 < n → b ≠ p.block) (v : Value) : BigAt (w.setCell p v) neg A n c z := by
  obtain ⟨bits, h1, h2, h3, h4, h5, h6, h7⟩ := h.ex
  refine ⟨bits, h1, h2, h3, ?_, h5, h6, h7⟩
  rcases Nat.eq_zero_or_pos n with h0 | h0
  · rw [h0] at h1
    rw [List.eq_nil_of_length_eq_zero h1]
    exact Sl.nil
  · exact h4.far (fun b o hA => hp b o hA h0) v
end Go.Proofs.Ytldnponbkhgijaa
end
section
namespace Go.Proofs.Ytldnponbkhgijaa
open Go.ChangeShapes Go.WideShapes Go.ChangeAt Go.RowKit
set_option linter.unusedVariables false
set_option linter.unusedSimpArgs false

def BB (w : World) (g : Nat) (s : Bool) (A : Option Addr) (n c : Nat) : Prop := g < w.heap.size ∧ w.cell? ⟨g, 0, none⟩ = some (.bool s) ∧ w.cell? ⟨g, 1, none⟩ = some (.slice A n c) ∧ w.frozen? ⟨g, 0, none⟩ = false ∧ w.frozen? ⟨g, 1, none⟩ = false
section
variable {w w' : World} {g : Nat} {s : Bool} {A : Option Addr} {n c : Nat}
theorem BB.new (w : World) (s : Bool) (A : Option Addr) (n c : Nat) (t : TypeId) : BB (w.alloc (.cells #[.bool s, .slice A n c] t)) w.heap.size s A n c := by
  refine ⟨by simp, ?_, ?_, ?_, ?_⟩ <;> simp
theorem BB.below (h : BB w g s A n c) (hb : Below w.heap.size w w') : BB w' g s A n c := by
  obtain ⟨h0, h1, h2, f1, f2⟩ := h
  exact ⟨Nat.lt_of_lt_of_le h0 hb.size, (hb.cell (p := ⟨g, 0, none⟩) h0).trans h1, (hb.cell (p := ⟨g, 1, none⟩) h0).trans h2, (hb.frozen (p := ⟨g, 0, none⟩) h0).trans f1, (hb.frozen (p := ⟨g, 1, none⟩) h0).trans f2⟩
theorem BB.alloc (h : BB w g s A n c) (o : Obj) : BB (w.alloc o) g s A n c := h.below ((Below.refl _ _).alloc (Nat.le_refl _) o)
theorem BB.drew (h : BB w g s A n c) : BB w.drew g s A n c := h
end
theorem BigAt.lt {w : World} {neg : Bool} {A : Option Addr} {n c : Nat} {z : Int} (h : BigAt w neg A n c z) : ∀ b o, A = some ⟨b, o, none⟩ → 0 < n → b < w.heap.size := by
  intro b o hA hn
  obtain ⟨bits, h1, h2, h3, h4, _⟩ := h.ex
  obtain ⟨b', o', e, hc⟩ := h4.byte (j := 0) (by omega)
  rw [hA] at e
  injection e with e
  injection e with e1 e2
  subst e1
  exact World.block_lt_of_cell? _ _ hc
end Go.Proofs.Ytldnponbkhgijaa
end
section
namespace Go.Proofs.Ytldnponbkhgijaa
open Go.ChangeShapes Go.WideShapes Go.ChangeAt Go.RowKit
set_option linter.unusedVariables false
set_option linter.unusedSimpArgs false

def bigR (w w' : World) (e : Ending) (z : Int) : Prop := ∃ s A n c, e = .returned (.agg #[.bool s, .slice A n c]) ∧ Fr w.heap.size A n ∧ BigAt w' s A n c z
theorem bigR.of {w w' : World} {e : Ending} {z : Int} (h : ∃ A n c, e = .returned (.agg #[.bool (decide (z < 0)), .slice A n c]) ∧ Fr w.heap.size A n ∧ BigAt w' (decide (z < 0)) A n c z) : bigR w w' e z := ⟨_, h⟩
section
variable {w w1 w2 : World} {sx sy s : Bool} {A B C : Option Addr} {na nb n ca cb c : Nat} {x y z : Int}
end

def inN (x : Int) (m : Nat) : Prop := (if x < 0 then (x + 1).natAbs else x.natAbs) < 2 ^ m
instance (x : Int) (m : Nat) : Decidable (inN x m) := by unfold inN; infer_instance
end Go.Proofs.Ytldnponbkhgijaa
end
section
namespace Go.Proofs.Ytldnponbkhgijaa
open Go.ChangeShapes Go.WideShapes Go.ChangeAt Go.RowKit
set_option linter.unusedVariables false
set_option linter.unusedSimpArgs false

theorem T2.set2 {w : World} {g : Nat} {a b : Int} (h : T2 w g a b) (c d : Int) : T2 ((w.setCell ⟨g, 0, none⟩ (.int .i64 c)).setCell ⟨g, 1, none⟩ (.int .u64 d)) g c d := by
  obtain ⟨h0, h1, h2, f1, f2⟩ := h
  refine ⟨by simpa using h0, ?_, ?_, by simpa using f1, by simpa using f2⟩ <;> simp [cell_set, h1, h2]
theorem BB.set2 {w : World} {g : Nat} {s : Bool} {A : Option Addr} {n c : Nat} (h : BB w g s A n c) (s' : Bool) (A' : Option Addr) (n' c' : Nat) : BB ((w.setCell ⟨g, 0, none⟩ (.bool s')).setCell ⟨g, 1, none⟩ (.slice A' n' c')) g s' A' n' c' := by
  obtain ⟨h0, h1, h2, f1, f2⟩ := h
  refine ⟨by simpa using h0, ?_, ?_, by simpa using f1, by simpa using f2⟩ <;> simp [cell_set, h1, h2]
theorem BB.far {w : World} {g : Nat} {s : Bool} {A : Option Addr} {n c : Nat} (h : BB w g s A n c) {p : Addr} (hp : p.block ≠ g) (v : Value) : BB (w.setCell p v) g s A n c := by
  obtain ⟨h0, h1, h2, f1, f2⟩ := h
  have k : ∀ o, (w.setCell p v).cell? ⟨g, o, none⟩ = w.cell? ⟨g, o, none⟩ := fun o => World.cell?_setCell_other w _ _ _ (by rintro rfl; exact hp rfl)
  exact ⟨by simpa using h0, (k 0).trans h1, (k 1).trans h2, by simpa using f1, by simpa using f2⟩
theorem BigAt.abs {w : World} {s : Bool} {A : Option Addr} {n c : Nat} {z : Int} (h : BigAt w s A n c z) : BigAt w false A n c (z.natAbs : Int) := by
  obtain ⟨bits, h1, h2, h3, h4, h5, h6, h7⟩ := h.ex
  refine ⟨bits, h1, h2, h3, h4, h5, (fun h => nomatch h), ?_⟩
  rw [h7]
  cases s <;> simp
end Go.Proofs.Ytldnponbkhgijaa
end
section
namespace Go.Proofs.Ytldnponbkhgijaa
open Go.ChangeShapes Go.WideShapes Go.ChangeAt Go.RowKit
set_option linter.unusedVariables false
set_option linter.unusedSimpArgs false

def All64 (l : List Int) : Prop := ∀ x ∈ l, In64 x
theorem sum_bound (l : List Int) (h : All64 l) : -(l.length : Int) * 9223372036854775808 ≤ l.sum ∧ l.sum ≤ (l.length : Int) * 9223372036854775808 := by
  induction l with
  | nil => simp
  | cons a m ih =>
    have h1 := ih (fun x hx => h x (by simp [hx]))
    have h2 := h a (by simp)
    unfold In64 at h2
    simp only [List.length_cons, List.sum_cons]
    omega
theorem sum_in128 (l : List Int) (h : All64 l) (hl : l.length ≤ 1000000) : In128 l.sum := by
  have := sum_bound l h
  unfold In128
  omega
set_option maxHeartbeats 8000000 in
theorem fsum_any (A : Option Addr) (cap : Nat) (l : List Int) (w : World) (hl : l.length ≤ 1000000) (hx : All64 l) (hs : Sl w A (ints .i64 l)) :
    Calls Try.prog 152 #[.slice A l.length cap] w fun e w' => e = .returned (.tuple #[.int .i64 (fV l.sum), .int .i64 (fE l.sum)]) ∧ Below w.heap.size w w' := by
  obtain ⟨z1, z2, z3⟩ := zero_parts
  go_enter Try.func152, Try.ntmps152
  go_wp2
  go_loopw [11] (fun i wr => ∃ k : Nat, k ≤ l.length ∧ i = .int .i64 k ∧ T2 wr w.heap.size (hiN (l.take k).sum) (loN (l.take k).sum) ∧ Below w.heap.size w wr) (fun i _ => l.length - (intOf i).toNat)
  case atStart =>
    refine ⟨0, by omega, rfl, ?_, (Below.refl _ _).alloc (Nat.le_refl _) _⟩
    simp only [List.take_zero, List.sum_nil, z1, z2]
    exact T2.new w 0 0 _
  case round =>
    obtain ⟨k, hk, rfl, ht, hB⟩ := hrel
    by_cases hlt : k < l.length
    · obtain ⟨b, o, rfl, hzw⟩ := hs.int hlt
      have hbw : b < w.heap.size := World.block_lt_of_cell? _ _ hzw
      have hz := (hB.cell (p := ⟨b, o + k, none⟩) hbw).trans hzw
      have hbr : b < wr.heap.size := Nat.lt_of_lt_of_le hbw hB.size
      have hsum : (l.take (k + 1)).sum = (l.take k).sum + l[k] := by rw [take_snoc l k hlt, List.sum_append]; simp
      have h1 : In128 (l.take k).sum := sum_in128 _ (fun x h => hx x (List.mem_of_mem_take h)) (by simp; omega)
      have h2 : In128 (l.take (k + 1)).sum := sum_in128 _ (fun x h => hx x (List.mem_of_mem_take h)) (by simp; omega)
      have hin := hx _ (List.getElem_mem hlt)
      rw [hsum] at h2
      have HS := Lib.hid hsum
      clear hsum
      generalize l[k] = x at *
      generalize (l.take k).sum = y at *
      have HE := Lib.hid (wideE_yes h2)
      obtain ⟨a0, a1, a2, f1, f2⟩ := id ht
      have hcs := @cell_set
      have HTW := Lib.hid ht
      go_upto_region 5 with fail
      go_cut [7, 8] (fun s7 s8 wx => ∃ g : Nat, s7 = .pointer (some ⟨g, 0, none⟩) ∧ s8 = .int .i64 0 ∧ T2 wx g (hiN (y + x)) (loN (y + x)) ∧ T2 wx w.heap.size (hiN y) (loN y) ∧ g ≠ w.heap.size ∧ Below w.heap.size w wx)
      case first =>
        go_region_with (first
          | (go_at_call 77; refine (wof_any x hin _).mono ?_; rintro e w1 ⟨rfl, hb1⟩; have hT1 : T2 w1 w.heap.size (hiN y) (loN y) := (by first | exact ht.drew.below hb1 | exact (ht.drew.alloc _).below hb1); have hB1 : Below w.heap.size w w1 := (by first | exact since_step hB.drew hb1 | exact since_step (since_alloc hB.drew _) hb1); (first | have G1 : T2 w1 wr.heap.size 0 0 := (T2.new wr.drew 0 0 28).below hb1 | skip); have hz1 : wr.heap.size ≤ w1.heap.size := (by have := hb1.size; simp at this; omega); obtain ⟨b0, b1, b2, b3, b4⟩ := id hT1; clear hb1)
          | (go_at_call 78; refine (wadd_any _ 2 [y, x] _ (by simp) (by intro z hz; simp at hz; rcases hz with rfl | rfl; exact h1; exact (of_in _ hin).2.2) (by first | exact Sl.new_ _ _ _ | exact (Sl.new_ _ _ _).alloc _ | exact Sl.new1 _ _ _ _)).mono ?_; rintro e w2 ⟨rfl, hb2⟩; have hT2 : T2 w2 w.heap.size (hiN y) (loN y) := (by first | exact (hT1.alloc _).below hb2 | exact ((hT1.alloc _).alloc _).below hb2); have hB2 : Below w.heap.size w w2 := (by first | exact since_step (since_alloc hB1 _) hb2 | exact since_step (since_alloc (since_alloc hB1 _) _) hb2); (first | have G2 := (G1.alloc _).below hb2 | have G2 := ((T2.new w1 0 0 28).alloc _).below hb2 | (have G2 := (T2.new (w1.alloc (.cells #[.int .i64 (hiN y), .int .u64 (loN y), .int .i64 (hiN x), .int .u64 (loN x)] 28)) 0 0 28).below hb2; rw [World.size_alloc] at G2) | skip); (first | obtain ⟨g0, g1, g2, g3, g4⟩ := _root_.id G2 | skip); rw [show [y, x].sum = y + x from by simp, HE.out]; have hz2 : w1.heap.size < w2.heap.size := (by have := hb2.size; simp at this; omega); clear hb2))
        all_goals
          go_wp2_with fail
          go_meet
          case rel =>
            first
              | exact ⟨_, rfl, rfl, G2.set2 _ _, (hT2.far (by simp; omega) _).far (by simp; omega) _, by simp; omega, by
                  refine Below.setCell (Below.setCell hB2 ?_ _) ?_ _ <;> (simp; omega)⟩
              | exact ⟨_, rfl, rfl, T2.new _ _ _ _, hT2.alloc _, by simp; omega, since_alloc hB2 _⟩
      case rest =>
        obtain ⟨g, rfl, rfl, hG, hT, hne, hBx⟩ := hcut
        obtain ⟨g0, g1, g2, g3, g4⟩ := id hG
        obtain ⟨t0, t1, t2, t3, t4⟩ := id hT
        clear hz ht a0 a1 a2 f1 f2
        go_wp2
        go_roundw
        case rel =>
          refine ⟨k + 1, by omega, by go_num, ?_, ?_⟩
          · rw [HS.out]
            exact hT.set2 _ _
          · refine Below.setCell (Below.setCell hBx ?_ _) ?_ _ <;> simp
        case measure => simp [intOf]; omega
    · obtain rfl : k = l.length := by omega
      rw [List.take_length] at ht
      have h128 := sum_in128 l hx hl
      obtain ⟨a0, a1, a2, f1, f2⟩ := id ht
      go_wp2_with fail
      refine (int_any l.sum h128 _).mono ?_
      rintro e w1 ⟨rfl, hb1⟩
      have hB1 := since_step hB hb1
      go_wp2_with fail
      go_ret2
      exact ⟨rfl, hB1⟩
end Go.Proofs.Ytldnponbkhgijaa
end
section
namespace Go.Proofs.Ytldnponbkhgijaa
open Go.ChangeShapes Go.WideShapes Go.ChangeAt Go.RowKit
set_option linter.unusedVariables false
set_option linter.unusedSimpArgs false

open Classical in
noncomputable def putLR (l : List Lt) (x : Lt) : Int × List Lt :=
  if chkL l x ≠ 0 then (chkL l x, []) else if ¬ In64 (getL l x.ast x.tag + x.qty) then (7, [])
  else if getL l x.ast x.tag = 0 ∧ l.length = 16 then (25, []) else (0, putR ahL l ⟨x.ast, x.tag, getL l x.ast x.tag + x.qty⟩)
def takeLR (l : List Lt) (x : Lt) : Int × List Lt :=
  if chkL l x ≠ 0 then (chkL l x, []) else if getL l x.ast x.tag < x.qty then (23, [])
  else if getL l x.ast x.tag = x.qty then (0, l.filter fun y => !sameL x.ast x.tag y) else (0, putR ahL l ⟨x.ast, x.tag, getL l x.ast x.tag - x.qty⟩)
def LRes (B : Nat) (w' : World) (e : Ending) (R : Int × List Lt) : Prop :=
  ∃ A' c', e = .returned (.tuple #[.slice A' R.2.length c', .int .i64 R.1]) ∧ w'.ownsRow B 93 3 (.slice A' R.2.length c') R.2.length (rc Lt.cells R.2)
theorem LRes.nil (B : Nat) (w' : World) (n : Int) : LRes B w' (.returned (.tuple #[.slice none 0 0, .int .i64 n])) (n, []) := ⟨none, 0, rfl, own_nil _ _ _⟩
theorem getL_in {l : List Lt} (h : ∀ y ∈ l, In64 y.qty) (a t : Int) : In64 (getL l a t) := by
  unfold getL pickL
  cases hf : l.find? (sameL a t) with
  | none => simp [Lt.zero]; decide
  | some y => exact h y (List.mem_of_find?_eq_some hf)
theorem chkL_cases (l : List Lt) (x : Lt) : chkL l x = 3 ∨ chkL l x = 2 ∨ chkL l x = 0 := by
  unfold chkL
  split
  · exact .inl rfl
  · split
    · exact .inr (.inl rfl)
    · exact .inr (.inr rfl)
theorem chkL_ok {l : List Lt} {x : Lt} (h : chkL l x = 0) : isLs l = true ∧ okL x = true := by
  unfold chkL at h
  cases h1 : isLs l <;> cases h2 : okL x <;> simp_all
theorem okL_pos {x : Lt} (h : okL x = true) : 0 < x.qty := by
  unfold okL at h; simp at h; exact h.2
theorem getL_nn {l : List Lt} (h : isLs l = true) (a t : Int) : 0 ≤ getL l a t := by
  unfold getL pickL
  cases hf : l.find? (sameL a t) with
  | none => simp [Lt.zero]
  | some y =>
    unfold isLs at h
    simp only [Bool.and_eq_true, List.all_eq_true] at h
    have := okL_pos (h.1.1 y (List.mem_of_find?_eq_some hf))
    simp only [Option.getD_some]
    omega
set_option maxHeartbeats 8000000 in
set_option maxRecDepth 100000 in
theorem lput_any (A : Option Addr) (cap : Nat) (l : List Lt) (x : Lt) (w : World) (hl : l.length ≤ 900000) (hx : In64 x.qty) (hq : ∀ y ∈ l, In64 y.qty) (hs : Sl w A (rc Lt.cells l)) :
    Calls Try.prog 130 #[.slice A l.length cap, x.val] w fun e w' => LRes w.heap.size w' e (putLR l x) ∧ Below w.heap.size w w' := by
  have hh64 := getL_in hq x.ast x.tag
  have hB0 := since_alloc (Below.refl _ w) (.cells x.cells.toArray 93)
  have hV0 := Lt.Bx.new w x
  have HS : Hid (∀ V, Below w.heap.size w V → Sl V A (rc Lt.cells l)) := Lib.hid fun V h => hs.below h
  have HCK := Lib.hid (fun V h => lcheck_any A cap l x V (by omega) h)
  have HG := Lib.hid (fun V h => lget_any A cap l x.ast x.tag V (by omega) h)
  have HP := Lib.hid (fun V a t q h => put_lt A cap l ⟨a, t, q⟩ 173 #[] ahL V (by omega) h ent_lahead (tells_lahead _ _))
  clear hs
  rcases chkL_cases l x with hc | hc | hc
  · have HR : Hid (putLR l x = (3, [])) := Lib.hid (by rw [putLR, if_pos (by rw [hc]; decide), hc])
    have HC := Lib.hid hc
    clear hc hh64 hx hq
    obtain ⟨xa, xt, xq⟩ := x
    unfold Lt.val at *
    unfold Lt.cells at hB0 hV0
    simp only at *
    go_enter Try.func130, Try.ntmps130
    go_upto_region 1 with fail
    have fz0 : (w.alloc (.cells #[.int .i64 xa, .int .i64 xt, .int .i64 xq] 93)).frozen? ⟨w.heap.size, 2, none⟩ = false := by simp
    generalize hWW : w.alloc (.cells #[.int .i64 xa, .int .i64 xt, .int .i64 xq] 93) = w0 at *
    clear hWW
    obtain ⟨q0, q1, q2⟩ := hV0.got
    simp only at q0 q1 q2
    have lq := hV0.lt
    go_wp2_with fail
    refine (HCK.out _ (HS.out _ hB0)).mono ?_
    rw [HC.out]
    rintro e w1 ⟨rfl, hb⟩
    have hB1 := since_step hB0 hb
    have hV1 := hV0.below hb
    have fz1 := (hb.frozen (p := ⟨w.heap.size, 2, none⟩) lq).trans fz0
    clear hb q0 q1 q2 lq hV0 fz0
    obtain ⟨q0, q1, q2⟩ := hV1.got
    simp only at q0 q1 q2
    have lq := hV1.lt
    go_wp2_with fail
    go_ret2
    rw [HR.out]
    exact ⟨LRes.nil _ _ _, hB1⟩
  · have HR : Hid (putLR l x = (2, [])) := Lib.hid (by rw [putLR, if_pos (by rw [hc]; decide), hc])
    have HC := Lib.hid hc
    clear hc hh64 hx hq
    obtain ⟨xa, xt, xq⟩ := x
    unfold Lt.val at *
    unfold Lt.cells at hB0 hV0
    simp only at *
    go_enter Try.func130, Try.ntmps130
    go_upto_region 1 with fail
    have fz0 : (w.alloc (.cells #[.int .i64 xa, .int .i64 xt, .int .i64 xq] 93)).frozen? ⟨w.heap.size, 2, none⟩ = false := by simp
    generalize hWW : w.alloc (.cells #[.int .i64 xa, .int .i64 xt, .int .i64 xq] 93) = w0 at *
    clear hWW
    obtain ⟨q0, q1, q2⟩ := hV0.got
    simp only at q0 q1 q2
    have lq := hV0.lt
    go_wp2_with fail
    refine (HCK.out _ (HS.out _ hB0)).mono ?_
    rw [HC.out]
    rintro e w1 ⟨rfl, hb⟩
    have hB1 := since_step hB0 hb
    have hV1 := hV0.below hb
    have fz1 := (hb.frozen (p := ⟨w.heap.size, 2, none⟩) lq).trans fz0
    clear hb q0 q1 q2 lq hV0 fz0
    obtain ⟨q0, q1, q2⟩ := hV1.got
    simp only at q0 q1 q2
    have lq := hV1.lt
    go_wp2_with fail
    go_ret2
    rw [HR.out]
    exact ⟨LRes.nil _ _ _, hB1⟩
  have hways : (¬ In64 (getL l x.ast x.tag + x.qty)) ∨ (In64 (getL l x.ast x.tag + x.qty) ∧ getL l x.ast x.tag = 0 ∧ l.length = 16) ∨ (In64 (getL l x.ast x.tag + x.qty) ∧ getL l x.ast x.tag = 0 ∧ l.length ≠ 16) ∨ (In64 (getL l x.ast x.tag + x.qty) ∧ getL l x.ast x.tag ≠ 0) := by
    by_cases h1 : In64 (getL l x.ast x.tag + x.qty)
    · by_cases h2 : getL l x.ast x.tag = 0
      · by_cases h3 : l.length = 16
        · exact .inr (.inl ⟨h1, h2, h3⟩)
        · exact .inr (.inr (.inl ⟨h1, h2, h3⟩))
      · exact .inr (.inr (.inr ⟨h1, h2⟩))
    · exact .inl h1
  rcases hways with h1 | h1 | h1 | h1
  · have HR : Hid (putLR l x = (7, [])) := Lib.hid (by rw [putLR, if_neg (by rw [hc]; decide), if_pos h1])
    have HC := Lib.hid hc
    have hsum : [getL l x.ast x.tag, x.qty].sum = getL l x.ast x.tag + x.qty := by simp
    have hal : All64 [getL l x.ast x.tag, x.qty] := by intro y hy; simp at hy; rcases hy with rfl | rfl <;> assumption
    have HF1 : Hid (fV (getL l x.ast x.tag + x.qty) = 0) := Lib.hid (if_neg h1)
    have HF2 : Hid (fE (getL l x.ast x.tag + x.qty) = 7) := Lib.hid (if_neg h1)
    clear h1 hc hq
    obtain ⟨hs0, hgg⟩ : ∃ v, getL l x.ast x.tag = v := ⟨_, rfl⟩
    rw [hgg] at hh64 HF1 HF2 hsum hal
    have HH := Lib.hid hgg
    clear hgg
    obtain ⟨xa, xt, xq⟩ := x
    unfold Lt.val at *
    unfold Lt.cells at hB0 hV0
    simp only at *
    go_enter Try.func130, Try.ntmps130
    go_upto_region 1 with fail
    have fz0 : (w.alloc (.cells #[.int .i64 xa, .int .i64 xt, .int .i64 xq] 93)).frozen? ⟨w.heap.size, 2, none⟩ = false := by simp
    generalize hWW : w.alloc (.cells #[.int .i64 xa, .int .i64 xt, .int .i64 xq] 93) = w0 at *
    clear hWW
    obtain ⟨q0, q1, q2⟩ := hV0.got
    simp only at q0 q1 q2
    have lq := hV0.lt
    go_wp2_with fail
    refine (HCK.out _ (HS.out _ hB0)).mono ?_
    rw [HC.out]
    rintro e w1 ⟨rfl, hb⟩
    have hB1 := since_step hB0 hb
    have hV1 := hV0.below hb
    have fz1 := (hb.frozen (p := ⟨w.heap.size, 2, none⟩) lq).trans fz0
    clear hb q0 q1 q2 lq hV0 fz0
    obtain ⟨q0, q1, q2⟩ := hV1.got
    simp only at q0 q1 q2
    have lq := hV1.lt
    go_wp2_with fail
    refine (HG.out _ (HS.out _ hB1)).mono ?_
    rw [HH.out]
    rintro e w2 ⟨rfl, hb⟩
    have hB2 := since_step hB1 hb
    have hV2 := hV1.below hb
    have fz2 := (hb.frozen (p := ⟨w.heap.size, 2, none⟩) lq).trans fz1
    clear hb q0 q1 q2 lq hV1 fz1
    obtain ⟨q0, q1, q2⟩ := hV2.got
    simp only at q0 q1 q2
    have lq := hV2.lt
    go_wp2_with fail
    have HSL := Sl.new_ w2 (ints .i64 [hs0, xq]) 2
    refine (fsum_any _ 2 [hs0, xq] _ (by simp) hal HSL).mono ?_
    rw [hsum, HF1.out, HF2.out]
    rintro e w3 ⟨rfl, hb⟩
    have hb' := since_step (since_alloc (Below.refl _ w2) (.cells (ints .i64 [hs0, xq]).toArray 2)) hb
    have hB3 := since_step hB2 hb'
    have hV3 := hV2.below hb'
    have fz3 := (hb'.frozen (p := ⟨w.heap.size, 2, none⟩) lq).trans fz2
    clear hb hb' q0 q1 q2 lq hV2 fz2
    obtain ⟨q0, q1, q2⟩ := hV3.got
    simp only at q0 q1 q2
    have lq := hV3.lt
    go_wp2_with fail
    go_ret2
    rw [HR.out]
    exact ⟨LRes.nil _ _ _, hB3⟩
  · have HR : Hid (putLR l x = (25, [])) := Lib.hid (by rw [putLR, if_neg (by rw [hc]; decide), if_neg (fun h => h h1.1), if_pos h1.2])
    have HC := Lib.hid hc
    have hsum : [getL l x.ast x.tag, x.qty].sum = getL l x.ast x.tag + x.qty := by simp
    have hal : All64 [getL l x.ast x.tag, x.qty] := by intro y hy; simp at hy; rcases hy with rfl | rfl <;> assumption
    have HF1 : Hid (fV (getL l x.ast x.tag + x.qty) = getL l x.ast x.tag + x.qty) := Lib.hid (if_pos h1.1)
    have HF2 : Hid (fE (getL l x.ast x.tag + x.qty) = 0) := Lib.hid (if_pos h1.1)
    have hgz := h1.2.1
    have hln : (l.length : Int) = 16 := by have := h1.2.2; omega
    have hgq : (getL l x.ast x.tag == 0) = true := by rw [hgz]; rfl
    have hlq : ((l.length : Int) == 16) = true := by rw [hln]; rfl
    clear hgz hln
    clear h1 hc hq
    obtain ⟨hs0, hgg⟩ : ∃ v, getL l x.ast x.tag = v := ⟨_, rfl⟩
    rw [hgg] at hh64 HF1 HF2 hsum hal hgq
    have HH := Lib.hid hgg
    clear hgg
    obtain ⟨xa, xt, xq⟩ := x
    unfold Lt.val at *
    unfold Lt.cells at hB0 hV0
    simp only at *
    go_enter Try.func130, Try.ntmps130
    go_upto_region 1 with fail
    have fz0 : (w.alloc (.cells #[.int .i64 xa, .int .i64 xt, .int .i64 xq] 93)).frozen? ⟨w.heap.size, 2, none⟩ = false := by simp
    generalize hWW : w.alloc (.cells #[.int .i64 xa, .int .i64 xt, .int .i64 xq] 93) = w0 at *
    clear hWW
    obtain ⟨q0, q1, q2⟩ := hV0.got
    simp only at q0 q1 q2
    have lq := hV0.lt
    go_wp2_with fail
    refine (HCK.out _ (HS.out _ hB0)).mono ?_
    rw [HC.out]
    rintro e w1 ⟨rfl, hb⟩
    have hB1 := since_step hB0 hb
    have hV1 := hV0.below hb
    have fz1 := (hb.frozen (p := ⟨w.heap.size, 2, none⟩) lq).trans fz0
    clear hb q0 q1 q2 lq hV0 fz0
    obtain ⟨q0, q1, q2⟩ := hV1.got
    simp only at q0 q1 q2
    have lq := hV1.lt
    go_wp2_with fail
    refine (HG.out _ (HS.out _ hB1)).mono ?_
    rw [HH.out]
    rintro e w2 ⟨rfl, hb⟩
    have hB2 := since_step hB1 hb
    have hV2 := hV1.below hb
    have fz2 := (hb.frozen (p := ⟨w.heap.size, 2, none⟩) lq).trans fz1
    clear hb q0 q1 q2 lq hV1 fz1
    obtain ⟨q0, q1, q2⟩ := hV2.got
    simp only at q0 q1 q2
    have lq := hV2.lt
    go_wp2_with fail
    have HSL := Sl.new_ w2 (ints .i64 [hs0, xq]) 2
    refine (fsum_any _ 2 [hs0, xq] _ (by simp) hal HSL).mono ?_
    rw [hsum, HF1.out, HF2.out]
    rintro e w3 ⟨rfl, hb⟩
    have hb' := since_step (since_alloc (Below.refl _ w2) (.cells (ints .i64 [hs0, xq]).toArray 2)) hb
    have hB3 := since_step hB2 hb'
    have hV3 := hV2.below hb'
    have fz3 := (hb'.frozen (p := ⟨w.heap.size, 2, none⟩) lq).trans fz2
    clear hb hb' q0 q1 q2 lq hV2 fz2
    obtain ⟨q0, q1, q2⟩ := hV3.got
    simp only at q0 q1 q2
    have lq := hV3.lt
    go_wp2_with fail
    go_ret2
    rw [HR.out]
    exact ⟨LRes.nil _ _ _, hB3⟩
  · have HR : Hid (putLR l x = (0, putR ahL l ⟨x.ast, x.tag, getL l x.ast x.tag + x.qty⟩)) := Lib.hid (by rw [putLR, if_neg (by rw [hc]; decide), if_neg (fun h => h h1.1), if_neg (fun h => h1.2.2 h.2)])
    have HC := Lib.hid hc
    have hsum : [getL l x.ast x.tag, x.qty].sum = getL l x.ast x.tag + x.qty := by simp
    have hal : All64 [getL l x.ast x.tag, x.qty] := by intro y hy; simp at hy; rcases hy with rfl | rfl <;> assumption
    have HF1 : Hid (fV (getL l x.ast x.tag + x.qty) = getL l x.ast x.tag + x.qty) := Lib.hid (if_pos h1.1)
    have HF2 : Hid (fE (getL l x.ast x.tag + x.qty) = 0) := Lib.hid (if_pos h1.1)
    have hgz := h1.2.1
    have hln : (l.length : Int) ≠ 16 := by have := h1.2.2; omega
    have hgq : (getL l x.ast x.tag == 0) = true := by rw [hgz]; rfl
    have hlq : ((l.length : Int) == 16) = false := by simpa using hln
    clear hgz hln
    clear h1 hc hq
    obtain ⟨hs0, hgg⟩ : ∃ v, getL l x.ast x.tag = v := ⟨_, rfl⟩
    rw [hgg] at hh64 HF1 HF2 hsum hal hgq HR
    have HH := Lib.hid hgg
    clear hgg
    obtain ⟨xa, xt, xq⟩ := x
    unfold Lt.val at *
    unfold Lt.cells at hB0 hV0
    simp only at *
    go_enter Try.func130, Try.ntmps130
    go_upto_region 1 with fail
    have fz0 : (w.alloc (.cells #[.int .i64 xa, .int .i64 xt, .int .i64 xq] 93)).frozen? ⟨w.heap.size, 2, none⟩ = false := by simp
    generalize hWW : w.alloc (.cells #[.int .i64 xa, .int .i64 xt, .int .i64 xq] 93) = w0 at *
    clear hWW
    obtain ⟨q0, q1, q2⟩ := hV0.got
    simp only at q0 q1 q2
    have lq := hV0.lt
    go_wp2_with fail
    refine (HCK.out _ (HS.out _ hB0)).mono ?_
    rw [HC.out]
    rintro e w1 ⟨rfl, hb⟩
    have hB1 := since_step hB0 hb
    have hV1 := hV0.below hb
    have fz1 := (hb.frozen (p := ⟨w.heap.size, 2, none⟩) lq).trans fz0
    clear hb q0 q1 q2 lq hV0 fz0
    obtain ⟨q0, q1, q2⟩ := hV1.got
    simp only at q0 q1 q2
    have lq := hV1.lt
    go_wp2_with fail
    refine (HG.out _ (HS.out _ hB1)).mono ?_
    rw [HH.out]
    rintro e w2 ⟨rfl, hb⟩
    have hB2 := since_step hB1 hb
    have hV2 := hV1.below hb
    have fz2 := (hb.frozen (p := ⟨w.heap.size, 2, none⟩) lq).trans fz1
    clear hb q0 q1 q2 lq hV1 fz1
    obtain ⟨q0, q1, q2⟩ := hV2.got
    simp only at q0 q1 q2
    have lq := hV2.lt
    go_wp2_with fail
    have HSL := Sl.new_ w2 (ints .i64 [hs0, xq]) 2
    refine (fsum_any _ 2 [hs0, xq] _ (by simp) hal HSL).mono ?_
    rw [hsum, HF1.out, HF2.out]
    rintro e w3 ⟨rfl, hb⟩
    have hb' := since_step (since_alloc (Below.refl _ w2) (.cells (ints .i64 [hs0, xq]).toArray 2)) hb
    have hB3 := since_step hB2 hb'
    have hV3 := hV2.below hb'
    have fz3 := (hb'.frozen (p := ⟨w.heap.size, 2, none⟩) lq).trans fz2
    clear hb hb' q0 q1 q2 lq hV2 fz2
    obtain ⟨q0, q1, q2⟩ := hV3.got
    simp only at q0 q1 q2
    have lq := hV3.lt
    go_wp2_with fail
    have hBs := Below.setCell hB3 (p := ⟨w.heap.size, 2, none⟩) (Nat.le_refl _) (.int .i64 (hs0 + xq))
    refine (HP.out _ xa xt (hs0 + xq) (HS.out _ hBs)).mono ?_
    rw [putL_eq]
    rintro e w4 ⟨⟨A5, c5, rfl, own5⟩, hb⟩
    have hB4 := since_step hBs hb
    have own5 := own_base own5 hBs.size
    go_wp2_with fail
    go_ret2
    rw [HR.out]
    exact ⟨⟨A5, c5, rfl, own5⟩, hB4⟩
  · have HR : Hid (putLR l x = (0, putR ahL l ⟨x.ast, x.tag, getL l x.ast x.tag + x.qty⟩)) := Lib.hid (by rw [putLR, if_neg (by rw [hc]; decide), if_neg (fun h => h h1.1), if_neg (fun h => h1.2 h.1)])
    have HC := Lib.hid hc
    have hsum : [getL l x.ast x.tag, x.qty].sum = getL l x.ast x.tag + x.qty := by simp
    have hal : All64 [getL l x.ast x.tag, x.qty] := by intro y hy; simp at hy; rcases hy with rfl | rfl <;> assumption
    have HF1 : Hid (fV (getL l x.ast x.tag + x.qty) = getL l x.ast x.tag + x.qty) := Lib.hid (if_pos h1.1)
    have HF2 : Hid (fE (getL l x.ast x.tag + x.qty) = 0) := Lib.hid (if_pos h1.1)
    have hgq : (getL l x.ast x.tag == 0) = false := by simpa using h1.2
    clear h1 hc hq
    obtain ⟨hs0, hgg⟩ : ∃ v, getL l x.ast x.tag = v := ⟨_, rfl⟩
    rw [hgg] at hh64 HF1 HF2 hsum hal hgq HR
    have HH := Lib.hid hgg
    clear hgg
    obtain ⟨xa, xt, xq⟩ := x
    unfold Lt.val at *
    unfold Lt.cells at hB0 hV0
    simp only at *
    go_enter Try.func130, Try.ntmps130
    go_upto_region 1 with fail
    have fz0 : (w.alloc (.cells #[.int .i64 xa, .int .i64 xt, .int .i64 xq] 93)).frozen? ⟨w.heap.size, 2, none⟩ = false := by simp
    generalize hWW : w.alloc (.cells #[.int .i64 xa, .int .i64 xt, .int .i64 xq] 93) = w0 at *
    clear hWW
    obtain ⟨q0, q1, q2⟩ := hV0.got
    simp only at q0 q1 q2
    have lq := hV0.lt
    go_wp2_with fail
    refine (HCK.out _ (HS.out _ hB0)).mono ?_
    rw [HC.out]
    rintro e w1 ⟨rfl, hb⟩
    have hB1 := since_step hB0 hb
    have hV1 := hV0.below hb
    have fz1 := (hb.frozen (p := ⟨w.heap.size, 2, none⟩) lq).trans fz0
    clear hb q0 q1 q2 lq hV0 fz0
    obtain ⟨q0, q1, q2⟩ := hV1.got
    simp only at q0 q1 q2
    have lq := hV1.lt
    go_wp2_with fail
    refine (HG.out _ (HS.out _ hB1)).mono ?_
    rw [HH.out]
    rintro e w2 ⟨rfl, hb⟩
    have hB2 := since_step hB1 hb
    have hV2 := hV1.below hb
    have fz2 := (hb.frozen (p := ⟨w.heap.size, 2, none⟩) lq).trans fz1
    clear hb q0 q1 q2 lq hV1 fz1
    obtain ⟨q0, q1, q2⟩ := hV2.got
    simp only at q0 q1 q2
    have lq := hV2.lt
    go_wp2_with fail
    have HSL := Sl.new_ w2 (ints .i64 [hs0, xq]) 2
    refine (fsum_any _ 2 [hs0, xq] _ (by simp) hal HSL).mono ?_
    rw [hsum, HF1.out, HF2.out]
    rintro e w3 ⟨rfl, hb⟩
    have hb' := since_step (since_alloc (Below.refl _ w2) (.cells (ints .i64 [hs0, xq]).toArray 2)) hb
    have hB3 := since_step hB2 hb'
    have hV3 := hV2.below hb'
    have fz3 := (hb'.frozen (p := ⟨w.heap.size, 2, none⟩) lq).trans fz2
    clear hb hb' q0 q1 q2 lq hV2 fz2
    obtain ⟨q0, q1, q2⟩ := hV3.got
    simp only at q0 q1 q2
    have lq := hV3.lt
    go_wp2_with fail
    have hBs := Below.setCell hB3 (p := ⟨w.heap.size, 2, none⟩) (Nat.le_refl _) (.int .i64 (hs0 + xq))
    refine (HP.out _ xa xt (hs0 + xq) (HS.out _ hBs)).mono ?_
    rw [putL_eq]
    rintro e w4 ⟨⟨A5, c5, rfl, own5⟩, hb⟩
    have hB4 := since_step hBs hb
    have own5 := own_base own5 hBs.size
    go_wp2_with fail
    go_ret2
    rw [HR.out]
    exact ⟨⟨A5, c5, rfl, own5⟩, hB4⟩
set_option maxHeartbeats 8000000 in
set_option maxRecDepth 100000 in
theorem ltake_any (A : Option Addr) (cap : Nat) (l : List Lt) (x : Lt) (w : World) (hl : l.length ≤ 900000) (hx : In64 x.qty) (hq : ∀ y ∈ l, In64 y.qty) (hs : Sl w A (rc Lt.cells l)) :
    Calls Try.prog 133 #[.slice A l.length cap, x.val] w fun e w' => LRes w.heap.size w' e (takeLR l x) ∧ Below w.heap.size w w' := by
  have hh64 := getL_in hq x.ast x.tag
  have hB0 := since_alloc (Below.refl _ w) (.cells x.cells.toArray 93)
  have hV0 := Lt.Bx.new w x
  have HS : Hid (∀ V, Below w.heap.size w V → Sl V A (rc Lt.cells l)) := Lib.hid fun V h => hs.below h
  have HCK := Lib.hid (fun V h => lcheck_any A cap l x V (by omega) h)
  have HG := Lib.hid (fun V h => lget_any A cap l x.ast x.tag V (by omega) h)
  have HP := Lib.hid (fun V a t q h => put_lt A cap l ⟨a, t, q⟩ 173 #[] ahL V (by omega) h ent_lahead (tells_lahead _ _))
  have HD := Lib.hid (fun V b a t q h (hz : Lt.Bx V b ⟨a, t, q⟩) => drop_lt A cap l 211 #[.pointer (some ⟨b, 0, none⟩)] (sameL a t) V (by omega) h ent_same1 (tells_same1 ⟨a, t, q⟩ b _ hz))
  have HSM := Lib.hid (fun V a t q => lsame_any ⟨a, t, q⟩ V)
  clear hs
  rcases chkL_cases l x with hc | hc | hc
  · have HR : Hid (takeLR l x = (3, [])) := Lib.hid (by rw [takeLR, if_pos (by rw [hc]; decide), hc])
    have HC := Lib.hid hc
    clear hc hh64 hx hq
    obtain ⟨xa, xt, xq⟩ := x
    unfold Lt.val at *
    unfold Lt.cells at hB0 hV0
    simp only at *
    go_enter Try.func133, Try.ntmps133
    go_upto_region 1 with fail
    have fz0 : (w.alloc (.cells #[.int .i64 xa, .int .i64 xt, .int .i64 xq] 93)).frozen? ⟨w.heap.size, 2, none⟩ = false := by simp
    generalize hWW : w.alloc (.cells #[.int .i64 xa, .int .i64 xt, .int .i64 xq] 93) = w0 at *
    clear hWW
    obtain ⟨q0, q1, q2⟩ := hV0.got
    simp only at q0 q1 q2
    have lq := hV0.lt
    go_wp2_with fail
    refine (HCK.out _ (HS.out _ hB0)).mono ?_
    rw [HC.out]
    rintro e w1 ⟨rfl, hb⟩
    have hB1 := since_step hB0 hb
    have hV1 := hV0.below hb
    have fz1 := (hb.frozen (p := ⟨w.heap.size, 2, none⟩) lq).trans fz0
    clear hb q0 q1 q2 lq hV0 fz0
    obtain ⟨q0, q1, q2⟩ := hV1.got
    simp only at q0 q1 q2
    have lq := hV1.lt
    go_wp2_with fail
    go_ret2
    rw [HR.out]
    exact ⟨LRes.nil _ _ _, hB1⟩
  · have HR : Hid (takeLR l x = (2, [])) := Lib.hid (by rw [takeLR, if_pos (by rw [hc]; decide), hc])
    have HC := Lib.hid hc
    clear hc hh64 hx hq
    obtain ⟨xa, xt, xq⟩ := x
    unfold Lt.val at *
    unfold Lt.cells at hB0 hV0
    simp only at *
    go_enter Try.func133, Try.ntmps133
    go_upto_region 1 with fail
    have fz0 : (w.alloc (.cells #[.int .i64 xa, .int .i64 xt, .int .i64 xq] 93)).frozen? ⟨w.heap.size, 2, none⟩ = false := by simp
    generalize hWW : w.alloc (.cells #[.int .i64 xa, .int .i64 xt, .int .i64 xq] 93) = w0 at *
    clear hWW
    obtain ⟨q0, q1, q2⟩ := hV0.got
    simp only at q0 q1 q2
    have lq := hV0.lt
    go_wp2_with fail
    refine (HCK.out _ (HS.out _ hB0)).mono ?_
    rw [HC.out]
    rintro e w1 ⟨rfl, hb⟩
    have hB1 := since_step hB0 hb
    have hV1 := hV0.below hb
    have fz1 := (hb.frozen (p := ⟨w.heap.size, 2, none⟩) lq).trans fz0
    clear hb q0 q1 q2 lq hV0 fz0
    obtain ⟨q0, q1, q2⟩ := hV1.got
    simp only at q0 q1 q2
    have lq := hV1.lt
    go_wp2_with fail
    go_ret2
    rw [HR.out]
    exact ⟨LRes.nil _ _ _, hB1⟩
  obtain ⟨hi, ho⟩ := chkL_ok hc
  have hpos := okL_pos ho
  have hnn := getL_nn hi x.ast x.tag
  have hways : (getL l x.ast x.tag < x.qty) ∨ (getL l x.ast x.tag = x.qty) ∨ (x.qty < getL l x.ast x.tag) := by omega
  rcases hways with h1 | h1 | h1
  · have HR : Hid (takeLR l x = (23, [])) := Lib.hid (by rw [takeLR, if_neg (by rw [hc]; decide), if_pos h1])
    have HC := Lib.hid hc
    obtain ⟨hs0, hgg⟩ : ∃ v, getL l x.ast x.tag = v := ⟨_, rfl⟩
    rw [hgg] at h1
    have HH := Lib.hid hgg
    clear hgg hc hi ho hq hpos hnn hh64 hx
    obtain ⟨xa, xt, xq⟩ := x
    unfold Lt.val at *
    unfold Lt.cells at hB0 hV0
    simp only at *
    go_enter Try.func133, Try.ntmps133
    go_upto_region 1 with fail
    have fz0 : (w.alloc (.cells #[.int .i64 xa, .int .i64 xt, .int .i64 xq] 93)).frozen? ⟨w.heap.size, 2, none⟩ = false := by simp
    generalize hWW : w.alloc (.cells #[.int .i64 xa, .int .i64 xt, .int .i64 xq] 93) = w0 at *
    clear hWW
    obtain ⟨q0, q1, q2⟩ := hV0.got
    simp only at q0 q1 q2
    have lq := hV0.lt
    go_wp2_with fail
    refine (HCK.out _ (HS.out _ hB0)).mono ?_
    rw [HC.out]
    rintro e w1 ⟨rfl, hb⟩
    have hB1 := since_step hB0 hb
    have hV1 := hV0.below hb
    have fz1 := (hb.frozen (p := ⟨w.heap.size, 2, none⟩) lq).trans fz0
    clear hb q0 q1 q2 lq hV0 fz0
    obtain ⟨q0, q1, q2⟩ := hV1.got
    simp only at q0 q1 q2
    have lq := hV1.lt
    go_wp2_with fail
    refine (HG.out _ (HS.out _ hB1)).mono ?_
    rw [HH.out]
    rintro e w2 ⟨rfl, hb⟩
    have hB2 := since_step hB1 hb
    have hV2 := hV1.below hb
    have fz2 := (hb.frozen (p := ⟨w.heap.size, 2, none⟩) lq).trans fz1
    clear hb q0 q1 q2 lq hV1 fz1
    obtain ⟨q0, q1, q2⟩ := hV2.got
    simp only at q0 q1 q2
    have lq := hV2.lt
    go_wp2_with fail
    go_ret2
    rw [HR.out]
    exact ⟨LRes.nil _ _ _, hB2⟩
  · have HR : Hid (takeLR l x = (0, l.filter fun y => !sameL x.ast x.tag y)) := Lib.hid (by rw [takeLR, if_neg (by rw [hc]; decide), if_neg (by omega), if_pos h1])
    have HC := Lib.hid hc
    have h1b : ¬ getL l x.ast x.tag < x.qty := by omega
    have h2b : (getL l x.ast x.tag == x.qty) = true := by simpa using h1
    obtain ⟨hs0, hgg⟩ : ∃ v, getL l x.ast x.tag = v := ⟨_, rfl⟩
    rw [hgg] at h1b h2b
    have HH := Lib.hid hgg
    clear hgg hc hi ho hq hpos hnn hh64 hx h1
    obtain ⟨xa, xt, xq⟩ := x
    unfold Lt.val at *
    unfold Lt.cells at hB0 hV0
    simp only at *
    go_enter Try.func133, Try.ntmps133
    go_upto_region 1 with fail
    have fz0 : (w.alloc (.cells #[.int .i64 xa, .int .i64 xt, .int .i64 xq] 93)).frozen? ⟨w.heap.size, 2, none⟩ = false := by simp
    generalize hWW : w.alloc (.cells #[.int .i64 xa, .int .i64 xt, .int .i64 xq] 93) = w0 at *
    clear hWW
    obtain ⟨q0, q1, q2⟩ := hV0.got
    simp only at q0 q1 q2
    have lq := hV0.lt
    go_wp2_with fail
    refine (HCK.out _ (HS.out _ hB0)).mono ?_
    rw [HC.out]
    rintro e w1 ⟨rfl, hb⟩
    have hB1 := since_step hB0 hb
    have hV1 := hV0.below hb
    have fz1 := (hb.frozen (p := ⟨w.heap.size, 2, none⟩) lq).trans fz0
    clear hb q0 q1 q2 lq hV0 fz0
    obtain ⟨q0, q1, q2⟩ := hV1.got
    simp only at q0 q1 q2
    have lq := hV1.lt
    go_wp2_with fail
    refine (HG.out _ (HS.out _ hB1)).mono ?_
    rw [HH.out]
    rintro e w2 ⟨rfl, hb⟩
    have hB2 := since_step hB1 hb
    have hV2 := hV1.below hb
    have fz2 := (hb.frozen (p := ⟨w.heap.size, 2, none⟩) lq).trans fz1
    clear hb q0 q1 q2 lq hV1 fz1
    obtain ⟨q0, q1, q2⟩ := hV2.got
    simp only at q0 q1 q2
    have lq := hV2.lt
    go_wp2_with fail
    refine (HSM.out _ xa xt xq).mono ?_
    rintro e w3 ⟨⟨b, rfl, hz⟩, hb⟩
    have hB3 := since_step hB2 hb
    clear hb
    go_wp2_with fail
    refine (HD.out _ b xa xt xq (HS.out _ hB3) hz).mono ?_
    rintro e w4 ⟨⟨A5, c5, rfl, own5⟩, hb⟩
    have hB4 := since_step hB3 hb
    have own5 := own_base own5 hB3.size
    go_wp2_with fail
    go_ret2
    rw [HR.out]
    exact ⟨⟨A5, c5, rfl, own5⟩, hB4⟩
  · have HR : Hid (takeLR l x = (0, putR ahL l ⟨x.ast, x.tag, getL l x.ast x.tag - x.qty⟩)) := Lib.hid (by rw [takeLR, if_neg (by rw [hc]; decide), if_neg (by omega), if_neg (by omega)])
    have HC := Lib.hid hc
    have h1b : ¬ getL l x.ast x.tag < x.qty := by omega
    have h2b : (getL l x.ast x.tag == x.qty) = false := by simp; omega
    have hwr : IntKind.i64.wrap (getL l x.ast x.tag - x.qty) = getL l x.ast x.tag - x.qty := IntWalk.i64_in _ (by unfold In64 at *; omega)
    obtain ⟨hs0, hgg⟩ : ∃ v, getL l x.ast x.tag = v := ⟨_, rfl⟩
    rw [hgg] at h1b h2b hwr HR
    have HH := Lib.hid hgg
    clear hgg hc hi ho hq hpos hnn hh64 hx h1
    obtain ⟨xa, xt, xq⟩ := x
    unfold Lt.val at *
    unfold Lt.cells at hB0 hV0
    simp only at *
    go_enter Try.func133, Try.ntmps133
    go_upto_region 1 with fail
    have fz0 : (w.alloc (.cells #[.int .i64 xa, .int .i64 xt, .int .i64 xq] 93)).frozen? ⟨w.heap.size, 2, none⟩ = false := by simp
    generalize hWW : w.alloc (.cells #[.int .i64 xa, .int .i64 xt, .int .i64 xq] 93) = w0 at *
    clear hWW
    obtain ⟨q0, q1, q2⟩ := hV0.got
    simp only at q0 q1 q2
    have lq := hV0.lt
    go_wp2_with fail
    refine (HCK.out _ (HS.out _ hB0)).mono ?_
    rw [HC.out]
    rintro e w1 ⟨rfl, hb⟩
    have hB1 := since_step hB0 hb
    have hV1 := hV0.below hb
    have fz1 := (hb.frozen (p := ⟨w.heap.size, 2, none⟩) lq).trans fz0
    clear hb q0 q1 q2 lq hV0 fz0
    obtain ⟨q0, q1, q2⟩ := hV1.got
    simp only at q0 q1 q2
    have lq := hV1.lt
    go_wp2_with fail
    refine (HG.out _ (HS.out _ hB1)).mono ?_
    rw [HH.out]
    rintro e w2 ⟨rfl, hb⟩
    have hB2 := since_step hB1 hb
    have hV2 := hV1.below hb
    have fz2 := (hb.frozen (p := ⟨w.heap.size, 2, none⟩) lq).trans fz1
    clear hb q0 q1 q2 lq hV1 fz1
    obtain ⟨q0, q1, q2⟩ := hV2.got
    simp only at q0 q1 q2
    have lq := hV2.lt
    go_wp2_with fail
    have hBs := Below.setCell hB2 (p := ⟨w.heap.size, 2, none⟩) (Nat.le_refl _) (.int .i64 (hs0 - xq))
    refine (HP.out _ xa xt (hs0 - xq) (HS.out _ hBs)).mono ?_
    rw [putL_eq]
    rintro e w4 ⟨⟨A5, c5, rfl, own5⟩, hb⟩
    have hB4 := since_step hBs hb
    have own5 := own_base own5 hBs.size
    go_wp2_with fail
    go_ret2
    rw [HR.out]
    exact ⟨⟨A5, c5, rfl, own5⟩, hB4⟩
end Go.Proofs.Ytldnponbkhgijaa
end
section
namespace Go.Proofs.Ytldnponbkhgijaa
open Go.ChangeShapes Go.WideShapes Go.ChangeAt Go.RowKit
set_option linter.unusedVariables false
set_option linter.unusedSimpArgs false

theorem ahL_iff (a b : Lt) : ahL a b = true ↔ ltL a b := by unfold ahL; simp
theorem ordL : Ord ahL where
  tr := by intro a b c h1 h2; rw [ahL_iff] at *; unfold ltL at *; omega
  asy := by intro a b h; rw [ahL_iff] at h; rw [← Bool.not_eq_true, ahL_iff]; unfold ltL at *; omega
  cong := by intro a x b h1 h2; rw [← Bool.not_eq_true, ahL_iff] at h1 h2; rw [Bool.eq_iff_iff, ahL_iff, ahL_iff]; unfold ltL at *; omega
  cong2 := by intro a x b h1 h2; rw [← Bool.not_eq_true, ahL_iff] at h1 h2; rw [Bool.eq_iff_iff, ahL_iff, ahL_iff]; unfold ltL at *; omega
theorem sameL_iff (a t : Int) (y : Lt) : sameL a t y = true ↔ y.ast = a ∧ y.tag = t := by unfold sameL; simp
theorem sameL_of {x a : Lt} (h1 : ahL a x = false) (h2 : ahL x a = false) : sameL x.ast x.tag a = true := by
  rw [← Bool.not_eq_true, ahL_iff] at h1 h2
  rw [sameL_iff]; unfold ltL at *; omega
end Go.Proofs.Ytldnponbkhgijaa
end
section
namespace Go.Proofs.Ytldnponbkhgijaa
open Go.ChangeShapes Go.WideShapes Go.ChangeAt Go.RowKit
set_option linter.unusedVariables false
set_option linter.unusedSimpArgs false
theorem BB.new1 (w : World) (o : Obj) (s : Bool) (A : Option Addr) (n c : Nat) (t : TypeId) : BB ((w.alloc o).alloc (.cells #[.bool s, .slice A n c] t)) (w.heap.size + 1) s A n c := by
  have := BB.new (w.alloc o) s A n c t
  rwa [World.size_alloc] at this
end Go.Proofs.Ytldnponbkhgijaa
end
section
namespace Go.Proofs.Ytldnponbkhgijaa
open Go.ChangeShapes Go.WideShapes Go.ChangeAt Go.RowKit
set_option linter.unusedVariables false
set_option linter.unusedSimpArgs false

structure BX (B : Nat) (w : World) (g : Nat) (s : Bool) (A : Option Addr) (n c : Nat) (z : Int) : Prop where
  bb : BB w g s A n c
  at_ : BigAt w s A n c z
  fr : Fr B A n
  hg : g < B
section
variable {B : Nat} {w w' : World} {g : Nat} {s : Bool} {A : Option Addr} {n c : Nat} {z : Int}
theorem BX.below (h : BX B w g s A n c z) (hb : Below w.heap.size w w') : BX B w' g s A n c z := ⟨h.bb.below hb, h.at_.below hb, h.fr, h.hg⟩
theorem BX.alloc (h : BX B w g s A n c z) (o : Obj) : BX B (w.alloc o) g s A n c z := h.below ((Below.refl _ _).alloc (Nat.le_refl _) o)
theorem BX.drew (h : BX B w g s A n c z) : BX B w.drew g s A n c z := h.below ⟨rfl, rfl, rfl, Nat.le_refl _, fun _ _ => rfl⟩
theorem BX.set (h : BX B w g s A n c z) {p : Addr} (hp : p.block < B) (hne : p.block ≠ g) (v : Value) : BX B (w.setCell p v) g s A n c z :=
  ⟨h.bb.far hne v, h.at_.far (fun b o hA hn => by have := h.fr b o hA hn; omega) v, h.fr, h.hg⟩
theorem BX.put (h : BX B w g s A n c z) {s' : Bool} {A' : Option Addr} {n' c' : Nat} {z' : Int} (hz : BigAt w s' A' n' c' z') (hf : Fr B A' n') :
    BX B ((w.setCell ⟨g, 0, none⟩ (.bool s')).setCell ⟨g, 1, none⟩ (.slice A' n' c')) g s' A' n' c' z' := by
  have hg := h.hg
  refine ⟨h.bb.set2 s' A' n' c', ?_, hf, hg⟩
  refine BigAt.far (BigAt.far hz ?_ _) ?_ _
  · intro b o hA hn
    have := hf b o hA hn
    show b ≠ g
    omega
  · intro b o hA hn
    have := hf b o hA hn
    show b ≠ g
    omega
theorem BX.pos (h : BX B w g s A n c z) : BX B (w.setCell ⟨g, 0, none⟩ (.bool false)) g false A n c (z.natAbs : Int) := by
  have hg := h.hg
  refine ⟨?_, ?_, h.fr, hg⟩
  · obtain ⟨h0, h1, h2, f1, f2⟩ := h.bb
    refine ⟨by simpa using h0, ?_, ?_, by simpa using f1, by simpa using f2⟩ <;> simp [cell_set, h1, h2]
  · refine BigAt.far h.at_.abs ?_ _
    intro b o hA hn
    have := h.fr b o hA hn
    show b ≠ g
    omega
theorem BX.new (hB : w.heap.size < B) (t : TypeId) : BX B (w.alloc (.cells #[.bool false, .slice none 0 0] t)) w.heap.size false none 0 0 0 :=
  ⟨BB.new w false none 0 0 t, BigAt.zero _, (fun b o h => by cases h), hB⟩
end
end Go.Proofs.Ytldnponbkhgijaa
end
section
namespace Go.Proofs.Ytldnponbkhgijaa
open Go.ChangeShapes Go.WideShapes Go.ChangeAt Go.RowKit
set_option linter.unusedVariables false
set_option linter.unusedSimpArgs false

structure Dg (Y A B u d : Nat) : Prop where
  hy : Y = A * 4294967296 + B
  hb : B < 4294967296
  ha : 2147483648 ≤ A
  ha2 : A < 4294967296
  hu : u < Y
  hd : d < 4294967296
theorem lin_le (qa qb r d M : Nat) (hc : qb ≤ r * M + d) : qa * M + qb ≤ (qa + r) * M + d := by rw [Nat.add_mul]; omega
section digit
variable {Y A B u d : Nat}
def dgQ (Y u d : Nat) : Nat := (u * 4294967296 + d) / Y
theorem Dg.pos (h : Dg Y A B u d) : 0 < Y := by have := h.hu; omega
theorem Dg.q2 (h : Dg Y A B u d) : u / A ≤ 4294967297 := by
  have hA : 0 < A := by have := h.ha; omega
  have : u / A < 4294967298 := by
    rw [Nat.div_lt_iff_lt_mul hA]
    have := h.hu; have := h.hy; have := h.hb; have := h.ha
    omega
  omega
theorem Dg.done (h : Dg Y A B u d) {q r : Nat} (e : q * A + r = u) (hq : dgQ Y u d ≤ q) (hc : q * B ≤ r * 4294967296 + d) : q = dgQ Y u d := by
  have : q ≤ dgQ Y u d := by
    clear hq
    unfold dgQ
    have e2 : q * Y = q * A * 4294967296 + q * B := by rw [h.hy, Nat.mul_add q (A * 4294967296) B, Nat.mul_assoc q A 4294967296]
    rw [Nat.le_div_iff_mul_le h.pos, e2]
    subst e
    exact lin_le _ _ _ _ _ hc
  omega
theorem Dg.rest (h : Dg Y A B u d) : dgQ Y u d * Y ≤ u * 4294967296 + d ∧ u * 4294967296 + d - dgQ Y u d * Y < Y := by
  have h1 : dgQ Y u d * Y ≤ u * 4294967296 + d := Nat.div_mul_le_self _ _
  refine ⟨h1, ?_⟩
  have h2 : Y * dgQ Y u d + (u * 4294967296 + d) % Y = u * 4294967296 + d := Nat.div_add_mod _ _
  have h3 : (u * 4294967296 + d) % Y < Y := Nat.mod_lt _ h.pos
  rw [Nat.mul_comm] at h2
  omega
end digit
theorem Dg.u2 {Y A B u d u2 : Nat} (h : Dg Y A B u d) (hu : u2 = u * 4294967296 + d - dgQ Y u d * Y) : u * 4294967296 + d = dgQ Y u d * Y + u2 ∧ u2 < Y := by
  obtain ⟨h1, h2⟩ := h.rest
  rw [hu]
  refine ⟨?_, h2⟩
  generalize dgQ Y u d * Y = m at *
  omega
end Go.Proofs.Ytldnponbkhgijaa
end
section
namespace Go.Proofs.Ytldnponbkhgijaa
open Go.ChangeShapes Go.WideShapes Go.ChangeAt Go.RowKit
set_option linter.unusedVariables false
set_option linter.unusedSimpArgs false

theorem BB.set1 {w : World} {g : Nat} {s : Bool} {A : Option Addr} {n c : Nat} (h : BB w g s A n c) (A' : Option Addr) (n' c' : Nat) : BB (w.setCell ⟨g, 1, none⟩ (.slice A' n' c')) g s A' n' c' := by
  obtain ⟨h0, h1, h2, f1, f2⟩ := h
  refine ⟨by simpa using h0, ?_, ?_, by simpa using f1, by simpa using f2⟩ <;> simp [cell_set, h1, h2]
end Go.Proofs.Ytldnponbkhgijaa
end
section
namespace Go.Proofs.Ytldnponbkhgijaa
open Go.ChangeShapes Go.WideShapes Go.ChangeAt Go.RowKit
set_option linter.unusedVariables false
set_option linter.unusedSimpArgs false

theorem EWd : Elem Try.prog 116 28 2 16 := Elem.mk' (z := .agg #[.int .i64 0, .int .u64 0]) (by kernel_rfl) (by kernel_rfl) (by decide) (by decide)
def qsL (l : List Lt) (a : Int) : List Int := (l.filter fun x => x.ast == a).map Lt.qty
theorem qsL_len (l : List Lt) (a : Int) : (qsL l a).length ≤ l.length := by unfold qsL; rw [List.length_map]; exact List.length_filter_le _ _
theorem qsL_in {l : List Lt} (h : ∀ y ∈ l, In64 y.qty) (a : Int) : All64 (qsL l a) := by
  intro q hq
  unfold qsL at hq
  obtain ⟨y, hy, rfl⟩ := List.mem_map.1 hq
  exact h y (List.mem_filter.1 hy).1
theorem qsL_snoc (l : List Lt) (a : Int) (k : Nat) (h : k < l.length) : qsL (l.take (k + 1)) a = qsL (l.take k) a ++ (if (l[k].ast == a) = true then [l[k].qty] else []) := by
  unfold qsL
  rw [take_snoc l k h, List.filter_append, List.map_append]
  cases hb : l[k].ast == a <;> simp [hb]
theorem wcells_snoc (l : List Int) (x : Int) : wcells (l ++ [x]) = wcells l ++ [.int .i64 (hiN x), .int .u64 (loN x)] := by simp [wcells]
theorem wide_one (x : Int) : ∀ u ∈ [Value.int .i64 (hiN x), Value.int .u64 (loN x)], u.oneCell' = true := by
  intro u hu
  simp at hu
  rcases hu with rfl | rfl <;> rfl
theorem sum64_128 {l : List Int} (hl : l.length ≤ 1000000) (h : All64 l) : In128 l.sum := by
  have key : ∀ m : List Int, All64 m → -(m.length : Int) * 9223372036854775808 ≤ m.sum ∧ m.sum ≤ (m.length : Int) * 9223372036854775808 := by
    intro m
    induction m with
    | nil => intro _; simp
    | cons a m ih =>
      intro hm
      have h1 := ih (fun x hx => hm x (by simp [hx]))
      have h2 := hm a (by simp)
      unfold In64 at h2
      simp only [List.length_cons, List.sum_cons]
      omega
  have := key l h
  unfold In128
  omega
set_option maxHeartbeats 4000000 in
set_option maxRecDepth 100000 in
theorem lsum_any (A : Option Addr) (cap : Nat) (l : List Lt) (a : Int) (w : World) (hl : l.length ≤ 900000) (hq : ∀ y ∈ l, In64 y.qty) (hs : Sl w A (rc Lt.cells l)) :
    Calls Try.prog 120 #[.slice A l.length cap, .int .i64 a] w fun e w' => e = .returned (.agg #[.int .i64 (hiN (qsL l a).sum), .int .u64 (loN (qsL l a).sum)]) ∧ Below w.heap.size w w' := by
  have HQI := Lib.hid (qsL_in hq a)
  have HQL := Lib.hid (qsL_len l a)
  have HQ := Lib.hid hq
  have H128 := Lib.hid (sum64_128 (by have := HQL.out; omega) HQI.out)
  have hB0 := since_alloc (Below.refl _ w) (.cells #[.int .i64 0, .int .u64 0] 28)
  have G0 := T2.new w 0 0 28
  have hs0 := hs.alloc (.cells #[.int .i64 0, .int .u64 0] 28)
  clear hs hq
  go_enter Try.func120, Try.ntmps120
  go_upto_region 1 with fail
  generalize hWW : w.alloc (.cells #[.int .i64 0, .int .u64 0] 28) = W at *
  clear hWW
  have hWs := hB0.size
  go_wp2_with fail
  go_loopw [5, 12] (fun out i wr => ∃ (k : Nat) (A' : Option Addr) (c' : Nat), k ≤ l.length ∧ i = .int .i64 k ∧ out = .slice A' (qsL (l.take k) a).length c' ∧ wr.ownsRow W.heap.size 28 2 (.slice A' (qsL (l.take k) a).length c') (qsL (l.take k) a).length (wcells (qsL (l.take k) a)) ∧ Below W.heap.size W wr) (fun _ i _ => l.length - (intOf i).toNat)
  case atStart => exact ⟨0, none, 0, by omega, rfl, rfl, own_nil _ _ _, Below.refl _ _⟩
  case round =>
    obtain ⟨k, A', c', hk, rfl, rfl, hown, hB⟩ := hrel
    by_cases hlt : k < l.length
    · obtain ⟨b, o, rfl, hbw, hg⟩ := (hs0.below hB).lt hlt
      have hlk : (k : Int) < (l.length : Int) := by omega
      have hge : (0 : Int) ≤ (k : Int) := by omega
      have HN := Lib.hid (qsL_snoc l a k hlt)
      have hvq := HQ.out _ (List.getElem_mem hlt)
      have hrl : (qsL (l.take k) a).length ≤ k := by have h := qsL_len (l.take k) a; simp only [List.length_take] at h; omega
      generalize l[k] = v at *
      obtain ⟨va, vt, vq⟩ := v
      have HN := Lib.hid HN.out
      simp only at hvq
      obtain ⟨g0, g1, g2⟩ := hg
      simp only at g0 g1 g2
      obtain ⟨R, hR⟩ : ∃ R, qsL (l.take k) a = R := ⟨_, rfl⟩
      rw [hR] at hown HN hrl ⊢
      clear hR
      by_cases h1 : va = a
      · have hN : qsL (l.take (k + 1)) a = R ++ [vq] := by rw [HN.out]; simp [h1]
        have HE := Lib.hid hN
        have hb1 : (va == a) = true := by simpa using h1
        clear HN hN h1
        go_wp2_with fail
        refine (wof_any vq hvq _).mono ?_
        rintro e w1 ⟨rfl, hb⟩
        have hv0 := (Below.refl wr.heap.size wr).alloc (Nat.le_refl _) (.cells #[.int .i64 va, .int .i64 vt, .int .i64 vq] 93)
        have hv1 := since_step hv0 hb
        have hB1 := hB.trans (hv1.mono hB.size)
        have hown1 := own_below hown hv1
        have hsz := hB1.size
        clear hb hv0 hv1 g0 g1 g2
        go_wp2_with (first
          | (at_builtin; refine wpList_app rfl (.tmp 20) (.tmp 24) rfl EWd rfl rfl (hown1.alloc _) (m := 1) (news := [.int .i64 (hiN vq), .int .u64 (loN vq)]) rfl (Sl.new_ _ _ _) (wide_one vq) (by unfold maxLen; omega) (by omega) (by simp only [World.size_alloc]; omega) ?_; intro A2 c2 w2 hown2 hg2 hb2)
          | fail)
        go_roundw
        case rel =>
          refine ⟨k + 1, A2, c2, by omega, by go_num, ?_, ?_, (since_alloc hB1 _).trans hb2⟩
          · rw [HE.out]; simp
          · rw [HE.out, wcells_snoc]; simpa using hown2
        case measure => simp [intOf]; omega
      · have hN : qsL (l.take (k + 1)) a = R := by rw [HN.out]; simp [h1]
        have HE := Lib.hid hN
        have hb1 : (va == a) = false := by simpa using h1
        clear HN hN h1
        have hv0 := (Below.refl wr.heap.size wr).alloc (Nat.le_refl _) (.cells #[.int .i64 va, .int .i64 vt, .int .i64 vq] 93)
        have hB1 := hB.trans (hv0.mono hB.size)
        have hown1 := own_below hown hv0
        clear hv0
        go_wp2_with fail
        go_roundw
        case rel =>
          refine ⟨k + 1, A', c', by omega, by go_num, ?_, ?_, hB1⟩
          · rw [HE.out]
          · rw [HE.out]; exact hown1
        case measure => simp [intOf]; omega
    · obtain rfl : k = l.length := by omega
      rw [List.take_length] at hown ⊢
      have HA := wadd_any A' c' (qsL l a) wr (by have := HQL.out; omega) (fun x hx => (of_in x (HQI.out x hx)).2.2) (Sl.of_own hown)
      rw [wideE_yes H128.out] at HA
      have hB1 := hB0.trans (hB.mono hWs)
      have G1 := T2.below G0 hB
      clear hown
      obtain ⟨z, hz⟩ : ∃ z, (qsL l a).sum = z := ⟨_, rfl⟩
      rw [hz] at HA
      have HZ := Lib.hid hz
      clear hz
      generalize (qsL l a).length = n at *
      go_wp2_with fail
      refine HA.mono ?_
      rintro e w1 ⟨rfl, hb⟩
      have hB2 := since_step hB1 hb
      have G2 := T2.below G1 hb
      have hcs := @cell_set
      obtain ⟨c0, c1, c2, f1, f2⟩ := id G2
      clear hb
      go_wp2_with fail
      refine bodyPost_ret (v := .agg #[.int .i64 (hiN z), .int .u64 (loN z)]) ?_ rfl ?_
      · have G3 := T2.alloc (T2.set2 G2 (hiN z) (loN z)) (.cells #[.int .i64 (hiN z), .int .u64 (loN z)] 28)
        obtain ⟨d0, d1, d2, _, _⟩ := G3
        generalize World.alloc _ _ = U at *
        simp [results, Try.results120, go_sem, d1, d2]
      · refine ⟨by rw [HZ.out], ?_⟩
        repeat' (first | with_reducible exact hB2 | with_reducible refine Below.setCell ?_ ?_ _ | with_reducible refine since_alloc ?_ _)
        all_goals simp
end Go.Proofs.Ytldnponbkhgijaa
end
section
namespace Go.Proofs.Ytldnponbkhgijaa
open Go.ChangeShapes Go.WideShapes Go.ChangeAt Go.RowKit
set_option linter.unusedVariables false
set_option linter.unusedSimpArgs false
theorem list_eq_ofL {α : Type} {a b : List α} (hl : a.length = b.length) (h : ∀ j, (h1 : j < a.length) → (h2 : j < b.length) → a[j] = b[j]) : a = b := List.ext_getElem hl fun j h1 h2 => h j h1 h2
theorem few18_any (A : Option Addr) (cap : Nat) (l : List Lt) (w : World) (hc : l.length ≤ cap) (hcm : cap ≤ maxLen) (hs : Sl w A (rc Lt.cells l)) :
    Calls Try.prog 57 #[.slice A l.length cap] w fun e w' => e = .returned (.slice A (l.take 20).length cap) ∧ Below w.heap.size w w' := by
  by_cases h : 20 < l.length
  · have hl : (l.take 20).length = 20 := by simp; omega
    rw [hl]
    have h40 : 20 ≤ cap := by omega
    cases A with
    | none => obtain ⟨b, o, e, _⟩ := hs.lt (k := 0) (by omega); cases e
    | some ad =>
      go_enter Try.func57, Try.ntmps57
      go_wp2
      go_ret
      exact ⟨rfl, Below.refl _ _⟩
  · have hl : (l.take 20).length = l.length := by simp; omega
    rw [hl]
    go_enter Try.func57, Try.ntmps57
    go_wp2
    go_ret
    exact ⟨rfl, Below.refl _ _⟩
set_option maxHeartbeats 4000000 in
set_option maxRecDepth 100000 in
theorem rlsame_any (A A2 : Option Addr) (cap cap2 : Nat) (l m : List Lt) (w : World) (hl : l.length ≤ 1000000) (hs : Sl w A (rc Lt.cells l)) (hs2 : Sl w A2 (rc Lt.cells m)) :
    Calls Try.prog 61 #[.slice A l.length cap, .slice A2 m.length cap2] w fun e w' => e = .returned (.bool (decide (l = m))) ∧ Below w.heap.size w w' := by
  by_cases hlen : l.length = m.length
  · go_enter Try.func61, Try.ntmps61
    rw [← hlen]
    have HLM := Lib.hid hlen
    clear hlen
    go_wp2_with fail
    go_loopw [5] (fun i wr => ∃ k : Nat, k ≤ l.length ∧ i = .int .i64 k ∧ (∀ j, (h1 : j < l.length) → (h2 : j < m.length) → j < k → l[j] = m[j]) ∧ Below w.heap.size w wr) (fun i _ => l.length - (intOf i).toNat)
    case atStart => exact ⟨0, by omega, rfl, fun j _ _ h => absurd h (by omega), Below.refl _ _⟩
    case round =>
      obtain ⟨k, hk, rfl, hno, hB⟩ := hrel
      by_cases hlt : k < l.length
      · have hlt2 : k < m.length := by rw [← HLM.out]; exact hlt
        obtain ⟨b, o, rfl, hbw, hg⟩ := hs.lt hlt
        obtain ⟨b2, o2, rfl, hbw2, hg2⟩ := hs2.lt hlt2
        have hbr : b < wr.heap.size := Nat.lt_of_lt_of_le hbw hB.size
        have hbr2 : b2 < wr.heap.size := Nat.lt_of_lt_of_le hbw2 hB.size
        have hsz : w.heap.size ≤ wr.heap.size := hB.size
        have HK1 : Hid (∀ V, Below wr.heap.size wr V → l[k].at V b (o + k * 3)) := Lib.hid fun V hV =>
          Lt.at_keep hg fun i => (hV.cell (p := ⟨b, i, none⟩) hbr).trans (hB.cell (p := ⟨b, i, none⟩) hbw)
        have HK0 : Hid (∀ V, Below wr.heap.size wr V → m[k].at V b2 (o2 + k * 3)) := Lib.hid fun V hV =>
          Lt.at_keep hg2 fun i => (hV.cell (p := ⟨b2, i, none⟩) hbr2).trans (hB.cell (p := ⟨b2, i, none⟩) hbw2)
        have HX : Hid (if l[k] = m[k] then (∀ j, (h1 : j < l.length) → (h2 : j < m.length) → j < k + 1 → l[j] = m[j]) else decide (l = m) = false) := Lib.hid (by
          split
          · rename_i he
            intro j h1 h2 hj
            rcases Nat.lt_or_ge j k with h | h
            · exact hno j h1 h2 h
            · obtain rfl : j = k := by omega
              exact he
          · rename_i he
            rw [decide_eq_false]
            intro e
            subst e
            exact he rfl)
        have hlk : (k : Int) < (l.length : Int) := by omega
        clear hno hs hs2 hg hg2 hbw hbw2
        generalize l[k] = v at HK1 HX
        generalize m[k] = u at HK0 HX
        obtain ⟨f0, f1, f2⟩ := v
        obtain ⟨e0, e1, e2⟩ := u
        unfold Lt.at at HK1 HK0
        simp only at HK1 HK0
        by_cases d0 : f0 = e0
        · subst d0
          by_cases d1 : f1 = e1
          · subst d1
            by_cases d2 : f2 = e2
            · subst d2
              have HN : Hid (∀ j, (h1 : j < l.length) → (h2 : j < m.length) → j < k + 1 → l[j] = m[j]) := Lib.hid (by have := HX.out; rw [if_pos rfl] at this; exact this)
              clear HX
              go_wp2_with fail
              refine wp_region_held_drew (S := (fun V => Below wr.heap.size wr V)) (by kernel_rfl) (by exact (Below.refl _ _).drew) (fun hHeld => ?_)
              refine wpAnyH_take (i := 0) (oi := { dst := some 17, op := _, type := _, pos := _, after := _, guard := _ }) (v := ?_) rfl (by kernel_rfl) (by kernel_rfl) (by kernel_rfl) (fun _ _ _ h => h) (Or.inl ⟨by rfl, ?_⟩) hHeld ?_
              rotate_left
              · (intro w hSw; obtain ⟨g0, g1, g2⟩ := HK1.out _ hSw; obtain ⟨h0, h1, h2⟩ := HK0.out _ hSw; go_simp <;> with_reducible rfl)
              try simp only [Act.put, List.setIfInBounds_toArray, List.set_cons_zero, List.set_cons_succ]
              refine wpAnyH_take (i := 1) (oi := { dst := some 18, op := _, type := _, pos := _, after := _, guard := _ }) (v := ?_) rfl (by kernel_rfl) (by kernel_rfl) (by kernel_rfl) (fun _ _ _ h => h) (Or.inl ⟨by rfl, ?_⟩) hHeld ?_
              rotate_left
              · (intro w hSw; obtain ⟨g0, g1, g2⟩ := HK1.out _ hSw; obtain ⟨h0, h1, h2⟩ := HK0.out _ hSw; go_simp <;> with_reducible rfl)
              try simp only [Act.put, List.setIfInBounds_toArray, List.set_cons_zero, List.set_cons_succ]
              refine wpAnyH_take (i := 2) (oi := { dst := some 19, op := _, type := _, pos := _, after := _, guard := _ }) (v := ?_) rfl (by kernel_rfl) (by kernel_rfl) (by kernel_rfl) (fun _ _ _ h => h) (Or.inl ⟨by rfl, ?_⟩) hHeld ?_
              rotate_left
              · (intro w hSw; obtain ⟨g0, g1, g2⟩ := HK1.out _ hSw; obtain ⟨h0, h1, h2⟩ := HK0.out _ hSw; go_simp <;> with_reducible rfl)
              try simp only [Act.put, List.setIfInBounds_toArray, List.set_cons_zero, List.set_cons_succ]
              refine wpAnyH_take (i := 3) (oi := { dst := some 20, op := _, type := _, pos := _, after := _, guard := _ }) (v := ?_) rfl (by kernel_rfl) (by kernel_rfl) (by kernel_rfl) (fun _ _ _ h => h) (Or.inl ⟨by rfl, ?_⟩) hHeld ?_
              rotate_left
              · (intro w hSw; obtain ⟨g0, g1, g2⟩ := HK1.out _ hSw; obtain ⟨h0, h1, h2⟩ := HK0.out _ hSw; go_simp <;> with_reducible rfl)
              try simp only [Act.put, List.setIfInBounds_toArray, List.set_cons_zero, List.set_cons_succ]
              refine wpAnyH_take (i := 4) (oi := { dst := some 21, op := _, type := _, pos := _, after := _, guard := _ }) (v := ?_) rfl (by kernel_rfl) (by kernel_rfl) (by kernel_rfl) (fun _ _ _ h => h) (Or.inl ⟨by rfl, ?_⟩) hHeld ?_
              rotate_left
              · (intro w hSw; obtain ⟨g0, g1, g2⟩ := HK1.out _ hSw; obtain ⟨h0, h1, h2⟩ := HK0.out _ hSw; go_simp <;> with_reducible rfl)
              try simp only [Act.put, List.setIfInBounds_toArray, List.set_cons_zero, List.set_cons_succ]
              refine wpAnyH_take (i := 5) (oi := { dst := some 22, op := _, type := _, pos := _, after := _, guard := _ }) (v := ?_) rfl (by kernel_rfl) (by kernel_rfl) (by kernel_rfl) (fun _ _ _ h => h) (Or.inl ⟨by rfl, ?_⟩) hHeld ?_
              rotate_left
              · (intro w hSw; obtain ⟨g0, g1, g2⟩ := HK1.out _ hSw; obtain ⟨h0, h1, h2⟩ := HK0.out _ hSw; go_simp <;> with_reducible rfl)
              try simp only [Act.put, List.setIfInBounds_toArray, List.set_cons_zero, List.set_cons_succ]
              refine wpAnyH_take (i := 6) (oi := { dst := some 23, op := _, type := _, pos := _, after := _, guard := _ }) (v := ?_) rfl (by kernel_rfl) (by kernel_rfl) (by kernel_rfl) (fun _ _ _ h => h) (Or.inl ⟨by rfl, ?_⟩) hHeld ?_
              rotate_left
              · (intro w hSw; obtain ⟨g0, g1, g2⟩ := HK1.out _ hSw; obtain ⟨h0, h1, h2⟩ := HK0.out _ hSw; go_simp <;> with_reducible rfl)
              try simp only [Act.put, List.setIfInBounds_toArray, List.set_cons_zero, List.set_cons_succ]
              refine wpAnyH_take (i := 7) (oi := { dst := some 24, op := _, type := _, pos := _, after := _, guard := _ }) (v := ?_) rfl (by kernel_rfl) (by kernel_rfl) (by kernel_rfl) (fun _ _ _ h => h) (Or.inl ⟨by rfl, ?_⟩) hHeld ?_
              rotate_left
              · (intro w hSw; obtain ⟨g0, g1, g2⟩ := HK1.out _ hSw; obtain ⟨h0, h1, h2⟩ := HK0.out _ hSw; go_simp <;> with_reducible rfl)
              try simp only [Act.put, List.setIfInBounds_toArray, List.set_cons_zero, List.set_cons_succ]
              refine wpAnyH_take (i := 8) (oi := { dst := some 25, op := _, type := _, pos := _, after := _, guard := _ }) (v := ?_) rfl (by kernel_rfl) (by kernel_rfl) (by kernel_rfl) (fun _ _ _ h => h) (Or.inl ⟨by rfl, ?_⟩) hHeld ?_
              rotate_left
              · (intro w hSw; obtain ⟨g0, g1, g2⟩ := HK1.out _ hSw; obtain ⟨h0, h1, h2⟩ := HK0.out _ hSw; go_simp <;> with_reducible rfl)
              try simp only [Act.put, List.setIfInBounds_toArray, List.set_cons_zero, List.set_cons_succ]
              refine wpAnyH_done (by kernel_rfl) ?_ _
              have hB2 := hB.trans (hHeld.mono hsz)
              go_wp2_with fail
              go_roundw
              case rel => exact ⟨k + 1, by omega, by go_num, HN.out, hB2⟩
              case measure => simp [intOf]; omega
            · have HN : Hid (decide (l = m) = false) := Lib.hid (by have := HX.out; rw [if_neg (by simp [d2])] at this; exact this)
              clear HX
              go_wp2_with fail
              refine wp_region_held_drew (S := (fun V => Below wr.heap.size wr V)) (by kernel_rfl) (by exact (Below.refl _ _).drew) (fun hHeld => ?_)
              refine wpAnyH_take (i := 0) (oi := { dst := some 17, op := _, type := _, pos := _, after := _, guard := _ }) (v := ?_) rfl (by kernel_rfl) (by kernel_rfl) (by kernel_rfl) (fun _ _ _ h => h) (Or.inl ⟨by rfl, ?_⟩) hHeld ?_
              rotate_left
              · (intro w hSw; obtain ⟨g0, g1, g2⟩ := HK1.out _ hSw; obtain ⟨h0, h1, h2⟩ := HK0.out _ hSw; go_simp <;> with_reducible rfl)
              try simp only [Act.put, List.setIfInBounds_toArray, List.set_cons_zero, List.set_cons_succ]
              refine wpAnyH_take (i := 1) (oi := { dst := some 18, op := _, type := _, pos := _, after := _, guard := _ }) (v := ?_) rfl (by kernel_rfl) (by kernel_rfl) (by kernel_rfl) (fun _ _ _ h => h) (Or.inl ⟨by rfl, ?_⟩) hHeld ?_
              rotate_left
              · (intro w hSw; obtain ⟨g0, g1, g2⟩ := HK1.out _ hSw; obtain ⟨h0, h1, h2⟩ := HK0.out _ hSw; go_simp <;> with_reducible rfl)
              try simp only [Act.put, List.setIfInBounds_toArray, List.set_cons_zero, List.set_cons_succ]
              refine wpAnyH_take (i := 2) (oi := { dst := some 19, op := _, type := _, pos := _, after := _, guard := _ }) (v := ?_) rfl (by kernel_rfl) (by kernel_rfl) (by kernel_rfl) (fun _ _ _ h => h) (Or.inl ⟨by rfl, ?_⟩) hHeld ?_
              rotate_left
              · (intro w hSw; obtain ⟨g0, g1, g2⟩ := HK1.out _ hSw; obtain ⟨h0, h1, h2⟩ := HK0.out _ hSw; go_simp <;> with_reducible rfl)
              try simp only [Act.put, List.setIfInBounds_toArray, List.set_cons_zero, List.set_cons_succ]
              refine wpAnyH_take (i := 3) (oi := { dst := some 20, op := _, type := _, pos := _, after := _, guard := _ }) (v := ?_) rfl (by kernel_rfl) (by kernel_rfl) (by kernel_rfl) (fun _ _ _ h => h) (Or.inl ⟨by rfl, ?_⟩) hHeld ?_
              rotate_left
              · (intro w hSw; obtain ⟨g0, g1, g2⟩ := HK1.out _ hSw; obtain ⟨h0, h1, h2⟩ := HK0.out _ hSw; go_simp <;> with_reducible rfl)
              try simp only [Act.put, List.setIfInBounds_toArray, List.set_cons_zero, List.set_cons_succ]
              refine wpAnyH_take (i := 4) (oi := { dst := some 21, op := _, type := _, pos := _, after := _, guard := _ }) (v := ?_) rfl (by kernel_rfl) (by kernel_rfl) (by kernel_rfl) (fun _ _ _ h => h) (Or.inl ⟨by rfl, ?_⟩) hHeld ?_
              rotate_left
              · (intro w hSw; obtain ⟨g0, g1, g2⟩ := HK1.out _ hSw; obtain ⟨h0, h1, h2⟩ := HK0.out _ hSw; go_simp <;> with_reducible rfl)
              try simp only [Act.put, List.setIfInBounds_toArray, List.set_cons_zero, List.set_cons_succ]
              refine wpAnyH_take (i := 5) (oi := { dst := some 22, op := _, type := _, pos := _, after := _, guard := _ }) (v := ?_) rfl (by kernel_rfl) (by kernel_rfl) (by kernel_rfl) (fun _ _ _ h => h) (Or.inl ⟨by rfl, ?_⟩) hHeld ?_
              rotate_left
              · (intro w hSw; obtain ⟨g0, g1, g2⟩ := HK1.out _ hSw; obtain ⟨h0, h1, h2⟩ := HK0.out _ hSw; go_simp <;> with_reducible rfl)
              try simp only [Act.put, List.setIfInBounds_toArray, List.set_cons_zero, List.set_cons_succ]
              refine wpAnyH_take (i := 6) (oi := { dst := some 23, op := _, type := _, pos := _, after := _, guard := _ }) (v := ?_) rfl (by kernel_rfl) (by kernel_rfl) (by kernel_rfl) (fun _ _ _ h => h) (Or.inl ⟨by rfl, ?_⟩) hHeld ?_
              rotate_left
              · (intro w hSw; obtain ⟨g0, g1, g2⟩ := HK1.out _ hSw; obtain ⟨h0, h1, h2⟩ := HK0.out _ hSw; go_simp <;> with_reducible rfl)
              try simp only [Act.put, List.setIfInBounds_toArray, List.set_cons_zero, List.set_cons_succ]
              refine wpAnyH_take (i := 7) (oi := { dst := some 24, op := _, type := _, pos := _, after := _, guard := _ }) (v := ?_) rfl (by kernel_rfl) (by kernel_rfl) (by kernel_rfl) (fun _ _ _ h => h) (Or.inl ⟨by rfl, ?_⟩) hHeld ?_
              rotate_left
              · (intro w hSw; obtain ⟨g0, g1, g2⟩ := HK1.out _ hSw; obtain ⟨h0, h1, h2⟩ := HK0.out _ hSw; go_simp <;> with_reducible rfl)
              try simp only [Act.put, List.setIfInBounds_toArray, List.set_cons_zero, List.set_cons_succ]
              refine wpAnyH_take (i := 8) (oi := { dst := some 25, op := _, type := _, pos := _, after := _, guard := _ }) (v := ?_) rfl (by kernel_rfl) (by kernel_rfl) (by kernel_rfl) (fun _ _ _ h => h) (Or.inl ⟨by rfl, ?_⟩) hHeld ?_
              rotate_left
              · (intro w hSw; obtain ⟨g0, g1, g2⟩ := HK1.out _ hSw; obtain ⟨h0, h1, h2⟩ := HK0.out _ hSw; go_simp <;> with_reducible rfl)
              try simp only [Act.put, List.setIfInBounds_toArray, List.set_cons_zero, List.set_cons_succ]
              refine wpAnyH_done (by kernel_rfl) ?_ _
              have hB2 := hB.trans (hHeld.mono hsz)
              go_wp2_with fail
              go_ret
              exact ⟨retB HN.out.symm, hB2⟩
          · have HN : Hid (decide (l = m) = false) := Lib.hid (by have := HX.out; rw [if_neg (by simp [d1])] at this; exact this)
            clear HX
            go_wp2_with fail
            refine wp_region_held_drew (S := (fun V => Below wr.heap.size wr V)) (by kernel_rfl) (by exact (Below.refl _ _).drew) (fun hHeld => ?_)
            refine wpAnyH_take (i := 0) (oi := { dst := some 17, op := _, type := _, pos := _, after := _, guard := _ }) (v := ?_) rfl (by kernel_rfl) (by kernel_rfl) (by kernel_rfl) (fun _ _ _ h => h) (Or.inl ⟨by rfl, ?_⟩) hHeld ?_
            rotate_left
            · (intro w hSw; obtain ⟨g0, g1, g2⟩ := HK1.out _ hSw; obtain ⟨h0, h1, h2⟩ := HK0.out _ hSw; go_simp <;> with_reducible rfl)
            try simp only [Act.put, List.setIfInBounds_toArray, List.set_cons_zero, List.set_cons_succ]
            refine wpAnyH_take (i := 1) (oi := { dst := some 18, op := _, type := _, pos := _, after := _, guard := _ }) (v := ?_) rfl (by kernel_rfl) (by kernel_rfl) (by kernel_rfl) (fun _ _ _ h => h) (Or.inl ⟨by rfl, ?_⟩) hHeld ?_
            rotate_left
            · (intro w hSw; obtain ⟨g0, g1, g2⟩ := HK1.out _ hSw; obtain ⟨h0, h1, h2⟩ := HK0.out _ hSw; go_simp <;> with_reducible rfl)
            try simp only [Act.put, List.setIfInBounds_toArray, List.set_cons_zero, List.set_cons_succ]
            refine wpAnyH_take (i := 2) (oi := { dst := some 19, op := _, type := _, pos := _, after := _, guard := _ }) (v := ?_) rfl (by kernel_rfl) (by kernel_rfl) (by kernel_rfl) (fun _ _ _ h => h) (Or.inl ⟨by rfl, ?_⟩) hHeld ?_
            rotate_left
            · (intro w hSw; obtain ⟨g0, g1, g2⟩ := HK1.out _ hSw; obtain ⟨h0, h1, h2⟩ := HK0.out _ hSw; go_simp <;> with_reducible rfl)
            try simp only [Act.put, List.setIfInBounds_toArray, List.set_cons_zero, List.set_cons_succ]
            refine wpAnyH_take (i := 3) (oi := { dst := some 20, op := _, type := _, pos := _, after := _, guard := _ }) (v := ?_) rfl (by kernel_rfl) (by kernel_rfl) (by kernel_rfl) (fun _ _ _ h => h) (Or.inl ⟨by rfl, ?_⟩) hHeld ?_
            rotate_left
            · (intro w hSw; obtain ⟨g0, g1, g2⟩ := HK1.out _ hSw; obtain ⟨h0, h1, h2⟩ := HK0.out _ hSw; go_simp <;> with_reducible rfl)
            try simp only [Act.put, List.setIfInBounds_toArray, List.set_cons_zero, List.set_cons_succ]
            refine wpAnyH_take (i := 4) (oi := { dst := some 21, op := _, type := _, pos := _, after := _, guard := _ }) (v := ?_) rfl (by kernel_rfl) (by kernel_rfl) (by kernel_rfl) (fun _ _ _ h => h) (Or.inl ⟨by rfl, ?_⟩) hHeld ?_
            rotate_left
            · (intro w hSw; obtain ⟨g0, g1, g2⟩ := HK1.out _ hSw; obtain ⟨h0, h1, h2⟩ := HK0.out _ hSw; go_simp <;> with_reducible rfl)
            try simp only [Act.put, List.setIfInBounds_toArray, List.set_cons_zero, List.set_cons_succ]
            refine wpAnyH_take (i := 5) (oi := { dst := some 22, op := _, type := _, pos := _, after := _, guard := _ }) (v := ?_) rfl (by kernel_rfl) (by kernel_rfl) (by kernel_rfl) (fun _ _ _ h => h) (Or.inl ⟨by rfl, ?_⟩) hHeld ?_
            rotate_left
            · (intro w hSw; obtain ⟨g0, g1, g2⟩ := HK1.out _ hSw; obtain ⟨h0, h1, h2⟩ := HK0.out _ hSw; go_simp <;> with_reducible rfl)
            try simp only [Act.put, List.setIfInBounds_toArray, List.set_cons_zero, List.set_cons_succ]
            refine wpAnyH_take (i := 6) (oi := { dst := some 23, op := _, type := _, pos := _, after := _, guard := _ }) (v := ?_) rfl (by kernel_rfl) (by kernel_rfl) (by kernel_rfl) (fun _ _ _ h => h) (Or.inl ⟨by rfl, ?_⟩) hHeld ?_
            rotate_left
            · (intro w hSw; obtain ⟨g0, g1, g2⟩ := HK1.out _ hSw; obtain ⟨h0, h1, h2⟩ := HK0.out _ hSw; go_simp <;> with_reducible rfl)
            try simp only [Act.put, List.setIfInBounds_toArray, List.set_cons_zero, List.set_cons_succ]
            refine wpAnyH_take (i := 7) (oi := { dst := some 24, op := _, type := _, pos := _, after := _, guard := _ }) (v := ?_) rfl (by kernel_rfl) (by kernel_rfl) (by kernel_rfl) (fun _ _ _ h => h) (Or.inl ⟨by rfl, ?_⟩) hHeld ?_
            rotate_left
            · (intro w hSw; obtain ⟨g0, g1, g2⟩ := HK1.out _ hSw; obtain ⟨h0, h1, h2⟩ := HK0.out _ hSw; go_simp <;> with_reducible rfl)
            try simp only [Act.put, List.setIfInBounds_toArray, List.set_cons_zero, List.set_cons_succ]
            refine wpAnyH_take (i := 8) (oi := { dst := some 25, op := _, type := _, pos := _, after := _, guard := _ }) (v := ?_) rfl (by kernel_rfl) (by kernel_rfl) (by kernel_rfl) (fun _ _ _ h => h) (Or.inl ⟨by rfl, ?_⟩) hHeld ?_
            rotate_left
            · (intro w hSw; obtain ⟨g0, g1, g2⟩ := HK1.out _ hSw; obtain ⟨h0, h1, h2⟩ := HK0.out _ hSw; go_simp <;> with_reducible rfl)
            try simp only [Act.put, List.setIfInBounds_toArray, List.set_cons_zero, List.set_cons_succ]
            refine wpAnyH_done (by kernel_rfl) ?_ _
            have hB2 := hB.trans (hHeld.mono hsz)
            go_wp2_with fail
            go_ret
            exact ⟨retB HN.out.symm, hB2⟩
        · have HN : Hid (decide (l = m) = false) := Lib.hid (by have := HX.out; rw [if_neg (by simp [d0])] at this; exact this)
          clear HX
          go_wp2_with fail
          refine wp_region_held_drew (S := (fun V => Below wr.heap.size wr V)) (by kernel_rfl) (by exact (Below.refl _ _).drew) (fun hHeld => ?_)
          refine wpAnyH_take (i := 0) (oi := { dst := some 17, op := _, type := _, pos := _, after := _, guard := _ }) (v := ?_) rfl (by kernel_rfl) (by kernel_rfl) (by kernel_rfl) (fun _ _ _ h => h) (Or.inl ⟨by rfl, ?_⟩) hHeld ?_
          rotate_left
          · (intro w hSw; obtain ⟨g0, g1, g2⟩ := HK1.out _ hSw; obtain ⟨h0, h1, h2⟩ := HK0.out _ hSw; go_simp <;> with_reducible rfl)
          try simp only [Act.put, List.setIfInBounds_toArray, List.set_cons_zero, List.set_cons_succ]
          refine wpAnyH_take (i := 1) (oi := { dst := some 18, op := _, type := _, pos := _, after := _, guard := _ }) (v := ?_) rfl (by kernel_rfl) (by kernel_rfl) (by kernel_rfl) (fun _ _ _ h => h) (Or.inl ⟨by rfl, ?_⟩) hHeld ?_
          rotate_left
          · (intro w hSw; obtain ⟨g0, g1, g2⟩ := HK1.out _ hSw; obtain ⟨h0, h1, h2⟩ := HK0.out _ hSw; go_simp <;> with_reducible rfl)
          try simp only [Act.put, List.setIfInBounds_toArray, List.set_cons_zero, List.set_cons_succ]
          refine wpAnyH_take (i := 2) (oi := { dst := some 19, op := _, type := _, pos := _, after := _, guard := _ }) (v := ?_) rfl (by kernel_rfl) (by kernel_rfl) (by kernel_rfl) (fun _ _ _ h => h) (Or.inl ⟨by rfl, ?_⟩) hHeld ?_
          rotate_left
          · (intro w hSw; obtain ⟨g0, g1, g2⟩ := HK1.out _ hSw; obtain ⟨h0, h1, h2⟩ := HK0.out _ hSw; go_simp <;> with_reducible rfl)
          try simp only [Act.put, List.setIfInBounds_toArray, List.set_cons_zero, List.set_cons_succ]
          refine wpAnyH_take (i := 3) (oi := { dst := some 20, op := _, type := _, pos := _, after := _, guard := _ }) (v := ?_) rfl (by kernel_rfl) (by kernel_rfl) (by kernel_rfl) (fun _ _ _ h => h) (Or.inl ⟨by rfl, ?_⟩) hHeld ?_
          rotate_left
          · (intro w hSw; obtain ⟨g0, g1, g2⟩ := HK1.out _ hSw; obtain ⟨h0, h1, h2⟩ := HK0.out _ hSw; go_simp <;> with_reducible rfl)
          try simp only [Act.put, List.setIfInBounds_toArray, List.set_cons_zero, List.set_cons_succ]
          refine wpAnyH_take (i := 4) (oi := { dst := some 21, op := _, type := _, pos := _, after := _, guard := _ }) (v := ?_) rfl (by kernel_rfl) (by kernel_rfl) (by kernel_rfl) (fun _ _ _ h => h) (Or.inl ⟨by rfl, ?_⟩) hHeld ?_
          rotate_left
          · (intro w hSw; obtain ⟨g0, g1, g2⟩ := HK1.out _ hSw; obtain ⟨h0, h1, h2⟩ := HK0.out _ hSw; go_simp <;> with_reducible rfl)
          try simp only [Act.put, List.setIfInBounds_toArray, List.set_cons_zero, List.set_cons_succ]
          refine wpAnyH_take (i := 5) (oi := { dst := some 22, op := _, type := _, pos := _, after := _, guard := _ }) (v := ?_) rfl (by kernel_rfl) (by kernel_rfl) (by kernel_rfl) (fun _ _ _ h => h) (Or.inl ⟨by rfl, ?_⟩) hHeld ?_
          rotate_left
          · (intro w hSw; obtain ⟨g0, g1, g2⟩ := HK1.out _ hSw; obtain ⟨h0, h1, h2⟩ := HK0.out _ hSw; go_simp <;> with_reducible rfl)
          try simp only [Act.put, List.setIfInBounds_toArray, List.set_cons_zero, List.set_cons_succ]
          refine wpAnyH_take (i := 6) (oi := { dst := some 23, op := _, type := _, pos := _, after := _, guard := _ }) (v := ?_) rfl (by kernel_rfl) (by kernel_rfl) (by kernel_rfl) (fun _ _ _ h => h) (Or.inl ⟨by rfl, ?_⟩) hHeld ?_
          rotate_left
          · (intro w hSw; obtain ⟨g0, g1, g2⟩ := HK1.out _ hSw; obtain ⟨h0, h1, h2⟩ := HK0.out _ hSw; go_simp <;> with_reducible rfl)
          try simp only [Act.put, List.setIfInBounds_toArray, List.set_cons_zero, List.set_cons_succ]
          refine wpAnyH_take (i := 7) (oi := { dst := some 24, op := _, type := _, pos := _, after := _, guard := _ }) (v := ?_) rfl (by kernel_rfl) (by kernel_rfl) (by kernel_rfl) (fun _ _ _ h => h) (Or.inl ⟨by rfl, ?_⟩) hHeld ?_
          rotate_left
          · (intro w hSw; obtain ⟨g0, g1, g2⟩ := HK1.out _ hSw; obtain ⟨h0, h1, h2⟩ := HK0.out _ hSw; go_simp <;> with_reducible rfl)
          try simp only [Act.put, List.setIfInBounds_toArray, List.set_cons_zero, List.set_cons_succ]
          refine wpAnyH_take (i := 8) (oi := { dst := some 25, op := _, type := _, pos := _, after := _, guard := _ }) (v := ?_) rfl (by kernel_rfl) (by kernel_rfl) (by kernel_rfl) (fun _ _ _ h => h) (Or.inl ⟨by rfl, ?_⟩) hHeld ?_
          rotate_left
          · (intro w hSw; obtain ⟨g0, g1, g2⟩ := HK1.out _ hSw; obtain ⟨h0, h1, h2⟩ := HK0.out _ hSw; go_simp <;> with_reducible rfl)
          try simp only [Act.put, List.setIfInBounds_toArray, List.set_cons_zero, List.set_cons_succ]
          refine wpAnyH_done (by kernel_rfl) ?_ _
          have hB2 := hB.trans (hHeld.mono hsz)
          go_wp2_with fail
          go_ret
          exact ⟨retB HN.out.symm, hB2⟩
      · have HE := Lib.hid (show decide (l = m) = true from decide_eq_true (list_eq_ofL HLM.out fun j h1 h2 => hno j h1 h2 (by omega)))
        clear hno
        go_wp2_with fail
        go_ret
        exact ⟨retB HE.out.symm, hB⟩
  · have HE := Lib.hid (show decide (l = m) = false from decide_eq_false fun e => hlen (by rw [e]))
    have hlen2 : ¬ ((l.length : Int) = (m.length : Int)) := by omega
    have hlen3 : ((l.length : Int) != (m.length : Int)) = true := by simpa using hlen2
    clear hlen
    go_enter Try.func61, Try.ntmps61
    go_wp2_with fail
    go_ret
    exact ⟨retB HE.out.symm, Below.refl _ _⟩
theorem rlsame_any_self (A A2 : Option Addr) (cap cap2 : Nat) (l : List Lt) (w : World) (hl : l.length ≤ 1000000) (hs : Sl w A (rc Lt.cells l)) (hs2 : Sl w A2 (rc Lt.cells l)) :
    Calls Try.prog 61 #[.slice A l.length cap, .slice A2 l.length cap2] w fun e w' => e = .returned (.bool true) ∧ Below w.heap.size w w' :=
  (rlsame_any A A2 cap cap2 l l w hl hs hs2).mono fun _ _ ⟨he, hw⟩ => ⟨by rw [he, decide_eq_true rfl], hw⟩
end Go.Proofs.Ytldnponbkhgijaa
end
section
namespace Go.Proofs.Ytldnponbkhgijaa
open Go.ChangeShapes Go.WideShapes Go.ChangeAt Go.RowKit
set_option linter.unusedVariables false
set_option linter.unusedSimpArgs false

section
variable {P : Program} {w : World}
end
def Apart (v u : Value) : Prop := ∀ g, v.ownBlock = some g → u.ownBlock ≠ some g
theorem Apart.symm {v u : Value} (h : Apart v u) : Apart u v := fun g h1 h2 => h g h2 h1
theorem Apart.none (u : Value) : Apart (.slice none 0 0) u := fun g h => by simp [Value.ownBlock] at h
end Go.Proofs.Ytldnponbkhgijaa
end
section
namespace Go.Proofs.Ytldnponbkhgijaa
open Go.ChangeShapes Go.WideShapes Go.ChangeAt Go.RowKit
set_option linter.unusedVariables false
set_option linter.unusedSimpArgs false

theorem Lt.Bx.far {w : World} {b : Nat} {g : Lt} (h : Lt.Bx w b g) {p : Addr} (hp : p.block ≠ b) (v : Value) : Lt.Bx (w.setCell p v) b g := by
  obtain ⟨h0, h1, h2⟩ := h
  refine ⟨by simpa using h0, ?_, ?_⟩
  · exact Lt.at_keep h1 fun i => by rw [cell_set, if_neg (fun e => hp (by rw [e]))]
  · rw [Below.heap_setCell _ _ _ _ (fun e => hp e.symm)]; exact h2
theorem Lt.Bx.grown {w w' : World} {b base n : Nat} {g : Lt} {v : Value} {xs : List Value} (h : Lt.Bx w b g) (o : Obj) (hv : w.ownsRow base 93 3 v n xs) (hg : (w.alloc o).grownBy w' v.ownBlock) (hne : v.ownBlock ≠ some b) : Lt.Bx w' b g := by
  have h1 := h.below ((Below.refl _ _).alloc (Nat.le_refl _) o)
  have hk := hg.block b h1.lt (fun e => hne e.symm)
  exact ⟨Nat.lt_of_lt_of_le h1.lt hg.size, Lt.at_keep h1.at_ fun i => World.cell?_of_block (a := ⟨b, i, none⟩) hk, hk.trans h1.hp⟩
end Go.Proofs.Ytldnponbkhgijaa
end
