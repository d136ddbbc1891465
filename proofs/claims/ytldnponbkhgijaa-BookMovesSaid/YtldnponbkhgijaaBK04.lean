import Derived.Test.YtldnponbkhgijaaBK00
import Derived.Test.YtldnponbkhgijaaBK01
import Derived.Deep.RegionWith
import Derived.Shelf.Bits.Mul64
import Derived.Shelf.Small.Bits
import Derived.Shelf.Strconv.Itoa0
import Derived.Test.YtldnponbkhgijaaProg
import Derived.BigQuiet
import Derived.Deep.QuietTactic
import Derived.IntWalk
import Derived.BigRegion
import Derived.Deep.DeepCutAuto
import Derived.Deep.CutBlock
import Derived.Deep.CutRange
section
namespace Go.Proofs.Ytldnponbkhgijaa
open Go.ChangeShapes Go.WideShapes Go.ChangeAt Go.RowKit
set_option linter.unusedVariables false
set_option linter.unusedSimpArgs false

theorem add64_run (x y c : Int) (hx : 0 ≤ x ∧ x < 18446744073709551616) (hy : 0 ≤ y ∧ y < 18446744073709551616) (hc : 0 ≤ c ∧ c ≤ 1) :
    ∃ s k : Int, (∀ w, (callFunc 191 #[.int .u64 x, .int .u64 y, .int .u64 c]).run Try.prog w = .ok (.value (.tuple #[.int .u64 s, .int .u64 k])) w) ∧ x + y + c = s + 18446744073709551616 * k ∧ (0 ≤ s ∧ s < 18446744073709551616) ∧ (0 ≤ k ∧ k ≤ 1) :=
  run_add64' Try.func191 (by kernel_rfl) (by kernel_rfl) (by kernel_rfl) (by kernel_rfl) x y c hx hy hc
theorem sub64_run (x y c : Int) (hx : 0 ≤ x ∧ x < 18446744073709551616) (hy : 0 ≤ y ∧ y < 18446744073709551616) (hc : 0 ≤ c ∧ c ≤ 1) :
    ∃ s k : Int, (∀ w, (callFunc 200 #[.int .u64 x, .int .u64 y, .int .u64 c]).run Try.prog w = .ok (.value (.tuple #[.int .u64 s, .int .u64 k])) w) ∧ x - y - c = s - 18446744073709551616 * k ∧ (0 ≤ s ∧ s < 18446744073709551616) ∧ (0 ≤ k ∧ k ≤ 1) :=
  run_sub64' Try.func200 (by kernel_rfl) (by kernel_rfl) (by kernel_rfl) (by kernel_rfl) x y c hx hy hc
theorem wrap64_eq (x : Int) : wrap64 x = IntKind.i64.wrap x := by rw [IntKind.wrap_i64]; unfold wrap64; omega
def sumV (x : Int) : Value := .agg #[.int .i64 (hiN x), .int .u64 (loN x), .int .i64 (topN x)]
set_option maxHeartbeats 1000000 in
theorem plus_any (x y : Int) (w : World) :
    Calls Try.prog 139 #[.agg #[.int .i64 (hiN x), .int .u64 (loN x), .int .i64 (topN x)], .agg #[.int .i64 (hiN y), .int .u64 (loN y), .int .i64 (topN y)]] w fun e w' => e = .returned (sumV (x + y)) ∧ Below w.heap.size w w' := by
  obtain ⟨s0, k0, r0, e0, b0, c0⟩ := add64_run (loN x) (loN y) 0 ⟨lo_nn x, lo_lt x⟩ ⟨lo_nn y, lo_lt y⟩ ⟨by omega, by omega⟩
  obtain ⟨s1, k1, r1, e1, b1, c1⟩ := add64_run (IntKind.u64.wrap (hiN x)) (IntKind.u64.wrap (hiN y)) k0 (uwrap_rng _) (uwrap_rng _) c0
  obtain ⟨s2, k2, r2, e2, b2, c2⟩ := add64_run (IntKind.u64.wrap (topN x)) (IntKind.u64.wrap (topN y)) k1 (uwrap_rng _) (uwrap_rng _) c1
  have H := Lib.hid (plus_parts x y s0 k0 s1 k1 s2 k2 e0 b0 e1 b1 e2 b2)
  clear e0 e1 e2 b0 b1 b2 c0 c1 c2
  go_enter Try.func139, Try.ntmps139
  go_wp2
  refine bodyPost_ret (v := .agg #[.int .i64 (IntKind.i64.wrap s1), .int .u64 s0, .int .i64 (IntKind.i64.wrap s2)]) ?_ rfl ?_
  · simp [results, Try.results139, go_sem, wrap64_eq]
  · refine ⟨by rw [H.out.1, H.out.2.1, H.out.2.2]; rfl, ?_⟩
    exact (((Below.refl _ _).alloc (Nat.le_refl _) _).alloc (by simp) _).alloc (by simp; omega) _
set_option maxHeartbeats 1000000 in
theorem minus_any (x : Int) (w : World) :
    Calls Try.prog 166 #[.agg #[.int .i64 (hiN x), .int .u64 (loN x), .int .i64 (topN x)]] w fun e w' => e = .returned (sumV (-x)) ∧ Below w.heap.size w w' := by
  obtain ⟨s0, k0, r0, e0, b0, c0⟩ := sub64_run 0 (loN x) 0 ⟨by omega, by omega⟩ ⟨lo_nn x, lo_lt x⟩ ⟨by omega, by omega⟩
  obtain ⟨s1, k1, r1, e1, b1, c1⟩ := sub64_run 0 (IntKind.u64.wrap (hiN x)) k0 ⟨by omega, by omega⟩ (uwrap_rng _) c0
  obtain ⟨s2, k2, r2, e2, b2, c2⟩ := sub64_run 0 (IntKind.u64.wrap (topN x)) k1 ⟨by omega, by omega⟩ (uwrap_rng _) c1
  have H := Lib.hid (minus_parts x s0 k0 s1 k1 s2 k2 e0 b0 e1 b1 e2 b2)
  clear e0 e1 e2 b0 b1 b2 c0 c1 c2
  go_enter Try.func166, Try.ntmps166
  go_wp2
  refine bodyPost_ret (v := .agg #[.int .i64 (IntKind.i64.wrap s1), .int .u64 s0, .int .i64 (IntKind.i64.wrap s2)]) ?_ rfl ?_
  · simp [results, Try.results166, go_sem, wrap64_eq]
  · refine ⟨by rw [H.out.1, H.out.2.1, H.out.2.2]; rfl, ?_⟩
    exact ((Below.refl _ _).alloc (Nat.le_refl _) _).alloc (by simp) _
theorem long_any (x : Int) (hx : In128 x) (w : World) :
    Calls Try.prog 140 #[.agg #[.int .i64 (hiN x), .int .u64 (loN x)]] w fun e w' => e = .returned (sumV x) ∧ Below w.heap.size w w' := by
  have H := Lib.hid (top_in hx)
  clear hx
  go_enter Try.func140, Try.ntmps140
  go_wp2
  refine bodyPost_ret (v := .agg #[.int .i64 (hiN x), .int .u64 (loN x), .int .i64 (hiN x / 9223372036854775808)]) ?_ rfl ?_
  · simp [results, Try.results140, go_sem]
  · refine ⟨by rw [← H.out]; rfl, ?_⟩
    exact ((Below.refl _ _).alloc (Nat.le_refl _) _).alloc (by simp) _
theorem narrow_yes (x : Int) (hx : In128 x) (w : World) :
    Calls Try.prog 141 #[.agg #[.int .i64 (hiN x), .int .u64 (loN x), .int .i64 (topN x)]] w fun e w' => e = .returned (.tuple #[.agg #[.int .i64 (hiN x), .int .u64 (loN x)], .int .i64 0]) ∧ Below w.heap.size w w' := by
  have hb : (topN x != hiN x / 9223372036854775808) = false := by rw [bne_eq_false_iff_eq]; exact top_in hx
  clear hx
  go_enter Try.func141, Try.ntmps141
  go_wp2
  refine bodyPost_ret (v := .tuple #[.agg #[.int .i64 (hiN x), .int .u64 (loN x)], .int .i64 0]) ?_ rfl ?_
  · simp [results, Try.results141, go_sem]
  · exact ⟨rfl, ((Below.refl _ _).alloc (Nat.le_refl _) _).alloc (by simp) _⟩
theorem narrow_no (x : Int) (h : In192 x) (hx : ¬ In128 x) (w : World) :
    Calls Try.prog 141 #[.agg #[.int .i64 (hiN x), .int .u64 (loN x), .int .i64 (topN x)]] w fun e w' => e = .returned (.tuple #[.agg #[.int .i64 0, .int .u64 0], .int .i64 7]) ∧ Below w.heap.size w w' := by
  have hb : (topN x != hiN x / 9223372036854775808) = true := by rw [bne_iff_ne]; intro e; exact hx ((narrow_iff h).1 e)
  clear hx h
  go_enter Try.func141, Try.ntmps141
  go_wp2
  refine bodyPost_ret (v := .tuple #[.agg #[.int .i64 0, .int .u64 0], .int .i64 7]) ?_ rfl ?_
  · simp [results, Try.results141, go_sem]
  · exact ⟨rfl, ((Below.refl _ _).alloc (Nat.le_refl _) _).alloc (by simp) _⟩
theorem wof_any (n : Int) (hn : In64 n) (w : World) :
    Calls Try.prog 77 #[.int .i64 n] w fun e w' => e = .returned (.agg #[.int .i64 (hiN n), .int .u64 (loN n)]) ∧ Below w.heap.size w w' := by
  obtain ⟨h1, h2, _⟩ := of_in n hn
  have H1 := Lib.hid h1
  have H2 := Lib.hid h2
  clear h1 h2 hn
  go_enter Try.func77, Try.ntmps77
  go_wp2
  refine bodyPost_ret (v := .agg #[.int .i64 (n / 9223372036854775808), .int .u64 (IntKind.u64.wrap n)]) ?_ rfl ?_
  · simp [results, Try.results77, go_sem]
  · exact ⟨by rw [H1.out, H2.out], (Below.refl _ _).alloc (Nat.le_refl _) _⟩
theorem int_yes (x : Int) (hx : In64 x) (w : World) :
    Calls Try.prog 112 #[.agg #[.int .i64 (hiN x), .int .u64 (loN x)]] w fun e w' => e = .returned (.tuple #[.int .i64 x, .int .i64 0]) ∧ Below w.heap.size w w' := by
  have hb : (hiN x != wrap64 (loN x) / 9223372036854775808) = false := by rw [bne_eq_false_iff_eq, wrap64_eq]; exact (int_iff (of_in x hx).2.2).2 hx
  have H := Lib.hid (show wrap64 (loN x) = x by rw [wrap64_eq]; exact int_lo hx)
  clear hx
  go_enter Try.func112, Try.ntmps112
  go_wp2
  go_ret2
  refine ⟨?_, (Below.refl _ _).alloc (Nat.le_refl _) _⟩
  simp [H.out]
theorem int_no (x : Int) (h : In128 x) (hx : ¬ In64 x) (w : World) :
    Calls Try.prog 112 #[.agg #[.int .i64 (hiN x), .int .u64 (loN x)]] w fun e w' => e = .returned (.tuple #[.int .i64 0, .int .i64 7]) ∧ Below w.heap.size w w' := by
  have hb : (hiN x != wrap64 (loN x) / 9223372036854775808) = true := by rw [bne_iff_ne, wrap64_eq]; intro e; exact hx ((int_iff h).1 e)
  clear hx h
  go_enter Try.func112, Try.ntmps112
  go_wp2
  go_ret2
  exact ⟨rfl, (Below.refl _ _).alloc (Nat.le_refl _) _⟩
end Go.Proofs.Ytldnponbkhgijaa
end
section
namespace Go.Proofs.Ytldnponbkhgijaa
open Go.ChangeShapes Go.WideShapes Go.ChangeAt Go.RowKit
set_option linter.unusedVariables false
set_option linter.unusedSimpArgs false

def wcells (l : List Int) : List Value := (l.map fun x => [Value.int .i64 (hiN x), Value.int .u64 (loN x)]).flatten
theorem wcells_length (l : List Int) : (wcells l).length = l.length * 2 := by
  induction l with
  | nil => rfl
  | cons a l ih => simp [wcells] at *; omega
theorem wcells_hi (l : List Int) (k : Nat) (h : k < l.length) : (wcells l)[k * 2]? = some (.int .i64 (hiN l[k])) ∧ (wcells l)[k * 2 + 1]? = some (.int .u64 (loN l[k])) := by
  induction l generalizing k with
  | nil => simp at h
  | cons a l ih =>
    cases k with
    | zero => simp [wcells]
    | succ k =>
      have := ih k (by simpa using h)
      simp only [wcells, List.map_cons, List.flatten_cons] at this ⊢
      rw [show (k + 1) * 2 = k * 2 + 1 + 1 from by omega, show k * 2 + 1 + 1 + 1 = (k * 2 + 1) + 1 + 1 from rfl]
      simpa using this
def T3 (w : World) (g : Nat) (x : Int) : Prop :=
  g < w.heap.size ∧ w.cell? ⟨g, 0, none⟩ = some (.int .i64 (hiN x)) ∧ w.cell? ⟨g, 1, none⟩ = some (.int .u64 (loN x)) ∧ w.cell? ⟨g, 2, none⟩ = some (.int .i64 (topN x)) ∧
  w.frozen? ⟨g, 0, none⟩ = false ∧ w.frozen? ⟨g, 1, none⟩ = false ∧ w.frozen? ⟨g, 2, none⟩ = false
def T2 (w : World) (g : Nat) (a b : Int) : Prop :=
  g < w.heap.size ∧ w.cell? ⟨g, 0, none⟩ = some (.int .i64 a) ∧ w.cell? ⟨g, 1, none⟩ = some (.int .u64 b) ∧ w.frozen? ⟨g, 0, none⟩ = false ∧ w.frozen? ⟨g, 1, none⟩ = false
section
variable {w w' : World} {g : Nat} {x a b : Int}
theorem T3.below (h : T3 w g x) (hb : Below w.heap.size w w') : T3 w' g x := by
  obtain ⟨h0, h1, h2, h3, f1, f2, f3⟩ := h
  exact ⟨Nat.lt_of_lt_of_le h0 hb.size, (hb.cell (p := ⟨g, 0, none⟩) h0).trans h1, (hb.cell (p := ⟨g, 1, none⟩) h0).trans h2, (hb.cell (p := ⟨g, 2, none⟩) h0).trans h3,
    (hb.frozen (p := ⟨g, 0, none⟩) h0).trans f1, (hb.frozen (p := ⟨g, 1, none⟩) h0).trans f2, (hb.frozen (p := ⟨g, 2, none⟩) h0).trans f3⟩
theorem T2.below (h : T2 w g a b) (hb : Below w.heap.size w w') : T2 w' g a b := by
  obtain ⟨h0, h1, h2, f1, f2⟩ := h
  exact ⟨Nat.lt_of_lt_of_le h0 hb.size, (hb.cell (p := ⟨g, 0, none⟩) h0).trans h1, (hb.cell (p := ⟨g, 1, none⟩) h0).trans h2, (hb.frozen (p := ⟨g, 0, none⟩) h0).trans f1, (hb.frozen (p := ⟨g, 1, none⟩) h0).trans f2⟩
theorem T3.set3 (h : T3 w g x) (y : Int) : T3 (((w.setCell ⟨g, 0, none⟩ (.int .i64 (hiN y))).setCell ⟨g, 1, none⟩ (.int .u64 (loN y))).setCell ⟨g, 2, none⟩ (.int .i64 (topN y))) g y := by
  obtain ⟨h0, h1, h2, h3, f1, f2, f3⟩ := h
  refine ⟨by simpa using h0, ?_, ?_, ?_, by simpa using f1, by simpa using f2, by simpa using f3⟩ <;> simp [cell_set, h1, h2, h3]
theorem T2.far (h : T2 w g a b) {p : Addr} (hp : p.block ≠ g) (v : Value) : T2 (w.setCell p v) g a b := by
  obtain ⟨h0, h1, h2, f1, f2⟩ := h
  have k : ∀ o, (w.setCell p v).cell? ⟨g, o, none⟩ = w.cell? ⟨g, o, none⟩ := fun o => World.cell?_setCell_other w _ _ _ (by rintro rfl; exact hp rfl)
  exact ⟨by simpa using h0, (k 0).trans h1, (k 1).trans h2, by simpa using f1, by simpa using f2⟩
theorem T2.new (w : World) (a b : Int) (t : TypeId) : T2 (w.alloc (.cells #[.int .i64 a, .int .u64 b] t)) w.heap.size a b := by
  refine ⟨by simp, ?_, ?_, ?_, ?_⟩ <;> simp
theorem T2.alloc (h : T2 w g a b) (o : Obj) : T2 (w.alloc o) g a b := h.below ((Below.refl _ _).alloc (Nat.le_refl _) o)
theorem T3.alloc (h : T3 w g x) (o : Obj) : T3 (w.alloc o) g x := h.below ((Below.refl _ _).alloc (Nat.le_refl _) o)
theorem T3.new (w : World) (x : Int) (t : TypeId) : T3 (w.alloc (.cells #[.int .i64 (hiN x), .int .u64 (loN x), .int .i64 (topN x)] t)) w.heap.size x := by
  refine ⟨by simp, ?_, ?_, ?_, ?_, ?_, ?_⟩ <;> simp
theorem T3.drew (h : T3 w g x) : T3 w.drew g x := h
theorem T2.drew (h : T2 w g a b) : T2 w.drew g a b := h
end
theorem zero_parts : hiN 0 = 0 ∧ loN 0 = 0 ∧ topN 0 = 0 := by decide
def wideE (x : Int) : Value := if In128 x then .tuple #[.agg #[.int .i64 (hiN x), .int .u64 (loN x)], .int .i64 0] else .tuple #[.agg #[.int .i64 0, .int .u64 0], .int .i64 7]
theorem wideE_yes {x : Int} (h : In128 x) : wideE x = .tuple #[.agg #[.int .i64 (hiN x), .int .u64 (loN x)], .int .i64 0] := if_pos h
theorem wideE_no {x : Int} (h : ¬ In128 x) : wideE x = .tuple #[.agg #[.int .i64 0, .int .u64 0], .int .i64 7] := if_neg h
set_option maxHeartbeats 2000000 in
theorem wadd_any (A : Option Addr) (cap : Nat) (l : List Int) (w : World) (hl : l.length ≤ 1000000) (hx : ∀ x ∈ l, In128 x) (hs : Sl w A (wcells l)) :
    Calls Try.prog 78 #[.slice A l.length cap] w fun e w' =>
      e = .returned (wideE l.sum) ∧ Below w.heap.size w w' := by
  obtain ⟨z1, z2, z3⟩ := zero_parts
  go_enter Try.func78, Try.ntmps78
  go_wp2
  go_loopw [9] (fun i wr => ∃ k : Nat, k ≤ l.length ∧ i = .int .i64 k ∧ T3 wr (w.heap.size + 1) (l.take k).sum ∧ T2 wr w.heap.size 0 0 ∧ Below w.heap.size w wr) (fun i _ => l.length - (intOf i).toNat)
  case atStart =>
    refine ⟨0, by omega, rfl, ?_, ?_, ?_⟩
    · unfold T3
      simp only [List.take_zero, List.sum_nil, z1, z2, z3]
      simp
    · unfold T2
      refine ⟨by simp; omega, ?_, ?_, ?_, ?_⟩ <;> simp
    · exact ((Below.refl _ _).alloc (Nat.le_refl _) _).alloc (by simp) _
  case round =>
    obtain ⟨k, hk, rfl, ht3, ht2, hB⟩ := hrel
    by_cases hlt : k < l.length
    · obtain ⟨b, o, rfl, hcc⟩ := hs (by intro e; have := wcells_length l; rw [e] at this; simp at this; omega)
      obtain ⟨w1, w2⟩ := wcells_hi l k hlt
      have hc1 := hcc _ _ w1
      have hc2 := hcc _ _ w2
      have hbw : b < w.heap.size := World.block_lt_of_cell? _ _ hc1
      have hd1 := (hB.cell (p := ⟨b, o + k * 2, none⟩) hbw).trans hc1
      have hd2 : wr.cell? ⟨b, o + k * 2 + 1, none⟩ = _ := (hB.cell (p := ⟨b, o + (k * 2 + 1), none⟩) hbw).trans hc2
      have hbr : b < wr.heap.size := Nat.lt_of_lt_of_le hbw hB.size
      have hin := hx _ (List.getElem_mem hlt)
      have hsum : (l.take (k + 1)).sum = (l.take k).sum + l[k] := by rw [take_snoc l k hlt, List.sum_append]; simp
      have HS := Lib.hid hsum
      clear hsum w1 w2 hc1 hc2 hcc
      generalize l[k] = x at *
      generalize (l.take k).sum = y at *
      obtain ⟨a0, a1, a2, a3, f1, f2, f3⟩ := id ht3
      go_wp2_with fail
      have u3 := ht3.below ((Below.refl _ _).alloc (Nat.le_refl _) (.cells #[.int .i64 (hiN x), .int .u64 (loN x)] 28))
      have u2 := ht2.below ((Below.refl _ _).alloc (Nat.le_refl _) (.cells #[.int .i64 (hiN x), .int .u64 (loN x)] 28))
      have uB := since_alloc hB (.cells #[.int .i64 (hiN x), .int .u64 (loN x)] 28)
      clear hd1 hd2
      have hcs := @cell_set
      go_region_with (first
        | (go_at_call 140; refine (long_any x hin _).mono ?_; rintro e w1 ⟨rfl, hb1⟩; have v3 := u3.drew.below hb1; have v2 := u2.drew.below hb1; have vB := since_step uB.drew hb1; obtain ⟨a10, a11, a12, a13, f11, f12, f13⟩ := id v3; unfold sumV; clear hb1)
        | (go_at_call 139; refine (plus_any y x _).mono ?_; rintro e w2 ⟨rfl, hb2⟩; have y3 := v3.below hb2; have y2 := v2.below hb2; have yB := since_step vB hb2; obtain ⟨a20, a21, a22, a23, f21, f22, f23⟩ := id y3; unfold sumV; clear hb2))
      all_goals
        go_wp2
        go_roundw
        case rel =>
          refine ⟨k + 1, by omega, by go_num, ?_, ?_, ?_⟩
          · rw [HS.out]; exact y3.set3 _
          · exact ((y2.far (by simp) _).far (by simp) _).far (by simp) _
          · repeat' (first | with_reducible exact yB | with_reducible refine Below.setCell ?_ ?_ _)
            all_goals simp
        case measure => simp [intOf]; omega
    · obtain rfl : k = l.length := by omega
      rw [List.take_length] at ht3
      obtain ⟨a0, a1, a2, a3, f1, f2, f3⟩ := id ht3
      have h192 : In192 l.sum := by
        have key : ∀ m : List Int, (∀ x ∈ m, In128 x) → -(m.length : Int) * 170141183460469231731687303715884105728 ≤ m.sum ∧ m.sum ≤ (m.length : Int) * 170141183460469231731687303715884105728 := by
          intro m
          induction m with
          | nil => intro _; simp
          | cons a m ih =>
            intro hm
            have h1 := ih (fun x hx => hm x (by simp [hx]))
            have h2 := hm a (by simp)
            unfold In128 at h2
            simp only [List.length_cons, List.sum_cons]
            omega
        have := key l hx
        unfold In192
        omega
      by_cases hin : In128 l.sum
      · have HE := Lib.hid (wideE_yes hin)
        go_wp2_with fail
        refine (narrow_yes l.sum hin _).mono ?_
        rintro e w1 ⟨rfl, hb1⟩
        have y2 := ht2.below hb1
        have hB1 := since_step hB hb1
        obtain ⟨c0, c1, c2, g1, g2⟩ := id y2
        have hcs := @cell_set
        clear hb1
        go_wp2
        refine bodyPost_ret (v := .tuple #[.agg #[.int .i64 (hiN l.sum), .int .u64 (loN l.sum)], .int .i64 0]) ?_ rfl ?_
        · simp [results, Try.results78, go_sem, cell_set, c1, c2]
        · refine ⟨by rw [HE.out], ?_⟩
          repeat' (first | with_reducible exact hB1 | with_reducible refine Below.setCell ?_ ?_ _)
          all_goals simp
      · have HE := Lib.hid (wideE_no hin)
        go_wp2_with fail
        refine (narrow_no l.sum h192 hin _).mono ?_
        rintro e w1 ⟨rfl, hb1⟩
        have y2 := ht2.below hb1
        have hB1 := since_step hB hb1
        obtain ⟨c0, c1, c2, g1, g2⟩ := id y2
        have hcs := @cell_set
        clear hb1
        go_wp2
        refine bodyPost_ret (v := .tuple #[.agg #[.int .i64 0, .int .u64 0], .int .i64 7]) ?_ rfl ?_
        · simp [results, Try.results78, go_sem, cell_set, c1, c2]
        · refine ⟨by rw [HE.out], ?_⟩
          repeat' (first | with_reducible exact hB1 | with_reducible refine Below.setCell ?_ ?_ _)
          all_goals simp
end Go.Proofs.Ytldnponbkhgijaa
end
section
namespace Go.Proofs.Ytldnponbkhgijaa
open Go.ChangeShapes Go.WideShapes Go.ChangeAt Go.RowKit
set_option linter.unusedVariables false
set_option linter.unusedSimpArgs false

theorem in192_of {x y : Int} (hx : In128 x) (hy : In128 y) : In192 (x + -y) ∧ In192 (-x) := by
  unfold In128 In192 at *; omega
set_option maxHeartbeats 2000000 in
theorem wsub_any (x y : Int) (hx : In128 x) (hy : In128 y) (w : World) :
    Calls Try.prog 107 #[.agg #[.int .i64 (hiN x), .int .u64 (loN x)], .agg #[.int .i64 (hiN y), .int .u64 (loN y)]] w fun e w' => e = .returned (wideE (x + -y)) ∧ Below w.heap.size w w' := by
  have h192 := (in192_of hx hy).1
  have B1 : T2 (((w.alloc (.cells #[.int .i64 (hiN x), .int .u64 (loN x)] 28)).alloc (.cells #[.int .i64 (hiN y), .int .u64 (loN y)] 28)).alloc (.cells #[.int .i64 0, .int .u64 0] 28)) w.heap.size (hiN x) (loN x) := ((T2.new w _ _ _).alloc _).alloc _
  have B2 : T2 (((w.alloc (.cells #[.int .i64 (hiN x), .int .u64 (loN x)] 28)).alloc (.cells #[.int .i64 (hiN y), .int .u64 (loN y)] 28)).alloc (.cells #[.int .i64 0, .int .u64 0] 28)) (w.heap.size + 1) (hiN y) (loN y) := by
    have := (T2.new (w.alloc (.cells #[.int .i64 (hiN x), .int .u64 (loN x)] 28)) (hiN y) (loN y) 28).alloc (.cells #[.int .i64 0, .int .u64 0] 28)
    rwa [World.size_alloc] at this
  have B3 : T2 (((w.alloc (.cells #[.int .i64 (hiN x), .int .u64 (loN x)] 28)).alloc (.cells #[.int .i64 (hiN y), .int .u64 (loN y)] 28)).alloc (.cells #[.int .i64 0, .int .u64 0] 28)) (w.heap.size + 1 + 1) 0 0 := by
    have := T2.new ((w.alloc (.cells #[.int .i64 (hiN x), .int .u64 (loN x)] 28)).alloc (.cells #[.int .i64 (hiN y), .int .u64 (loN y)] 28)) 0 0 28
    rwa [World.size_alloc, World.size_alloc] at this
  have uB : Below w.heap.size w (((w.alloc (.cells #[.int .i64 (hiN x), .int .u64 (loN x)] 28)).alloc (.cells #[.int .i64 (hiN y), .int .u64 (loN y)] 28)).alloc (.cells #[.int .i64 0, .int .u64 0] 28)) := (((Below.refl _ _).alloc (Nat.le_refl _) _).alloc (by simp) _).alloc (by simp; omega) _
  have tk1 : True := trivial
  have hcs := @cell_set
  by_cases hin : In128 (x + -y)
  · have HE := Lib.hid (wideE_yes hin)
    go_enter Try.func107, Try.ntmps107
    go_wp2_with fail
    · skip
      go_region_with (first
        | (go_at_call 140; first
            | (have _t := tk1; refine (long_any x hx _).mono ?_; rintro e w1 ⟨rfl, hb1⟩; have A1 := B1.drew.below hb1; have A2 := B2.drew.below hb1; have A3 := B3.drew.below hb1; have AB := since_step uB.drew hb1; obtain ⟨p0, p1, p2, q1, q2⟩ := id A1; obtain ⟨p3, p4, p5, q4, q5⟩ := id A2; unfold sumV; clear tk1 hb1)
            | (refine (long_any y hy _).mono ?_; rintro e w2 ⟨rfl, hb2⟩; have C3 := A3.below hb2; have CB := since_step AB hb2; unfold sumV; clear hb2))
        | (go_at_call 166; refine (minus_any y _).mono ?_; rintro e w3 ⟨rfl, hb3⟩; have D3 := C3.below hb3; have DB := since_step CB hb3; unfold sumV; clear hb3)
        | (go_at_call 139; refine (plus_any x (-y) _).mono ?_; rintro e w4 ⟨rfl, hb4⟩; have E3 := D3.below hb4; have EB := since_step DB hb4; unfold sumV; clear hb4)
        | (go_at_call 141; refine (narrow_yes (x + -y) hin _).mono ?_; rintro e w5 ⟨rfl, hb5⟩; have F3 := E3.below hb5; have FB := since_step EB hb5; obtain ⟨r0, r1, r2, t1, t2⟩ := id F3; clear hb5))
      all_goals
        go_wp2
        refine bodyPost_ret (v := .tuple #[.agg #[.int .i64 (hiN (x + -y)), .int .u64 (loN (x + -y))], .int .i64 0]) ?_ rfl ?_
        · simp [results, Try.results107, go_sem, cell_set, r1, r2]
        · refine ⟨by rw [HE.out], ?_⟩
          repeat' (first | with_reducible exact FB | with_reducible refine Below.setCell ?_ ?_ _)
          all_goals first | (simp; done) | (simp; omega)
  · have HE := Lib.hid (wideE_no hin)
    go_enter Try.func107, Try.ntmps107
    go_wp2_with fail
    · skip
      go_region_with (first
        | (go_at_call 140; first
            | (have _t := tk1; refine (long_any x hx _).mono ?_; rintro e w1 ⟨rfl, hb1⟩; have A1 := B1.drew.below hb1; have A2 := B2.drew.below hb1; have A3 := B3.drew.below hb1; have AB := since_step uB.drew hb1; obtain ⟨p0, p1, p2, q1, q2⟩ := id A1; obtain ⟨p3, p4, p5, q4, q5⟩ := id A2; unfold sumV; clear tk1 hb1)
            | (refine (long_any y hy _).mono ?_; rintro e w2 ⟨rfl, hb2⟩; have C3 := A3.below hb2; have CB := since_step AB hb2; unfold sumV; clear hb2))
        | (go_at_call 166; refine (minus_any y _).mono ?_; rintro e w3 ⟨rfl, hb3⟩; have D3 := C3.below hb3; have DB := since_step CB hb3; unfold sumV; clear hb3)
        | (go_at_call 139; refine (plus_any x (-y) _).mono ?_; rintro e w4 ⟨rfl, hb4⟩; have E3 := D3.below hb4; have EB := since_step DB hb4; unfold sumV; clear hb4)
        | (go_at_call 141; refine (narrow_no (x + -y) h192 hin _).mono ?_; rintro e w5 ⟨rfl, hb5⟩; have F3 := E3.below hb5; have FB := since_step EB hb5; obtain ⟨r0, r1, r2, t1, t2⟩ := id F3; clear hb5))
      all_goals
        go_wp2
        refine bodyPost_ret (v := .tuple #[.agg #[.int .i64 0, .int .u64 0], .int .i64 7]) ?_ rfl ?_
        · simp [results, Try.results107, go_sem, cell_set, r1, r2]
        · refine ⟨by rw [HE.out], ?_⟩
          repeat' (first | with_reducible exact FB | with_reducible refine Below.setCell ?_ ?_ _)
          all_goals first | (simp; done) | (simp; omega)
end Go.Proofs.Ytldnponbkhgijaa
end
section
namespace Go.Proofs.Ytldnponbkhgijaa
open Go.ChangeShapes Go.WideShapes Go.ChangeAt Go.RowKit
set_option linter.unusedVariables false
set_option linter.unusedSimpArgs false

def eL (z : Int) : Int := if In128 z then loN z else 0
end Go.Proofs.Ytldnponbkhgijaa
end
section
namespace Go.Proofs.Ytldnponbkhgijaa
open Go.ChangeShapes Go.WideShapes Go.ChangeAt Go.RowKit
set_option linter.unusedVariables false
set_option linter.unusedSimpArgs false

def fV (x : Int) : Int := if In64 x then x else 0
def fE (x : Int) : Int := if In64 x then 0 else 7
theorem int_any (x : Int) (h : In128 x) (w : World) :
    Calls Try.prog 112 #[.agg #[.int .i64 (hiN x), .int .u64 (loN x)]] w fun e w' => e = .returned (.tuple #[.int .i64 (fV x), .int .i64 (fE x)]) ∧ Below w.heap.size w w' := by
  by_cases hx : In64 x
  · rw [show fV x = x from if_pos hx, show fE x = 0 from if_pos hx]; exact int_yes x hx w
  · rw [show fV x = 0 from if_neg hx, show fE x = 7 from if_neg hx]; exact int_no x h hx w
end Go.Proofs.Ytldnponbkhgijaa
end
section
namespace Go.Proofs.Ytldnponbkhgijaa
open Go.ChangeShapes Go.WideShapes Go.ChangeAt Go.RowKit
set_option linter.unusedVariables false
set_option linter.unusedSimpArgs false

def bval : List Nat → Nat
  | [] => 0
  | b :: l => b + 2 * bval l
def Bin (l : List Nat) : Prop := ∀ b ∈ l, b ≤ 1
def Norm (l : List Nat) : Prop := Bin l ∧ ∀ k, (h : k < l.length) → l.length = k + 1 → l[k] = 1
theorem Bin.nil : Bin [] := fun b h => by cases h
theorem Norm.nil : Norm [] := ⟨Bin.nil, fun k h => by simp at h⟩
theorem Bin.take {l : List Nat} (h : Bin l) (n : Nat) : Bin (l.take n) := fun b hb => h b (List.mem_of_mem_take hb)
theorem Bin.app {a b : List Nat} (h : Bin a) (k : Bin b) : Bin (a ++ b) := fun x hx => by
  rcases List.mem_append.1 hx with h' | h'
  · exact h x h'
  · exact k x h'
theorem Bin.snoc {a : List Nat} (h : Bin a) {x : Nat} (hx : x ≤ 1) : Bin (a ++ [x]) := h.app fun b hb => by simp at hb; omega
theorem Bin.at_ {l : List Nat} (h : Bin l) {k : Nat} (hk : k < l.length) : l[k] ≤ 1 := h _ (List.getElem_mem hk)
theorem bval_append (a b : List Nat) : bval (a ++ b) = bval a + 2 ^ a.length * bval b := by
  induction a with
  | nil => simp [bval]
  | cons x a ih =>
    simp only [List.cons_append, bval, ih, List.length_cons, Nat.pow_succ]
    rw [Nat.mul_add, Nat.mul_comm (2 ^ a.length) 2, Nat.mul_assoc]
    omega
theorem bval_snoc (a : List Nat) (x : Nat) : bval (a ++ [x]) = bval a + 2 ^ a.length * x := by
  rw [bval_append]; simp [bval]
theorem bval_take (l : List Nat) (k : Nat) (h : k < l.length) : bval (l.take (k + 1)) = bval (l.take k) + 2 ^ k * l[k] := by
  rw [take_snoc l k h, bval_snoc, List.length_take, Nat.min_eq_left (by omega)]
theorem bval_lt {l : List Nat} (h : Bin l) : bval l < 2 ^ l.length := by
  induction l with
  | nil => simp [bval]
  | cons x l ih =>
    have := ih fun b hb => h b (by simp [hb])
    have h1 := h x (by simp)
    simp only [bval, List.length_cons, Nat.pow_succ]
    omega
theorem bval_drop (l : List Nat) (k : Nat) (hk : k ≤ l.length) : bval l = bval (l.take k) + 2 ^ k * bval (l.drop k) := by
  conv => lhs; rw [← List.take_append_drop k l]
  rw [bval_append, List.length_take, Nat.min_eq_left hk]
theorem Norm.ge {l : List Nat} (h : Norm l) {k : Nat} (hk : l.length = k + 1) : 2 ^ k ≤ bval l := by
  have h1 := bval_take l k (by omega)
  rw [List.take_of_length_le (by omega), h.2 k (by omega) hk] at h1
  omega
theorem norm_of_ge {l : List Nat} (h : Bin l) {k : Nat} (hk : l.length = k + 1) (hv : 2 ^ k ≤ bval l) : Norm l := by
  refine ⟨h, fun j hj hl => ?_⟩
  obtain rfl : j = k := by omega
  have h1 := bval_take l j (by omega)
  rw [List.take_of_length_le (by omega)] at h1
  have h2 := bval_lt (h.take j)
  rw [List.length_take, Nat.min_eq_left (by omega)] at h2
  have h3 := h.at_ hj
  rcases Nat.lt_or_ge 0 l[j] with h4 | h4
  · omega
  · have : l[j] = 0 := by omega
    rw [this] at h1
    omega
theorem Norm.zero {l : List Nat} (h : Norm l) : bval l = 0 ↔ l = [] := by
  constructor
  · intro e
    cases hl : l.length with
    | zero => exact List.eq_nil_of_length_eq_zero hl
    | succ k => have := h.ge hl; have := Nat.pow_pos (n := k) (show 0 < 2 by omega); omega
  · rintro rfl; rfl
theorem Norm.len_le {l : List Nat} (h : Norm l) {n : Nat} (hv : bval l < 2 ^ n) : l.length ≤ n := by
  cases hl : l.length with
  | zero => omega
  | succ k =>
    have h1 := h.ge hl
    refine Decidable.byContradiction fun hn => ?_
    have : 2 ^ n ≤ 2 ^ k := Nat.pow_le_pow_right (by omega) (by omega)
    omega
theorem Norm.len_iff {l : List Nat} (h : Norm l) (n : Nat) : l.length ≤ n ↔ bval l < 2 ^ n := by
  refine ⟨fun hl => ?_, h.len_le⟩
  have := bval_lt h.1
  have : 2 ^ l.length ≤ 2 ^ n := Nat.pow_le_pow_right (by omega) hl
  omega
theorem Norm.lt_len {a b : List Nat} (ha : Norm a) (hb : Norm b) (h : a.length < b.length) : bval a < bval b := by
  obtain ⟨k, hk⟩ : ∃ k, b.length = k + 1 := ⟨b.length - 1, by omega⟩
  have h1 := hb.ge hk
  have h2 := bval_lt ha.1
  have : 2 ^ a.length ≤ 2 ^ k := Nat.pow_le_pow_right (by omega) (by omega)
  omega
theorem bval_top {a b : List Nat} (ha : Bin a) (hb : Bin b) (hl : a.length = b.length) {k : Nat} (h1 : k < a.length) (h2 : k < b.length) (he : a.drop (k + 1) = b.drop (k + 1)) (hlt : a[k] < b[k]) : bval a < bval b := by
  rw [bval_drop a (k + 1) (by omega), bval_drop b (k + 1) (by omega), he, bval_take a k h1, bval_take b k h2]
  have h3 := bval_lt (ha.take k)
  rw [List.length_take, Nat.min_eq_left (by omega)] at h3
  have h4 := hb.at_ h2
  have e1 : a[k] = 0 := by omega
  have e2 : b[k] = 1 := by omega
  rw [e1, e2]
  omega
theorem bval_trim {l : List Nat} {n : Nat} (hn : n ≤ l.length) (h : ∀ j, (hj : j < l.length) → n ≤ j → l[j] = 0) : bval (l.take n) = bval l := by
  rw [bval_drop l n hn]
  have : bval (l.drop n) = 0 := by
    have key : ∀ m : List Nat, (∀ x ∈ m, x = 0) → bval m = 0 := by
      intro m
      induction m with
      | nil => intro _; rfl
      | cons x m ih => intro hm; simp only [bval, ih fun y hy => hm y (by simp [hy]), hm x (by simp)]
    refine key _ fun x hx => ?_
    obtain ⟨j, hj, rfl⟩ := List.getElem_of_mem hx
    rw [List.getElem_drop]
    simp at hj
    exact h _ (by omega) (by omega)
  rw [this]
  simp
structure BigAt (w : World) (neg : Bool) (A : Option Addr) (n c : Nat) (z : Int) : Prop where
  ex : ∃ bits : List Nat, bits.length = n ∧ n ≤ c ∧ c ≤ maxLen ∧ Sl w A (by8 bits) ∧ Norm bits ∧ (neg = true → bits ≠ []) ∧ z = if neg = true then -(bval bits : Int) else (bval bits : Int)
theorem BigAt.below {w w' : World} {neg : Bool} {A : Option Addr} {n c : Nat} {z : Int} (h : BigAt w neg A n c z) (hb : Below w.heap.size w w') : BigAt w' neg A n c z := by
  obtain ⟨bits, h1, h2, h3, h4, h5, h6, h7⟩ := h.ex
  exact ⟨bits, h1, h2, h3, h4.below hb, h5, h6, h7⟩
theorem BigAt.alloc {w : World} {neg : Bool} {A : Option Addr} {n c : Nat} {z : Int} (h : BigAt w neg A n c z) (o : Obj) : BigAt (w.alloc o) neg A n c z := h.below ((Below.refl _ _).alloc (Nat.le_refl _) o)
theorem BigAt.drew {w : World} {neg : Bool} {A : Option Addr} {n c : Nat} {z : Int} (h : BigAt w neg A n c z) : BigAt w.drew neg A n c z := h.below ⟨rfl, rfl, rfl, Nat.le_refl _, fun _ _ => rfl⟩
theorem BigAt.zero (w : World) : BigAt w false none 0 0 0 := ⟨[], rfl, Nat.le_refl _, by decide, Sl.nil, Norm.nil, (fun h => nomatch h), rfl⟩
theorem BigAt.len {w : World} {neg : Bool} {A : Option Addr} {n c : Nat} {z : Int} (h : BigAt w neg A n c z) {k : Nat} : n ≤ k ↔ z.natAbs < 2 ^ k := by
  obtain ⟨bits, h1, h2, h3, h4, h5, h6, h7⟩ := h.ex
  rw [← h1, h5.len_iff, h7]
  cases neg <;> simp
theorem BigAt.neg_iff {w : World} {neg : Bool} {A : Option Addr} {n c : Nat} {z : Int} (h : BigAt w neg A n c z) : neg = decide (z < 0) := by
  obtain ⟨bits, h1, h2, h3, h4, h5, h6, h7⟩ := h.ex
  cases neg with
  | false => simp only [Bool.false_eq_true, if_false] at h7; rw [h7]; simp
  | true =>
    simp only [if_true] at h7
    have : 0 < bval bits := by
      have := h5.zero
      have := h6 rfl
      rcases Nat.eq_zero_or_pos (bval bits) with h | h
      · exact absurd (h5.zero.1 h) (h6 rfl)
      · exact h
    rw [h7]
    symm
    simp
    omega
theorem big_take {w : World} {A : Option Addr} {c k : Nat} {bits : List Nat} (neg : Bool) (hb : Bin bits) (hk : k ≤ bits.length) (hc : bits.length ≤ c ∧ c ≤ maxLen) (hs : Sl w A (by8 bits))
    (hz : ∀ j, (hj : j < bits.length) → k ≤ j → bits[j] = 0) (hn : ∀ m, (hm : m < bits.length) → k = m + 1 → bits[m] = 1) :
    BigAt w (neg && decide (0 < k)) A k c (if neg = true then -(bval bits : Int) else (bval bits : Int)) := by
  have hv := bval_trim hk hz
  have hN : Norm (bits.take k) := by
    refine ⟨hb.take k, fun j hj hl => ?_⟩
    have h1 : j < bits.length := by simp at hj; omega
    rw [List.getElem_take]
    refine hn j h1 ?_
    rw [List.length_take] at hl
    omega
  refine ⟨bits.take k, by simp; omega, by omega, hc.2, by rw [by8_take]; exact hs.take k, hN, fun h e => ?_, ?_⟩
  · have : k = 0 := by
      have := congrArg List.length e
      simp at this
      rcases this with h | h
      · exact h
      · rw [h] at hk; simp at hk; exact hk
    subst this
    simp at h
  · rw [hv]
    cases neg with
    | false => simp
    | true =>
      simp only [Bool.true_and, if_true]
      by_cases h : 0 < k
      · simp [h]
      · have hk0 : k = 0 := by omega
        subst hk0
        simp [bval] at hv
        simp [← hv]
theorem own_cap' {w : World} {base : Nat} {e : TypeId} {size n c : Nat} {A : Option Addr} {xs : List Value} (h : w.ownsRow base e size (.slice A n c) n xs) : n ≤ c ∧ c ≤ maxLen := by
  rcases h.2 with ⟨hv, h0⟩ | ⟨g, cap, cur, hv, hg, hh, hnc, hcm, _⟩
  · injection hv with e1 e2 e3; subst e3; subst h0; exact ⟨Nat.le_refl _, by decide⟩
  · injection hv with e1 e2 e3; subst e3; exact ⟨hnc, hcm⟩
end Go.Proofs.Ytldnponbkhgijaa
end
section
namespace Go.Proofs.Ytldnponbkhgijaa
open Go.ChangeShapes Go.WideShapes Go.ChangeAt Go.RowKit
set_option linter.unusedVariables false
set_option linter.unusedSimpArgs false

theorem EU : Elem Try.prog 33 5 1 1 := Elem.mk' (z := .int .u8 0) (by kernel_rfl) (by kernel_rfl) (by decide) (by decide)
def RB (w : World) (g : Nat) : Prop := g < w.heap.size ∧ w.cell? ⟨g, 0, none⟩ = some (.bool false) ∧ w.cell? ⟨g, 1, none⟩ = some (.slice none 0 0) ∧ ∀ i, w.frozen? ⟨g, i, none⟩ = false
theorem RB.new (w : World) (t : TypeId) : RB (w.alloc (.cells #[.bool false, .slice none 0 0] t)) w.heap.size := ⟨by simp, by simp, by simp, fun i => by simp⟩
theorem RB.far {w w' : World} {B g : Nat} (h : RB w g) (hb : Below B w w') (hg : g < B) : RB w' g :=
  ⟨Nat.lt_of_lt_of_le h.1 hb.size, (hb.cell (p := ⟨g, 0, none⟩) hg).trans h.2.1, (hb.cell (p := ⟨g, 1, none⟩) hg).trans h.2.2.1, fun i => (hb.frozen (p := ⟨g, i, none⟩) hg).trans (h.2.2.2 i)⟩
theorem RB.below {w w' : World} {g : Nat} (h : RB w g) (hb : Below w.heap.size w w') : RB w' g := h.far hb h.1
theorem RB.alloc {w : World} {g : Nat} (h : RB w g) (o : Obj) : RB (w.alloc o) g := h.below ((Below.refl _ _).alloc (Nat.le_refl _) o)
set_option maxHeartbeats 1000000 in
theorem trim_any (neg : Bool) (A : Option Addr) (c : Nat) (bits : List Nat) (z : Int) (hzv : z = if neg = true then -(bval bits : Int) else (bval bits : Int)) (w : World) (hl : bits.length ≤ 1000000) (hc : bits.length ≤ c ∧ c ≤ maxLen) (hb : Bin bits) (hs : Sl w A (by8 bits)) :
    Calls Try.prog 115 #[.bool neg, .slice A bits.length c] w fun e w' => (∃ n c', e = .returned (.agg #[.bool (decide (z < 0)), .slice A n c']) ∧ n ≤ bits.length ∧ BigAt w' (decide (z < 0)) A n c' z) ∧ Below w.heap.size w w' := by
  have hcs := @cell_set
  go_enter Try.func115, Try.ntmps115
  go_wp2
  go_loopw [5] (fun i wr => ∃ k : Nat, k ≤ bits.length ∧ i = .int .i64 k ∧ (∀ j, (hj : j < bits.length) → k ≤ j → bits[j] = 0) ∧ Below w.heap.size w wr ∧ RB wr w.heap.size) (fun i _ => (intOf i).toNat)
  case atStart => exact ⟨bits.length, by omega, rfl, fun j hj h => absurd h (by omega), since_alloc (Below.refl _ _) _, RB.new _ _⟩
  case round =>
    obtain ⟨k, hk, rfl, hz, hB, hR⟩ := hrel
    have HR := Lib.hid hR
    obtain ⟨r0, r1, r2, r3⟩ := hR
    have hsr := hs.below hB
    have hcap : bits.length ≤ c := hc.1
    have key : (∀ m, (hm : m < bits.length) → k = m + 1 → bits[m] = 1) → ∀ g, g = (neg && decide (0 < k)) → decide (z < 0) = g ∧ ∀ W, Below w.heap.size w W → BigAt W (decide (z < 0)) A k c z := by
      intro hn g hg
      subst hg
      have h0 := big_take neg hb hk hc hs hz hn
      rw [← hzv] at h0
      have h1 := h0.neg_iff
      refine ⟨h1.symm, fun W h => ?_⟩
      rw [← h1]
      exact h0.below h
    have HZ := Lib.hid hzv
    clear hzv
    rcases Nat.eq_zero_or_pos k with h0 | hpos
    · subst h0
      have KEY := Lib.hid (key (fun m hm e => by omega) false (by simp))
      clear key
      cases neg
      all_goals
        go_wp2
        refine bodyPost_ret (v := .agg #[.bool false, .slice A 0 c]) ?_ rfl ?_
        · simp [results, Try.results115, go_sem, cell_set, r1, r2]
        · refine ⟨⟨0, c, by rw [KEY.out.1], Nat.zero_le _, KEY.out.2 _ ?_⟩, ?_⟩
          all_goals
            repeat' (first | with_reducible exact hB | with_reducible refine Below.setCell ?_ ?_ _)
            all_goals first | (simp; done) | (simp; omega)
    · obtain ⟨m, rfl⟩ : ∃ m, k = m + 1 := ⟨k - 1, by omega⟩
      have hm : m < bits.length := by omega
      obtain ⟨b, o, rfl, hz1⟩ := hsr.byte hm
      have hbr := World.block_lt_of_cell? _ _ hz1
      have hbit := hb.at_ hm
      have hcm1 : m + 1 ≤ c := by omega
      by_cases h1 : bits[m] = 0
      · rw [h1] at hz1
        clear key
        go_wp2
        go_roundw
        case rel =>
          refine ⟨m, by omega, (by first | rfl | go_num), fun j hj hjm => ?_, hB, HR.out⟩
          rcases Nat.lt_or_ge m j with h | h
          · exact hz j hj h
          · obtain rfl : j = m := by omega
            exact h1
        case measure => simp [intOf] <;> omega
      · have h2 : bits[m] = 1 := by omega
        rw [h2] at hz1
        have KEY := Lib.hid (key (fun m' hm' e => by
          obtain rfl : m' = m := by omega
          exact h2) neg (by simp))
        clear key
        cases neg
        · go_wp2
          refine bodyPost_ret (v := .agg #[.bool false, .slice (some ⟨b, o, none⟩) (m + 1) c]) ?_ rfl ?_
          · simp [results, Try.results115, go_sem, cell_set, r1, r2]
          · refine ⟨⟨m + 1, c, by rw [KEY.out.1], hk, KEY.out.2 _ ?_⟩, ?_⟩
            all_goals
              repeat' (first | with_reducible exact hB | with_reducible refine Below.setCell ?_ ?_ _)
              all_goals first | (simp; done) | (simp; omega)
        · go_wp2
          refine bodyPost_ret (v := .agg #[.bool true, .slice (some ⟨b, o, none⟩) (m + 1) c]) ?_ rfl ?_
          · simp [results, Try.results115, go_sem, cell_set, r1, r2]
          · refine ⟨⟨m + 1, c, by rw [KEY.out.1], hk, KEY.out.2 _ ?_⟩, ?_⟩
            all_goals
              repeat' (first | with_reducible exact hB | with_reducible refine Below.setCell ?_ ?_ _)
              all_goals first | (simp; done) | (simp; omega)
def Fr (B : Nat) (A : Option Addr) (n : Nat) : Prop := ∀ b o, A = some ⟨b, o, none⟩ → 0 < n → B ≤ b
theorem Fr.own {w : World} {base : Nat} {e : TypeId} {size n c : Nat} {A : Option Addr} {xs : List Value} (h : w.ownsRow base e size (.slice A n c) n xs) : Fr base A n := by
  intro b o hA hn
  obtain ⟨g, e1, e2, _⟩ := own_at h hn
  rw [hA] at e1
  injection e1 with e1
  injection e1 with e1
  omega
theorem Fr.le {B B' : Nat} {A : Option Addr} {n m : Nat} (h : Fr B A n) (hB : B' ≤ B) (hm : m ≤ n) : Fr B' A m := fun b o hA hn => by
  have := h b o hA (by omega)
  omega
theorem BigAt.far {w : World} {neg : Bool} {A : Option Addr} {n c : Nat} {z : Int} (h : BigAt w neg A n c z) {p : Addr} (hp : ∀ b o, A = some ⟨b, o, none⟩ → 0 < n → b ≠ p.block) (v : Value) : BigAt (w.setCell p v) neg A n c z := by
  obtain ⟨bits, h1, h2, h3, h4, h5, h6, h7⟩ := h.ex
  refine ⟨bits, h1, h2, h3, ?_, h5, h6, h7⟩
  rcases Nat.eq_zero_or_pos n with h0 | h0
  · rw [h0] at h1
    rw [List.eq_nil_of_length_eq_zero h1]
    exact Sl.nil
  · exact h4.far (fun b o hA => hp b o hA h0) v
set_option maxRecDepth 100000 in
set_option maxHeartbeats 1000000 in
theorem nat_any (u : Nat) (w : World) (hu : u < 18446744073709551616) :
    Calls Try.prog 85 #[.int .u64 (u : Int)] w fun e w' => (∃ A n c, e = .returned (.agg #[.bool false, .slice A n c]) ∧ Fr w.heap.size A n ∧ BigAt w' false A n c (u : Int)) ∧ Below w.heap.size w w' := by
  have hcs := @cell_set
  go_enter Try.func85, Try.ntmps85
  go_wp2
  go_loopw [0, 3] (fun x v wr => ∃ (y : Nat) (A : Option Addr) (c : Nat) (bits : List Nat), x = .int .u64 (y : Int) ∧ v = .slice A bits.length c ∧ wr.ownsRow (w.heap.size + 1) 5 1 (.slice A bits.length c) bits.length (by8 bits) ∧ Bin bits ∧ u = bval bits + 2 ^ bits.length * y ∧ (y = 0 → Norm bits) ∧ Below w.heap.size w wr ∧ RB wr w.heap.size) (fun x _ _ => (intOf x).toNat)
  case atStart => exact ⟨u, none, 0, [], rfl, rfl, own_nil _ _ _, Bin.nil, by simp [bval], fun _ => Norm.nil, since_alloc (Below.refl _ _) _, RB.new _ _⟩
  case round =>
    obtain ⟨y, A, c, bits, rfl, rfl, hown, hbin, hu2, hn, hB, hR⟩ := hrel
    rcases Nat.eq_zero_or_pos y with h0 | hpos
    · subst h0
      have hz : bval bits = u := by omega
      have HN := Lib.hid (hn rfl)
      have hcap := own_cap' hown
      have hsl := Sl.of_own hown
      obtain ⟨r0, r1, r2, r3⟩ := hR
      have hlt : ∀ b o, A = some ⟨b, o, none⟩ → 0 < bits.length → b ≠ w.heap.size := fun b o h hp => by
        obtain ⟨g, e1, e2, _⟩ := own_at hown hp
        rw [h] at e1
        injection e1 with e1
        injection e1 with e1
        omega
      have KEY : ∀ W, Sl W A (by8 bits) → BigAt W false A bits.length c (u : Int) := fun W h =>
        ⟨bits, rfl, hcap.1, hcap.2, h, HN.out, (fun h => nomatch h), by simp [hz]⟩
      clear hu2 hz hn
      go_wp2
      refine bodyPost_ret (v := .agg #[.bool false, .slice A bits.length c]) ?_ rfl ?_
      · simp [results, Try.results85, go_sem, cell_set, r1, r2]
      · refine ⟨⟨A, bits.length, c, rfl, (Fr.own hown).le (Nat.le_succ _) (Nat.le_refl _), KEY _ ?_⟩, ?_⟩
        · rcases Nat.eq_zero_or_pos bits.length with h0 | h0
          · rw [List.eq_nil_of_length_eq_zero h0]; exact Sl.nil
          · exact (hsl.far (fun b o h => hlt b o h h0) _).far (fun b o h => hlt b o h h0) _
        · repeat' (first | with_reducible exact hB | with_reducible refine Below.setCell ?_ ?_ _)
          all_goals first | (simp; done) | (simp; omega)
    · have hlen : bits.length < 64 := by
        refine Decidable.byContradiction fun hge => ?_
        have : 2 ^ 64 ≤ 2 ^ bits.length := Nat.pow_le_pow_right (by omega) (by omega)
        have h2 : 2 ^ bits.length * 1 ≤ 2 ^ bits.length * y := Nat.mul_le_mul_left _ hpos
        omega
      have hy : y < 18446744073709551616 := by
        have : 1 * y ≤ 2 ^ bits.length * y := Nat.mul_le_mul_right _ (Nat.pow_pos (by omega))
        omega
      have hm2 : y % 2 < 2 := Nat.mod_lt _ (by omega)
      have hm0 : 0 ≤ (y : Int) % 2 := by omega
      have hm1 : (y : Int) % 2 < 256 := by omega
      have hv : u = bval (bits ++ [y % 2]) + 2 ^ (bits ++ [y % 2]).length * (y / 2) := by
        rw [bval_snoc, List.length_append, List.length_singleton, Nat.pow_succ, Nat.mul_assoc, Nat.add_assoc, ← Nat.mul_add, Nat.mod_add_div]
        exact hu2
      have hN : y / 2 = 0 → Norm (bits ++ [y % 2]) := fun h => by
        have h1 : y = 1 := by omega
        subst h1
        refine ⟨hbin.snoc (by omega), fun j hj hl => ?_⟩
        simp at hl
        subst hl
        simp
      have HV := Lib.hid hv
      have HN := Lib.hid hN
      clear hv hN hn hu2
      go_wp2_with (first
        | (at_builtin; refine wpList_app rfl (.tmp 6) (.tmp 10) rfl EU rfl rfl (hown.alloc _) (m := 1) (news := [_]) rfl (Sl.new_ _ _ _) (by intro u hu; simp at hu; rw [hu]; rfl) (by unfold maxLen; omega) (by omega) (by have := hB.size; have := hR.1; simp; omega) ?_; intro A2 c2 w2 hown2 hg2 hb2)
        | fail)
      have hB2 := (since_alloc hB _).trans (hb2.mono (Nat.le_succ _))
      have hR2 := (hR.alloc _).far hb2 (Nat.lt_succ_self _)
      go_roundw
      case rel =>
        refine ⟨y / 2, A2, c2, bits ++ [y % 2], (by first | rfl | go_num), by simp, ?_, hbin.snoc (by omega), HV.out, HN.out, hB2, hR2⟩
        simpa [by8_append, by8] using hown2
      case measure => simp [intOf] <;> omega
end Go.Proofs.Ytldnponbkhgijaa
end
section
namespace Go.Proofs.Ytldnponbkhgijaa
open Go.ChangeShapes Go.WideShapes Go.ChangeAt Go.RowKit
set_option linter.unusedVariables false
set_option linter.unusedSimpArgs false

theorem bval_step (l : List Nat) (k : Nat) : bval (l.take (k + 1)) = bval (l.take k) + 2 ^ k * l.getD k 0 := by
  by_cases h : k < l.length
  · rw [bval_take l k h]; simp [List.getD, h]
  · rw [List.take_of_length_le (by omega), List.take_of_length_le (by omega)]
    simp [List.getD, List.getElem?_eq_none (show l.length ≤ k by omega)]
theorem getD_in {l : List Nat} {k : Nat} (h : k < l.length) : l.getD k 0 = l[k] := by simp [List.getD, h]
theorem getD_out {l : List Nat} {k : Nat} (h : ¬ k < l.length) : l.getD k 0 = 0 := by simp [List.getD, List.getElem?_eq_none (show l.length ≤ k by omega)]
def BRow (B : Nat) (w : World) (A : Option Addr) (c : Nat) (out : List Nat) : Prop := (out.length ≤ c ∧ c ≤ maxLen) ∧ Sl w A (by8 out) ∧ Bin out ∧ Fr B A out.length
set_option maxRecDepth 100000 in
set_option maxHeartbeats 2000000 in
theorem bplus_any (A B : Option Addr) (ca cb : Nat) (a b : List Nat) (w : World) (la : a.length ≤ 1000000) (lb : b.length ≤ 1000000) (ha : Bin a) (hb : Bin b) (hs : Sl w A (by8 a)) (ht : Sl w B (by8 b)) :
    Calls Try.prog 116 #[.slice A a.length ca, .slice B b.length cb] w fun e w' => (∃ A' c' out, e = .returned (.slice A' (List.length out) c') ∧ BRow w.heap.size w' A' c' out ∧ bval out = bval a + bval b ∧
      (out.length = max a.length b.length ∨ (out.length = max a.length b.length + 1 ∧ 2 ^ max a.length b.length ≤ bval out))) ∧ Below w.heap.size w w' := by
  go_enter Try.func116, Try.ntmps116
  go_wp2
  go_loopw [5, 6, 7] (fun v x i wr => ∃ (k c : Nat) (A' : Option Addr) (c' : Nat) (out : List Nat), i = .int .i64 k ∧ x = .int .u8 (c : Int) ∧ v = .slice A' out.length c' ∧ k ≤ max a.length b.length ∧ out.length = k ∧ c ≤ 1 ∧ wr.ownsRow w.heap.size 5 1 (.slice A' out.length c') out.length (by8 out) ∧ Bin out ∧ bval out + 2 ^ k * c = bval (a.take k) + bval (b.take k) ∧ Below w.heap.size w wr) (fun _ _ i _ => max a.length b.length - (intOf i).toNat)
  case atStart => exact ⟨0, 0, none, 0, [], rfl, rfl, rfl, by omega, rfl, by omega, own_nil _ _ _, Bin.nil, by simp [bval], Below.refl _ _⟩
  case round =>
    obtain ⟨k, c, A', c', out, rfl, rfl, rfl, hk, hlen, hc, hown, hbin, hv, hB⟩ := hrel
    by_cases hlt : k < a.length ∨ k < b.length
    · have hka := bval_step a k
      have hkb := bval_step b k
      have hx1 : a.getD k 0 ≤ 1 := by by_cases h : k < a.length; (rw [getD_in h]; exact ha.at_ h); (rw [getD_out h]; omega)
      have hy1 : b.getD k 0 ≤ 1 := by by_cases h : k < b.length; (rw [getD_in h]; exact hb.at_ h); (rw [getD_out h]; omega)
      have hx := fun h : k < a.length => (hs.below hB).byte h
      have hy := fun h : k < b.length => (ht.below hB).byte h
      have hxg := fun h : k < a.length => getD_in h
      have hyg := fun h : k < b.length => getD_in h
      have hxo := fun h : ¬ k < a.length => getD_out (l := a) h
      have hyo := fun h : ¬ k < b.length => getD_out (l := b) h
      generalize a.getD k 0 = x at *
      generalize b.getD k 0 = y at *
      have hnew : bval (out ++ [(c + x + y) % 2]) + 2 ^ (k + 1) * ((c + x + y) / 2) = bval (a.take (k + 1)) + bval (b.take (k + 1)) := by
        rw [hka, hkb, bval_snoc, hlen, Nat.pow_succ, Nat.mul_assoc, Nat.add_assoc, ← Nat.mul_add, Nat.mod_add_div]
        rw [Nat.mul_add, Nat.mul_add]
        omega
      have HNEW := Lib.hid hnew
      have HK := Lib.hid (show k + 1 ≤ max a.length b.length by omega)
      have hk1 : k < 1000000 := by omega
      clear hnew hka hkb hv hk
      have H1 := Lib.hid (show (c + x + y) % 2 ≤ 1 by omega)
      have H2 := Lib.hid (show (c + x + y) / 2 ≤ 1 by omega)
      have H3 := Lib.hid hlen
      have hout : out.length < 1000000 := by omega
      clear hlen
      by_cases h1 : k < a.length
      · obtain ⟨b1, o1, rfl, hz1⟩ := hx h1
        have hb1 := World.block_lt_of_cell? _ _ hz1
        have e1 := hxg h1
        rw [← e1] at hz1
        clear hx hxg hxo e1
        by_cases h2 : k < b.length
        · obtain ⟨b2, o2, rfl, hz2⟩ := hy h2
          have hb2 := World.block_lt_of_cell? _ _ hz2
          have e2 := hyg h2
          rw [← e2] at hz2
          clear hy hyg hyo e2 hlt
          go_wp2_with (first
            | (at_builtin; refine wpList_app rfl (.tmp 40) (.tmp 43) rfl EU rfl rfl (hown.alloc _) (m := 1) (news := [_]) rfl (Sl.new_ _ _ _) (by intro u hu; simp at hu; rw [hu]; rfl) (by unfold maxLen; omega) (by omega) (by have := hB.size; simp; omega) ?_; intro A2 c2 w2 hown2 hg2 hb2)
            | fail)
          have hB2 := (since_alloc hB _).trans hb2
          go_roundw
          case rel => exact ⟨k + 1, (c + x + y) / 2, A2, c2, out ++ [(c + x + y) % 2], by go_num, intE (by simp), by simp, HK.out, by simp [H3.out], H2.out, by simpa [by8_append, by8] using hown2, hbin.snoc H1.out, HNEW.out, hB2⟩
          case measure => simp [intOf]; omega
        · have e2 := hyo h2
          subst e2
          clear hy hyg hyo hlt
          go_wp2_with (first
            | (at_builtin; refine wpList_app rfl (.tmp 40) (.tmp 43) rfl EU rfl rfl (hown.alloc _) (m := 1) (news := [_]) rfl (Sl.new_ _ _ _) (by intro u hu; simp at hu; rw [hu]; rfl) (by unfold maxLen; omega) (by omega) (by have := hB.size; simp; omega) ?_; intro A2 c2 w2 hown2 hg2 hb2)
            | fail)
          have hB2 := (since_alloc hB _).trans hb2
          go_roundw
          case rel => exact ⟨k + 1, (c + x + 0) / 2, A2, c2, out ++ [(c + x + 0) % 2], by go_num, intE (by simp), by simp, HK.out, by simp [H3.out], H2.out, by simpa [by8_append, by8] using hown2, hbin.snoc H1.out, HNEW.out, hB2⟩
          case measure => simp [intOf]; omega
      · have h2 : k < b.length := by omega
        have e1 := hxo h1
        subst e1
        clear hx hxg hxo hlt
        obtain ⟨b2, o2, rfl, hz2⟩ := hy h2
        have hb2 := World.block_lt_of_cell? _ _ hz2
        have e2 := hyg h2
        rw [← e2] at hz2
        clear hy hyg hyo e2
        go_wp2_with (first
          | (at_builtin; refine wpList_app rfl (.tmp 40) (.tmp 43) rfl EU rfl rfl (hown.alloc _) (m := 1) (news := [_]) rfl (Sl.new_ _ _ _) (by intro u hu; simp at hu; rw [hu]; rfl) (by unfold maxLen; omega) (by omega) (by have := hB.size; simp; omega) ?_; intro A2 c2 w2 hown2 hg2 hb2)
          | fail)
        have hB2 := (since_alloc hB _).trans hb2
        go_roundw
        case rel => exact ⟨k + 1, (c + 0 + y) / 2, A2, c2, out ++ [(c + 0 + y) % 2], by go_num, intE (by simp), by simp, HK.out, by simp [H3.out], H2.out, by simpa [by8_append, by8] using hown2, hbin.snoc H1.out, HNEW.out, hB2⟩
        case measure => simp [intOf]; omega
    · have h1 : ¬ k < a.length := by omega
      have h2 : ¬ k < b.length := by omega
      have hkm : k = max a.length b.length := by omega
      rw [List.take_of_length_le (by omega), List.take_of_length_le (by omega)] at hv
      have hout : out.length < 1000001 := by omega
      have H3 := Lib.hid hlen
      have HKM := Lib.hid hkm
      clear hkm hlen hlt hk
      rcases (show c = 0 ∨ c = 1 by omega) with rfl | rfl
      · have HV := Lib.hid hv
        clear hv
        go_wp2
        go_ret
        refine ⟨⟨A', c', out, rfl, ⟨own_cap' hown, Sl.of_own hown, hbin, Fr.own hown⟩, by have := HV.out; omega, .inl (by rw [H3.out, HKM.out])⟩, hB⟩
      · have HV := Lib.hid hv
        clear hv
        go_wp2_with (first
          | (at_builtin; refine wpList_app rfl (.tmp 49) (.tmp 51) rfl EU rfl rfl (hown.alloc _) (m := 1) (news := by8 [1]) rfl (Sl.new_ _ _ _) (by8_one _) (by unfold maxLen; omega) (by omega) (by have := hB.size; simp; omega) ?_; intro A2 c2 w2 hown2 hg2 hb2)
          | fail)
        have hB2 := (since_alloc hB _).trans hb2
        rw [← by8_append] at hown2
        have hl2 : out.length + 1 = (out ++ [1]).length := by simp
        rw [hl2] at hown2 ⊢
        go_ret
        have hvs : bval (out ++ [1]) = bval a + bval b := by
          rw [bval_snoc, H3.out]
          exact HV.out
        refine ⟨⟨A2, c2, out ++ [1], rfl, ⟨own_cap' hown2, Sl.of_own hown2, hbin.snoc (by omega), Fr.own hown2⟩, hvs, .inr ⟨by simp [H3.out, HKM.out], ?_⟩⟩, hB2⟩
        rw [bval_snoc, H3.out, HKM.out]
        omega
set_option maxRecDepth 100000 in
set_option maxHeartbeats 2000000 in
theorem bless_any (A B : Option Addr) (ca cb : Nat) (a b : List Nat) (w : World) (la : a.length ≤ 1000000) (lb : b.length ≤ 1000000) (ha : Norm a) (hb : Norm b) (hs : Sl w A (by8 a)) (ht : Sl w B (by8 b)) :
    Calls Try.prog 117 #[.slice A a.length ca, .slice B b.length cb] w fun e w' => e = .returned (.bool (decide (bval a < bval b))) ∧ Below w.heap.size w w' := by
  by_cases hl : a.length = b.length
  · go_enter Try.func117, Try.ntmps117
    rw [← hl]
    have HL := Lib.hid hl
    clear hl
    go_wp2
    go_loopw [5] (fun i wr => ∃ k : Nat, i = .int .i64 k ∧ k ≤ a.length ∧ a.drop k = b.drop k ∧ Below w.heap.size w wr) (fun i _ => (intOf i).toNat)
    case atStart => exact ⟨a.length, rfl, by omega, by rw [List.drop_of_length_le (by omega), List.drop_of_length_le (by have := HL.out; omega)], Below.refl _ _⟩
    case round =>
      obtain ⟨k, rfl, hk, hd, hB⟩ := hrel
      rcases Nat.eq_zero_or_pos k with h0 | hpos
      · subst h0
        have hab : a = b := by simpa using hd
        go_wp2
        go_ret
        exact ⟨retB (by rw [hab]; simp), hB⟩
      · obtain ⟨m, rfl⟩ : ∃ m, k = m + 1 := ⟨k - 1, by omega⟩
        have h1 : m < a.length := by omega
        have h2 : m < b.length := by have := HL.out; omega
        obtain ⟨b1, o1, rfl, hz1⟩ := (hs.below hB).byte h1
        obtain ⟨b2, o2, rfl, hz2⟩ := (ht.below hB).byte h2
        have hb1 := World.block_lt_of_cell? _ _ hz1
        have hb2 := World.block_lt_of_cell? _ _ hz2
        have hx := ha.1.at_ h1
        have hy := hb.1.at_ h2
        have ew : IntKind.i64.wrap (((m + 1 : Nat) : Int) - 1) = (m : Int) := by rw [IntWalk.i64_in _ (by omega)]; omega
        have ew2 : IntKind.i64.wrap ((m : Int) + 1 - 1) = (m : Int) := by rw [IntWalk.i64_in _ (by omega)]; omega
        have hd1 : a.drop m = a[m] :: a.drop (m + 1) := List.drop_eq_getElem_cons h1
        have hd2 : b.drop m = b[m] :: b.drop (m + 1) := List.drop_eq_getElem_cons h2
        have t1 := fun h => bval_top ha.1 hb.1 HL.out h1 h2 hd h
        have t2 := fun h => bval_top hb.1 ha.1 HL.out.symm h2 h1 hd.symm h
        have HD1 := Lib.hid hd1
        have HD2 := Lib.hid hd2
        have HD := Lib.hid hd
        clear hd1 hd2 hd
        generalize a[m] = x at *
        generalize b[m] = y at *
        rcases (show x = y ∨ (x = 0 ∧ y = 1) ∨ (x = 1 ∧ y = 0) by omega) with rfl | ⟨rfl, rfl⟩ | ⟨rfl, rfl⟩
        · go_wp2
          go_quiet (fail)
          go_wp2
          go_roundw
          case rel => exact ⟨m, (by first | rfl | go_num), by omega, by rw [HD1.out, HD2.out, HD.out], below_drewN hB _⟩
          case measure => simp [intOf] <;> omega
        · have ht := t1 (by omega)
          have HT := Lib.hid ht
          clear t1 t2 ht
          go_wp2
          go_quiet (fail)
          go_wp2
          go_quiet (fail)
          go_wp2
          go_ret
          exact ⟨retB (by simp [HT.out]), below_drewN (below_drewN hB _) _⟩
        · have ht := t2 (by omega)
          have HT := Lib.hid ht
          clear t1 t2 ht
          go_wp2
          go_quiet (fail)
          go_wp2
          go_quiet (fail)
          go_wp2
          go_ret
          exact ⟨retB (by have := HT.out; symm; simp; omega), below_drewN (below_drewN hB _) _⟩
  · have HL := fun x (h : decide (bval a < bval b) = x) => Lib.hid h
    go_enter Try.func117, Try.ntmps117
    rcases Nat.lt_or_ge a.length b.length with h | h
    · have H := HL _ (decide_eq_true (ha.lt_len hb h))
      clear HL
      go_wp2
      go_ret
      exact ⟨retB (by rw [H.out]), Below.refl _ _⟩
    · have h' : b.length < a.length := by omega
      have H := HL _ (decide_eq_false (by have := hb.lt_len ha h'; omega))
      clear HL
      go_wp2
      go_ret
      exact ⟨retB (by rw [H.out]; simp; omega), Below.refl _ _⟩
set_option maxRecDepth 100000 in
set_option maxHeartbeats 4000000 in
theorem bminus_any (A B : Option Addr) (ca cb : Nat) (a b : List Nat) (w : World) (la : a.length ≤ 1000000) (hlb : b.length ≤ a.length) (ha : Bin a) (hb : Bin b) (hle : bval b ≤ bval a) (hs : Sl w A (by8 a)) (ht : Sl w B (by8 b)) :
    Calls Try.prog 118 #[.slice A a.length ca, .slice B b.length cb] w fun e w' => (∃ A' c' out, e = .returned (.slice A' (List.length out) c') ∧ BRow w.heap.size w' A' c' out ∧ bval out = bval a - bval b ∧ out.length = a.length) ∧ Below w.heap.size w w' := by
  have HLE := Lib.hid hle
  clear hle
  go_enter Try.func118, Try.ntmps118
  go_wp2
  go_loopw [5, 6, 7] (fun v x i wr => ∃ (k c : Nat) (A' : Option Addr) (c' : Nat) (out : List Nat), i = .int .i64 k ∧ x = .int .u8 (c : Int) ∧ v = .slice A' out.length c' ∧ k ≤ a.length ∧ out.length = k ∧ c ≤ 1 ∧ wr.ownsRow w.heap.size 5 1 (.slice A' out.length c') out.length (by8 out) ∧ Bin out ∧ bval out + bval (b.take k) = bval (a.take k) + 2 ^ k * c ∧ Below w.heap.size w wr) (fun _ _ i _ => a.length - (intOf i).toNat)
  case atStart => exact ⟨0, 0, none, 0, [], rfl, rfl, rfl, by omega, rfl, by omega, own_nil _ _ _, Bin.nil, by simp [bval], Below.refl _ _⟩
  case round =>
    obtain ⟨k, c, A', c', out, rfl, rfl, rfl, hk, hlen, hc, hown, hbin, hv, hB⟩ := hrel
    by_cases h1 : k < a.length
    · have hka := bval_step a k
      have hkb := bval_step b k
      rw [getD_in h1] at hka
      have hx1 := ha.at_ h1
      have hy1 : b.getD k 0 ≤ 1 := by by_cases h : k < b.length; (rw [getD_in h]; exact hb.at_ h); (rw [getD_out h]; omega)
      obtain ⟨b1, o1, rfl, hz1⟩ := (hs.below hB).byte h1
      have hb1 := World.block_lt_of_cell? _ _ hz1
      have hy := fun h : k < b.length => (ht.below hB).byte h
      have hyg := fun h : k < b.length => getD_in h
      have hyo := fun h : ¬ k < b.length => getD_out (l := b) h
      generalize a[k] = x at *
      generalize b.getD k 0 = y at *
      have hnew : ∀ t r, t ≤ 1 → r ≤ 1 → r + c + y = x + 2 * t → bval (out ++ [r]) + bval (b.take (k + 1)) = bval (a.take (k + 1)) + 2 ^ (k + 1) * t := by
        intro t r _ _ e
        rw [hka, hkb, bval_snoc, hlen, Nat.pow_succ, Nat.mul_assoc]
        have := congrArg (2 ^ k * ·) e
        simp only [Nat.mul_add] at this
        omega
      have HNEW' := Lib.hid hnew
      have HK := Lib.hid (show k + 1 ≤ a.length by omega)
      have hk1 : k < 1000000 := by omega
      clear hnew hka hkb hv hk
      have H3 := Lib.hid hlen
      have hout : out.length < 1000000 := by omega
      clear hlen
      by_cases h2 : k < b.length
      · obtain ⟨b2, o2, rfl, hz2⟩ := hy h2
        have hb2 := World.block_lt_of_cell? _ _ hz2
        have e2 := hyg h2
        rw [← e2] at hz2
        clear hy hyg hyo e2
        rcases (show (c = 0 ∧ x = 0 ∧ y = 0) ∨ (c = 0 ∧ x = 0 ∧ y = 1) ∨ (c = 0 ∧ x = 1 ∧ y = 0) ∨ (c = 0 ∧ x = 1 ∧ y = 1) ∨ (c = 1 ∧ x = 0 ∧ y = 0) ∨ (c = 1 ∧ x = 0 ∧ y = 1) ∨ (c = 1 ∧ x = 1 ∧ y = 0) ∨ (c = 1 ∧ x = 1 ∧ y = 1) by omega) with ⟨rfl, rfl, rfl⟩ | ⟨rfl, rfl, rfl⟩ | ⟨rfl, rfl, rfl⟩ | ⟨rfl, rfl, rfl⟩ | ⟨rfl, rfl, rfl⟩ | ⟨rfl, rfl, rfl⟩ | ⟨rfl, rfl, rfl⟩ | ⟨rfl, rfl, rfl⟩
        · have HNEW := Lib.hid (HNEW'.out 0 0 (by omega) (by omega) (by omega))
          go_wp2_with (first
            | (at_builtin; refine wpList_app rfl (.tmp 36) (.tmp 39) rfl EU rfl rfl (hown.alloc _) (m := 1) (news := [_]) rfl (Sl.new_ _ _ _) (by intro u hu; simp at hu; rw [hu]; rfl) (by unfold maxLen; omega) (by omega) (by have := hB.size; simp; omega) ?_; intro A2 c2 w2 hown2 hg2 hb2)
            | fail)
          have hB2 := (since_alloc hB _).trans hb2
          go_roundw
          case rel => exact ⟨k + 1, 0, A2, c2, out ++ [0], by go_num, rfl, by simp, HK.out, by simp [H3.out], by omega, by simpa [by8_append, by8] using hown2, hbin.snoc (by omega), HNEW.out, hB2⟩
          case measure => simp [intOf]; omega
        · have HNEW := Lib.hid (HNEW'.out 1 1 (by omega) (by omega) (by omega))
          go_wp2_with (first
            | (at_builtin; refine wpList_app rfl (.tmp 36) (.tmp 39) rfl EU rfl rfl (hown.alloc _) (m := 1) (news := [_]) rfl (Sl.new_ _ _ _) (by intro u hu; simp at hu; rw [hu]; rfl) (by unfold maxLen; omega) (by omega) (by have := hB.size; simp; omega) ?_; intro A2 c2 w2 hown2 hg2 hb2)
            | fail)
          have hB2 := (since_alloc hB _).trans hb2
          go_roundw
          case rel => exact ⟨k + 1, 1, A2, c2, out ++ [1], by go_num, rfl, by simp, HK.out, by simp [H3.out], by omega, by simpa [by8_append, by8] using hown2, hbin.snoc (by omega), HNEW.out, hB2⟩
          case measure => simp [intOf]; omega
        · have HNEW := Lib.hid (HNEW'.out 0 1 (by omega) (by omega) (by omega))
          go_wp2_with (first
            | (at_builtin; refine wpList_app rfl (.tmp 36) (.tmp 39) rfl EU rfl rfl (hown.alloc _) (m := 1) (news := [_]) rfl (Sl.new_ _ _ _) (by intro u hu; simp at hu; rw [hu]; rfl) (by unfold maxLen; omega) (by omega) (by have := hB.size; simp; omega) ?_; intro A2 c2 w2 hown2 hg2 hb2)
            | fail)
          have hB2 := (since_alloc hB _).trans hb2
          go_roundw
          case rel => exact ⟨k + 1, 0, A2, c2, out ++ [1], by go_num, rfl, by simp, HK.out, by simp [H3.out], by omega, by simpa [by8_append, by8] using hown2, hbin.snoc (by omega), HNEW.out, hB2⟩
          case measure => simp [intOf]; omega
        · have HNEW := Lib.hid (HNEW'.out 0 0 (by omega) (by omega) (by omega))
          go_wp2_with (first
            | (at_builtin; refine wpList_app rfl (.tmp 36) (.tmp 39) rfl EU rfl rfl (hown.alloc _) (m := 1) (news := [_]) rfl (Sl.new_ _ _ _) (by intro u hu; simp at hu; rw [hu]; rfl) (by unfold maxLen; omega) (by omega) (by have := hB.size; simp; omega) ?_; intro A2 c2 w2 hown2 hg2 hb2)
            | fail)
          have hB2 := (since_alloc hB _).trans hb2
          go_roundw
          case rel => exact ⟨k + 1, 0, A2, c2, out ++ [0], by go_num, rfl, by simp, HK.out, by simp [H3.out], by omega, by simpa [by8_append, by8] using hown2, hbin.snoc (by omega), HNEW.out, hB2⟩
          case measure => simp [intOf]; omega
        · have HNEW := Lib.hid (HNEW'.out 1 1 (by omega) (by omega) (by omega))
          go_wp2_with (first
            | (at_builtin; refine wpList_app rfl (.tmp 36) (.tmp 39) rfl EU rfl rfl (hown.alloc _) (m := 1) (news := [_]) rfl (Sl.new_ _ _ _) (by intro u hu; simp at hu; rw [hu]; rfl) (by unfold maxLen; omega) (by omega) (by have := hB.size; simp; omega) ?_; intro A2 c2 w2 hown2 hg2 hb2)
            | fail)
          have hB2 := (since_alloc hB _).trans hb2
          go_roundw
          case rel => exact ⟨k + 1, 1, A2, c2, out ++ [1], by go_num, rfl, by simp, HK.out, by simp [H3.out], by omega, by simpa [by8_append, by8] using hown2, hbin.snoc (by omega), HNEW.out, hB2⟩
          case measure => simp [intOf]; omega
        · have HNEW := Lib.hid (HNEW'.out 1 0 (by omega) (by omega) (by omega))
          go_wp2_with (first
            | (at_builtin; refine wpList_app rfl (.tmp 36) (.tmp 39) rfl EU rfl rfl (hown.alloc _) (m := 1) (news := [_]) rfl (Sl.new_ _ _ _) (by intro u hu; simp at hu; rw [hu]; rfl) (by unfold maxLen; omega) (by omega) (by have := hB.size; simp; omega) ?_; intro A2 c2 w2 hown2 hg2 hb2)
            | fail)
          have hB2 := (since_alloc hB _).trans hb2
          go_roundw
          case rel => exact ⟨k + 1, 1, A2, c2, out ++ [0], by go_num, rfl, by simp, HK.out, by simp [H3.out], by omega, by simpa [by8_append, by8] using hown2, hbin.snoc (by omega), HNEW.out, hB2⟩
          case measure => simp [intOf]; omega
        · have HNEW := Lib.hid (HNEW'.out 0 0 (by omega) (by omega) (by omega))
          go_wp2_with (first
            | (at_builtin; refine wpList_app rfl (.tmp 36) (.tmp 39) rfl EU rfl rfl (hown.alloc _) (m := 1) (news := [_]) rfl (Sl.new_ _ _ _) (by intro u hu; simp at hu; rw [hu]; rfl) (by unfold maxLen; omega) (by omega) (by have := hB.size; simp; omega) ?_; intro A2 c2 w2 hown2 hg2 hb2)
            | fail)
          have hB2 := (since_alloc hB _).trans hb2
          go_roundw
          case rel => exact ⟨k + 1, 0, A2, c2, out ++ [0], by go_num, rfl, by simp, HK.out, by simp [H3.out], by omega, by simpa [by8_append, by8] using hown2, hbin.snoc (by omega), HNEW.out, hB2⟩
          case measure => simp [intOf]; omega
        · have HNEW := Lib.hid (HNEW'.out 1 1 (by omega) (by omega) (by omega))
          go_wp2_with (first
            | (at_builtin; refine wpList_app rfl (.tmp 36) (.tmp 39) rfl EU rfl rfl (hown.alloc _) (m := 1) (news := [_]) rfl (Sl.new_ _ _ _) (by intro u hu; simp at hu; rw [hu]; rfl) (by unfold maxLen; omega) (by omega) (by have := hB.size; simp; omega) ?_; intro A2 c2 w2 hown2 hg2 hb2)
            | fail)
          have hB2 := (since_alloc hB _).trans hb2
          go_roundw
          case rel => exact ⟨k + 1, 1, A2, c2, out ++ [1], by go_num, rfl, by simp, HK.out, by simp [H3.out], by omega, by simpa [by8_append, by8] using hown2, hbin.snoc (by omega), HNEW.out, hB2⟩
          case measure => simp [intOf]; omega
      · have e2 := hyo h2
        subst e2
        clear hy hyg hyo
        rcases (show (c = 0 ∧ x = 0) ∨ (c = 0 ∧ x = 1) ∨ (c = 1 ∧ x = 0) ∨ (c = 1 ∧ x = 1) by omega) with ⟨rfl, rfl⟩ | ⟨rfl, rfl⟩ | ⟨rfl, rfl⟩ | ⟨rfl, rfl⟩
        · have HNEW := Lib.hid (HNEW'.out 0 0 (by omega) (by omega) (by omega))
          go_wp2_with (first
            | (at_builtin; refine wpList_app rfl (.tmp 36) (.tmp 39) rfl EU rfl rfl (hown.alloc _) (m := 1) (news := [_]) rfl (Sl.new_ _ _ _) (by intro u hu; simp at hu; rw [hu]; rfl) (by unfold maxLen; omega) (by omega) (by have := hB.size; simp; omega) ?_; intro A2 c2 w2 hown2 hg2 hb2)
            | fail)
          have hB2 := (since_alloc hB _).trans hb2
          go_roundw
          case rel => exact ⟨k + 1, 0, A2, c2, out ++ [0], by go_num, rfl, by simp, HK.out, by simp [H3.out], by omega, by simpa [by8_append, by8] using hown2, hbin.snoc (by omega), HNEW.out, hB2⟩
          case measure => simp [intOf]; omega
        · have HNEW := Lib.hid (HNEW'.out 0 1 (by omega) (by omega) (by omega))
          go_wp2_with (first
            | (at_builtin; refine wpList_app rfl (.tmp 36) (.tmp 39) rfl EU rfl rfl (hown.alloc _) (m := 1) (news := [_]) rfl (Sl.new_ _ _ _) (by intro u hu; simp at hu; rw [hu]; rfl) (by unfold maxLen; omega) (by omega) (by have := hB.size; simp; omega) ?_; intro A2 c2 w2 hown2 hg2 hb2)
            | fail)
          have hB2 := (since_alloc hB _).trans hb2
          go_roundw
          case rel => exact ⟨k + 1, 0, A2, c2, out ++ [1], by go_num, rfl, by simp, HK.out, by simp [H3.out], by omega, by simpa [by8_append, by8] using hown2, hbin.snoc (by omega), HNEW.out, hB2⟩
          case measure => simp [intOf]; omega
        · have HNEW := Lib.hid (HNEW'.out 1 1 (by omega) (by omega) (by omega))
          go_wp2_with (first
            | (at_builtin; refine wpList_app rfl (.tmp 36) (.tmp 39) rfl EU rfl rfl (hown.alloc _) (m := 1) (news := [_]) rfl (Sl.new_ _ _ _) (by intro u hu; simp at hu; rw [hu]; rfl) (by unfold maxLen; omega) (by omega) (by have := hB.size; simp; omega) ?_; intro A2 c2 w2 hown2 hg2 hb2)
            | fail)
          have hB2 := (since_alloc hB _).trans hb2
          go_roundw
          case rel => exact ⟨k + 1, 1, A2, c2, out ++ [1], by go_num, rfl, by simp, HK.out, by simp [H3.out], by omega, by simpa [by8_append, by8] using hown2, hbin.snoc (by omega), HNEW.out, hB2⟩
          case measure => simp [intOf]; omega
        · have HNEW := Lib.hid (HNEW'.out 0 0 (by omega) (by omega) (by omega))
          go_wp2_with (first
            | (at_builtin; refine wpList_app rfl (.tmp 36) (.tmp 39) rfl EU rfl rfl (hown.alloc _) (m := 1) (news := [_]) rfl (Sl.new_ _ _ _) (by intro u hu; simp at hu; rw [hu]; rfl) (by unfold maxLen; omega) (by omega) (by have := hB.size; simp; omega) ?_; intro A2 c2 w2 hown2 hg2 hb2)
            | fail)
          have hB2 := (since_alloc hB _).trans hb2
          go_roundw
          case rel => exact ⟨k + 1, 0, A2, c2, out ++ [0], by go_num, rfl, by simp, HK.out, by simp [H3.out], by omega, by simpa [by8_append, by8] using hown2, hbin.snoc (by omega), HNEW.out, hB2⟩
          case measure => simp [intOf]; omega
    · have hkm : k = a.length := by omega
      have hz : c = 0 := by
        rw [List.take_of_length_le (by omega), List.take_of_length_le (by omega), hkm] at hv
        have h2 := bval_lt hbin
        rw [hlen, hkm] at h2
        have h3 := HLE.out
        rcases (show c = 0 ∨ c = 1 by omega) with rfl | rfl
        · rfl
        · omega
      subst hz
      rw [List.take_of_length_le (by omega), List.take_of_length_le (by omega)] at hv
      have HV := Lib.hid hv
      have HL := Lib.hid hlen
      have HK := Lib.hid hkm
      clear hv hlen hkm
      go_wp2
      go_ret
      exact ⟨⟨A', c', out, rfl, ⟨own_cap' hown, Sl.of_own hown, hbin, Fr.own hown⟩, by have := HV.out; omega, by rw [HL.out, HK.out]⟩, hB⟩
end Go.Proofs.Ytldnponbkhgijaa
end
section
namespace Go.Proofs.Ytldnponbkhgijaa
open Go.ChangeShapes Go.WideShapes Go.ChangeAt Go.RowKit
set_option linter.unusedVariables false
set_option linter.unusedSimpArgs false

def BB (w : World) (g : Nat) (s : Bool) (A : Option Addr) (n c : Nat) : Prop := g < w.heap.size ∧ w.cell? ⟨g, 0, none⟩ = some (.bool s) ∧ w.cell? ⟨g, 1, none⟩ = some (.slice A n c) ∧ w.frozen? ⟨g, 0, none⟩ = false ∧ w.frozen? ⟨g, 1, none⟩ = false
section
variable {w w' : World} {g : Nat} {s : Bool} {A : Option Addr} {n c : Nat}
theorem BB.new (w : World) (s : Bool) (A : Option Addr) (n c : Nat) (t : TypeId) : BB (w.alloc (.cells #[.bool s, .slice A n c] t)) w.heap.size s A n c := by
  refine ⟨by simp, ?_, ?_, ?_, ?_⟩ <;> simp
theorem BB.below (h : BB w g s A n c) (hb : Below w.heap.size w w') : BB w' g s A n c := by
  obtain ⟨h0, h1, h2, f1, f2⟩ := h
  exact ⟨Nat.lt_of_lt_of_le h0 hb.size, (hb.cell (p := ⟨g, 0, none⟩) h0).trans h1, (hb.cell (p := ⟨g, 1, none⟩) h0).trans h2, (hb.frozen (p := ⟨g, 0, none⟩) h0).trans f1, (hb.frozen (p := ⟨g, 1, none⟩) h0).trans f2⟩
theorem BB.alloc (h : BB w g s A n c) (o : Obj) : BB (w.alloc o) g s A n c := h.below ((Below.refl _ _).alloc (Nat.le_refl _) o)
theorem BB.drew (h : BB w g s A n c) : BB w.drew g s A n c := h
end
theorem BigAt.lt {w : World} {neg : Bool} {A : Option Addr} {n c : Nat} {z : Int} (h : BigAt w neg A n c z) : ∀ b o, A = some ⟨b, o, none⟩ → 0 < n → b < w.heap.size := by
  intro b o hA hn
  obtain ⟨bits, h1, h2, h3, h4, _⟩ := h.ex
  obtain ⟨b', o', e, hc⟩ := h4.byte (j := 0) (by omega)
  rw [hA] at e
  injection e with e
  injection e with e1 e2
  subst e1
  exact World.block_lt_of_cell? _ _ hc
theorem add_same {s : Bool} {x y : Int} {p q v : Nat} (hx : x = if s = true then -(p : Int) else (p : Int)) (hy : y = if s = true then -(q : Int) else (q : Int)) (hv : v = p + q) : x + y = if s = true then -(v : Int) else (v : Int) := by
  subst hx; subst hy; subst hv; cases s <;> simp <;> omega
theorem add_lt {s t : Bool} {x y : Int} {p q v : Nat} (h : (s == t) = false) (hx : x = if s = true then -(p : Int) else (p : Int)) (hy : y = if t = true then -(q : Int) else (q : Int)) (hl : p < q) (hv : v = q - p) : x + y = if t = true then -(v : Int) else (v : Int) := by
  subst hx; subst hy; subst hv
  cases s <;> cases t <;> simp at h ⊢ <;> omega
theorem add_ge {s t : Bool} {x y : Int} {p q v : Nat} (h : (s == t) = false) (hx : x = if s = true then -(p : Int) else (p : Int)) (hy : y = if t = true then -(q : Int) else (q : Int)) (hl : ¬ p < q) (hv : v = p - q) : x + y = if s = true then -(v : Int) else (v : Int) := by
  subst hx; subst hy; subst hv
  cases s <;> cases t <;> simp at h ⊢ <;> omega
set_option maxHeartbeats 1000000 in
theorem bneg_any (x : Int) (A : Option Addr) (n c : Nat) (w : World) (hn : n ≤ 1000000) (hx : BigAt w (decide (x < 0)) A n c x) :
    Calls Try.prog 144 #[.agg #[.bool (decide (x < 0)), .slice A n c]] w fun e w' => (∃ n' c', e = .returned (.agg #[.bool (decide (-x < 0)), .slice A n' c']) ∧ n' ≤ n ∧ BigAt w' (decide (-x < 0)) A n' c' (-x)) ∧ Below w.heap.size w w' := by
  have hlt := hx.lt
  obtain ⟨bits, h1, h2, h3, h4, h5, h6, h7⟩ := hx.ex
  generalize hX : decide (x < 0) = sx at *
  clear hX hx h6
  subst h1
  have hz : -x = if (!sx) = true then -(bval bits : Int) else (bval bits : Int) := by rw [h7]; cases sx <;> simp
  have HZ := Lib.hid hz
  clear hz h7
  have P2 : BB ((w.alloc (.cells #[.bool sx, .slice A bits.length c] 35)).alloc (.cells #[.bool false, .slice none 0 0] 35)) (w.heap.size + 1) false none 0 0 := by
    have := BB.new (w.alloc (.cells #[.bool sx, .slice A bits.length c] 35)) false none 0 0 35
    rwa [World.size_alloc] at this
  have hcs := @cell_set
  go_enter Try.func144, Try.ntmps144
  go_wp2_with fail
  refine (trim_any (!sx) A c bits (-x) HZ.out _ hn ⟨h2, h3⟩ h5.1 ((h4.alloc _).alloc _)).mono ?_
  rintro e w1 ⟨⟨n', c', rfl, hn', hbig⟩, hb1⟩
  have hB1 := since_step (since_alloc (since_alloc (Below.refl _ w) _) _) hb1
  obtain ⟨q0, q1, q2, q3, q4⟩ := P2.below hb1
  clear hb1 P2
  generalize hs2 : decide (-x < 0) = s2 at *
  have HS2 := Lib.hid hs2
  clear hs2
  go_wp2
  refine bodyPost_ret (v := .agg #[.bool s2, .slice A n' c']) ?_ rfl ?_
  · simp [results, Try.results144, go_sem, cell_set, q1, q2]
  · rw [HS2.out]
    refine ⟨⟨n', c', rfl, hn', ?_⟩, ?_⟩
    · exact (hbig.far (fun b o hA h0 => by have := hlt b o hA (by omega); simp; omega) _).far (fun b o hA h0 => by have := hlt b o hA (by omega); simp; omega) _
    · repeat' (first | with_reducible exact hB1 | with_reducible refine Below.setCell ?_ ?_ _)
      all_goals first | (simp; done) | (simp; omega)
set_option maxHeartbeats 20000000 in
theorem badd_any (x y : Int) (A B : Option Addr) (na ca nb cb : Nat) (w : World) (la : na ≤ 100000) (lb : nb ≤ 100000) (hx : BigAt w (decide (x < 0)) A na ca x) (hy : BigAt w (decide (y < 0)) B nb cb y) :
    Calls Try.prog 52 #[.agg #[.bool (decide (x < 0)), .slice A na ca], .agg #[.bool (decide (y < 0)), .slice B nb cb]] w fun e w' => (∃ A' n' c', e = .returned (.agg #[.bool (decide (x + y < 0)), .slice A' n' c']) ∧ Fr w.heap.size A' n' ∧ BigAt w' (decide (x + y < 0)) A' n' c' (x + y)) ∧ Below w.heap.size w w' := by
  obtain ⟨a, h1, h2, h3, h4, h5, h6, h7⟩ := hx.ex
  obtain ⟨b, k1, k2, k3, k4, k5, k6, k7⟩ := hy.ex
  generalize decide (x < 0) = sx at *
  generalize decide (y < 0) = sy at *
  clear hx hy h6 k6
  have P1 : BB (((w.alloc (.cells #[.bool sx, .slice A na ca] 35)).alloc (.cells #[.bool sy, .slice B nb cb] 35)).alloc (.cells #[.bool false, .slice none 0 0] 35)) w.heap.size sx A na ca := ((BB.new _ _ _ _ _ _).alloc _).alloc _
  have P2 : BB (((w.alloc (.cells #[.bool sx, .slice A na ca] 35)).alloc (.cells #[.bool sy, .slice B nb cb] 35)).alloc (.cells #[.bool false, .slice none 0 0] 35)) (w.heap.size + 1) sy B nb cb := by
    have := (BB.new (w.alloc (.cells #[.bool sx, .slice A na ca] 35)) sy B nb cb 35).alloc (.cells #[.bool false, .slice none 0 0] 35)
    rwa [World.size_alloc] at this
  have P3 : BB (((w.alloc (.cells #[.bool sx, .slice A na ca] 35)).alloc (.cells #[.bool sy, .slice B nb cb] 35)).alloc (.cells #[.bool false, .slice none 0 0] 35)) (w.heap.size + 1 + 1) false none 0 0 := by
    have := BB.new ((w.alloc (.cells #[.bool sx, .slice A na ca] 35)).alloc (.cells #[.bool sy, .slice B nb cb] 35)) false none 0 0 35
    rwa [World.size_alloc, World.size_alloc] at this
  have hB0 : Below w.heap.size w (((w.alloc (.cells #[.bool sx, .slice A na ca] 35)).alloc (.cells #[.bool sy, .slice B nb cb] 35)).alloc (.cells #[.bool false, .slice none 0 0] 35)) := since_alloc (since_alloc (since_alloc (Below.refl _ w) _) _) _
  have S1 := h4.below hB0
  have S2 := k4.below hB0
  have hcs := @cell_set
  have hlt1 := P3.1
  subst h1; subst k1
  have H7 := Lib.hid h7
  have K7 := Lib.hid k7
  clear h7 k7
  go_enter Try.func52, Try.ntmps52
  by_cases hss : sx = sy
  · subst hss
    have hsb : (sx == sx) = true := by simp
    have HLT := Lib.hid (show True from trivial)
    go_wp2
    generalize (((w.alloc (.cells #[.bool sx, .slice A a.length ca] 35)).alloc (.cells #[.bool sx, .slice B b.length cb] 35)).alloc (.cells #[.bool false, .slice none 0 0] 35)) = W0 at *
    obtain ⟨p10, p11, p12, p13, p14⟩ := _root_.id P1
    obtain ⟨p20, p21, p22, p23, p24⟩ := _root_.id P2
    go_region_with (first
      | (go_at_call 116; refine (bplus_any A B ca cb a b W0.drew (by omega) (by omega) h5.1 k5.1 S1.drew S2.drew).mono ?_; rintro e w1 ⟨⟨A1, c1, out, rfl, ⟨hcap, hs1, hbin, hfr⟩, hv, hlen⟩, hb1⟩; obtain ⟨r0, r1, r2, r3, r4⟩ := P1.drew.below hb1; have Q3 := P3.drew.below hb1; have hB1 := since_step hB0.drew hb1; have HV := Lib.hid hv; have HLN := Lib.hid hlen; clear hb1 hv hlen)
      | (go_at_call 115; refine (trim_any sx A1 c1 out (x + y) (add_same H7.out K7.out HV.out) _ (by have := HLN.out; omega) hcap hbin hs1).mono ?_; rintro e w2 ⟨⟨n2, c2, rfl, hn2, hbig⟩, hb2⟩; obtain ⟨q0, q1, q2, q3, q4⟩ := Q3.below hb2; have hB2 := since_step hB1 hb2; clear hb2; generalize hs2 : decide (x + y < 0) = s2 at *; have HS2 := Lib.hid hs2; clear hs2))
    all_goals
      go_wp2
      refine bodyPost_ret (v := .agg #[.bool s2, .slice A1 n2 c2]) ?_ rfl ?_
      · simp [results, Try.results52, go_sem, cell_set, q1, q2]
      · rw [HS2.out]
        refine ⟨⟨A1, n2, c2, rfl, hfr.le hB0.size hn2, ?_⟩, ?_⟩
        · exact (hbig.far (fun b o hA h0 => by have := hfr b o hA (by omega); simp only [World.size_drew] at this; simp; omega) _).far (fun b o hA h0 => by have := hfr b o hA (by omega); simp only [World.size_drew] at this; simp; omega) _
        · repeat' (first | with_reducible exact hB2 | with_reducible refine Below.setCell ?_ ?_ _)
          all_goals first | (simp; done) | (simp; omega)
  · have hsb : (sx == sy) = false := by simpa using hss
    have HSB := Lib.hid hsb
    clear hss
    go_wp2_with fail
    generalize (((w.alloc (.cells #[.bool sx, .slice A a.length ca] 35)).alloc (.cells #[.bool sy, .slice B b.length cb] 35)).alloc (.cells #[.bool false, .slice none 0 0] 35)) = W0 at *
    obtain ⟨p10, p11, p12, p13, p14⟩ := _root_.id P1
    obtain ⟨p20, p21, p22, p23, p24⟩ := _root_.id P2
    refine (bless_any A B ca cb a b _ (by omega) (by omega) h5 k5 S1 S2).mono ?_
    rintro e wl ⟨rfl, hbl⟩
    have P1 := P1.below hbl
    have P2 := P2.below hbl
    have P3 := P3.below hbl
    have S1 := S1.below hbl
    have S2 := S2.below hbl
    have hlt1 := P3.1
    have hB0 := since_step hB0 hbl
    clear hbl p10 p11 p12 p13 p14 p20 p21 p22 p23 p24
    obtain ⟨p10, p11, p12, p13, p14⟩ := _root_.id P1
    obtain ⟨p20, p21, p22, p23, p24⟩ := _root_.id P2
    by_cases hl : bval a < bval b
    · have HLT := Lib.hid hl
      have HLE := Lib.hid (Nat.le_of_lt hl)
      have HLEN := Lib.hid (show a.length ≤ b.length from Decidable.byContradiction fun h => by have := k5.lt_len h5 (by omega); omega)
      have hd : decide (bval a < bval b) = true := decide_eq_true hl
      rw [hd]
      clear hl hd
      go_wp2
      go_region_with (first
        | (go_at_call 118; refine (bminus_any B A cb ca b a wl.drew (by omega) HLEN.out k5.1 h5.1 HLE.out S2.drew S1.drew).mono ?_; rintro e w1 ⟨⟨A1, c1, out, rfl, ⟨hcap, hs1, hbin, hfr⟩, hv, hlen⟩, hb1⟩; obtain ⟨r0, r1, r2, r3, r4⟩ := P2.drew.below hb1; have Q3 := P3.drew.below hb1; have hB1 := since_step hB0.drew hb1; have HV := Lib.hid hv; have HLN := Lib.hid hlen; clear hb1 hv hlen)
        | (go_at_call 115; refine (trim_any sy A1 c1 out (x + y) (add_lt HSB.out H7.out K7.out HLT.out HV.out) _ (by have := HLN.out; omega) hcap hbin hs1).mono ?_; rintro e w2 ⟨⟨n2, c2, rfl, hn2, hbig⟩, hb2⟩; obtain ⟨q0, q1, q2, q3, q4⟩ := Q3.below hb2; have hB2 := since_step hB1 hb2; clear hb2; generalize hs2 : decide (x + y < 0) = s2 at *; have HS2 := Lib.hid hs2; clear hs2))
      all_goals
        go_wp2
        refine bodyPost_ret (v := .agg #[.bool s2, .slice A1 n2 c2]) ?_ rfl ?_
        · simp [results, Try.results52, go_sem, cell_set, q1, q2]
        · rw [HS2.out]
          refine ⟨⟨A1, n2, c2, rfl, hfr.le hB0.size hn2, ?_⟩, ?_⟩
          · exact (hbig.far (fun b o hA h0 => by have := hfr b o hA (by omega); simp only [World.size_drew] at this; simp; omega) _).far (fun b o hA h0 => by have := hfr b o hA (by omega); simp only [World.size_drew] at this; simp; omega) _
          · repeat' (first | with_reducible exact hB2 | with_reducible refine Below.setCell ?_ ?_ _)
            all_goals first | (simp; done) | (simp; omega)
    · have HLT := Lib.hid hl
      have HLE := Lib.hid (Nat.le_of_not_lt hl)
      have HLEN := Lib.hid (show b.length ≤ a.length from Decidable.byContradiction fun h => hl (h5.lt_len k5 (by omega)))
      have hd : decide (bval a < bval b) = false := decide_eq_false hl
      rw [hd]
      clear hl hd
      go_wp2
      go_region_with (first
        | (go_at_call 118; refine (bminus_any A B ca cb a b wl.drew (by omega) HLEN.out h5.1 k5.1 HLE.out S1.drew S2.drew).mono ?_; rintro e w1 ⟨⟨A1, c1, out, rfl, ⟨hcap, hs1, hbin, hfr⟩, hv, hlen⟩, hb1⟩; obtain ⟨r0, r1, r2, r3, r4⟩ := P1.drew.below hb1; have Q3 := P3.drew.below hb1; have hB1 := since_step hB0.drew hb1; have HV := Lib.hid hv; have HLN := Lib.hid hlen; clear hb1 hv hlen)
        | (go_at_call 115; refine (trim_any sx A1 c1 out (x + y) (add_ge HSB.out H7.out K7.out HLT.out HV.out) _ (by have := HLN.out; omega) hcap hbin hs1).mono ?_; rintro e w2 ⟨⟨n2, c2, rfl, hn2, hbig⟩, hb2⟩; obtain ⟨q0, q1, q2, q3, q4⟩ := Q3.below hb2; have hB2 := since_step hB1 hb2; clear hb2; generalize hs2 : decide (x + y < 0) = s2 at *; have HS2 := Lib.hid hs2; clear hs2))
      all_goals
        go_wp2
        refine bodyPost_ret (v := .agg #[.bool s2, .slice A1 n2 c2]) ?_ rfl ?_
        · simp [results, Try.results52, go_sem, cell_set, q1, q2]
        · rw [HS2.out]
          refine ⟨⟨A1, n2, c2, rfl, hfr.le hB0.size hn2, ?_⟩, ?_⟩
          · exact (hbig.far (fun b o hA h0 => by have := hfr b o hA (by omega); simp only [World.size_drew] at this; simp; omega) _).far (fun b o hA h0 => by have := hfr b o hA (by omega); simp only [World.size_drew] at this; simp; omega) _
          · repeat' (first | with_reducible exact hB2 | with_reducible refine Below.setCell ?_ ?_ _)
            all_goals first | (simp; done) | (simp; omega)
end Go.Proofs.Ytldnponbkhgijaa
end
section
namespace Go.Proofs.Ytldnponbkhgijaa
open Go.ChangeShapes Go.WideShapes Go.ChangeAt Go.RowKit
set_option linter.unusedVariables false
set_option linter.unusedSimpArgs false

def bigR (w w' : World) (e : Ending) (z : Int) : Prop := ∃ s A n c, e = .returned (.agg #[.bool s, .slice A n c]) ∧ Fr w.heap.size A n ∧ BigAt w' s A n c z
theorem bigR.of {w w' : World} {e : Ending} {z : Int} (h : ∃ A n c, e = .returned (.agg #[.bool (decide (z < 0)), .slice A n c]) ∧ Fr w.heap.size A n ∧ BigAt w' (decide (z < 0)) A n c z) : bigR w w' e z := ⟨_, h⟩
section
variable {w w1 w2 : World} {sx sy s : Bool} {A B C : Option Addr} {na nb n ca cb c : Nat} {x y z : Int}
theorem badd' (la : na ≤ 100000) (lb : nb ≤ 100000) (hx : BigAt w sx A na ca x) (hy : BigAt w sy B nb cb y) :
    Calls Try.prog 52 #[.agg #[.bool sx, .slice A na ca], .agg #[.bool sy, .slice B nb cb]] w fun e w' => bigR w w' e (x + y) ∧ Below w.heap.size w w' := by
  obtain rfl := hx.neg_iff
  obtain rfl := hy.neg_iff
  exact (badd_any x y A B na ca nb cb w la lb hx hy).mono fun e w' ⟨h, hb⟩ => ⟨bigR.of h, hb⟩
end

def cmpZ (x y : Int) : Int := if x = y then 0 else if x < y then -1 else 1
theorem norm_plus {a b out : List Nat} (ha : Norm a) (hb : Norm b) (ho : Bin out) (hv : bval out = bval a + bval b) (hl : out.length = max a.length b.length ∨ (out.length = max a.length b.length + 1 ∧ 2 ^ max a.length b.length ≤ bval out)) : Norm out := by
  rcases hl with hl | ⟨hl, hge⟩
  · rcases Nat.eq_zero_or_pos out.length with h0 | h0
    · rw [List.eq_nil_of_length_eq_zero h0]; exact Norm.nil
    · obtain ⟨k, hk⟩ : ∃ k, out.length = k + 1 := ⟨out.length - 1, by omega⟩
      refine norm_of_ge ho hk ?_
      rcases Nat.le_total a.length b.length with h | h
      · have := hb.ge (k := k) (by omega)
        omega
      · have := ha.ge (k := k) (by omega)
        omega
  · exact norm_of_ge ho hl hge
theorem big_field (s : Bool) (A : Option Addr) (n c : Nat) (W : World) : (Instr.field 35 (.agg #[.bool s, .slice A n c]) 1).run Try.prog W = .ok (.slice A n c) W := by kernel_rfl
set_option maxRecDepth 100000 in
set_option maxHeartbeats 4000000 in
theorem bof_any (x : Int) (w : World) (hx : -9223372036854775808 ≤ x ∧ x ≤ 9223372036854775807) :
    Calls Try.prog 53 #[.int .i64 x] w fun e w' => bigR w w' e x ∧ Below w.heap.size w w' := by
  have P0 := BB.new w false none 0 0 35
  have hB0 : Below w.heap.size w (w.alloc (.cells #[.bool false, .slice none 0 0] 35)) := since_alloc (Below.refl _ w) _
  have hcs := @cell_set
  by_cases h0 : 0 ≤ x
  · obtain ⟨u, rfl⟩ := Int.eq_ofNat_of_zero_le h0
    have ew : IntKind.u64.wrap (u : Int) = (u : Int) := by rw [IntKind.wrap_u64]; omega
    go_enter Try.func53, Try.ntmps53
    go_wp2_with fail
    refine (nat_any u _ (by omega)).mono ?_
    rintro e w1 ⟨⟨A1, n1, c1, rfl, hfr, hbig⟩, hb1⟩
    obtain ⟨q0, q1, q2, q3, q4⟩ := P0.below hb1
    have hB1 := since_step hB0 hb1
    clear hb1 P0
    go_wp2
    refine bodyPost_ret (v := .agg #[.bool false, .slice A1 n1 c1]) ?_ rfl ?_
    · simp [results, Try.results53, go_sem, cell_set, q1, q2]
    · refine ⟨⟨false, A1, n1, c1, rfl, hfr.le hB0.size (Nat.le_refl _), ?_⟩, ?_⟩
      · exact (hbig.far (fun b o hA h0 => by have := hfr b o hA h0; simp at this ⊢; omega) _).far (fun b o hA h0 => by have := hfr b o hA h0; simp at this ⊢; omega) _
      · repeat' (first | with_reducible exact hB1 | with_reducible refine Below.setCell ?_ ?_ _)
        all_goals first | (simp; done) | (simp; omega)
  · obtain ⟨u, rfl⟩ : ∃ u : Nat, x = -((u : Int) + 1) := ⟨(-x - 1).toNat, by omega⟩
    have hu : u < 9223372036854775808 := by omega
    have ew : IntKind.u64.wrap (u : Int) = (u : Int) := by rw [IntKind.wrap_u64]; omega
    clear hx
    have hfd := big_field
    go_enter Try.func53, Try.ntmps53
    go_wp2_with fail
    rw [show -(-((u : Int) + 1) + 1) = (u : Int) from by omega]
    refine (nat_any u _ (by omega)).mono ?_
    rintro e w1 ⟨⟨A1, n1, c1, rfl, hfr, hbig⟩, hb1⟩
    have Q0 := P0.below hb1
    have hB1 := since_step hB0 hb1
    have hn1 : n1 ≤ 64 := (hbig.len (k := 64)).2 (by simp; omega)
    obtain ⟨bits, h1, h2, h3, h4, h5, h6, h7⟩ := hbig.ex
    have hv1 : (u : Int) = bval bits := by simpa using h7
    have HV1 := Lib.hid hv1
    subst h1
    clear hb1 P0 hv1 h7 h6 hbig
    go_wp2_with fail
    have norm1 : Norm [1] := ⟨fun b hb => by simp at hb; omega, fun k hk hl => by simp at hk; subst hk; rfl⟩
    refine (bplus_any A1 (some ⟨w1.heap.size, 0, none⟩) c1 1 bits [1] _ (by omega) (by simp) h5.1 norm1.1 (h4.alloc _) (Sl.new_ _ _ _)).mono ?_
    rintro e w2 ⟨⟨A2, c2, out, rfl, ⟨hcap, hs2, hbin, hfr2⟩, hv, hlen⟩, hb2⟩
    have hN := norm_plus h5 norm1 hbin hv hlen
    have hv2 : bval out = bval bits + 1 := by rw [hv]; rfl
    have HV2 := Lib.hid hv2
    obtain ⟨q0, q1, q2, q3, q4⟩ := (Q0.alloc (.cells #[.int .u8 1] 5)).below hb2
    have hB2 := since_step (since_alloc hB1 _) hb2
    have hz1 := Q0.1
    have HL := Lib.hid hlen
    clear hb2 hv hv2 hlen Q0
    go_wp2
    refine bodyPost_ret (v := .agg #[.bool true, .slice A2 out.length c2]) ?_ rfl ?_
    · simp [results, Try.results53, go_sem, cell_set, q1, q2]
    · have hbig : BigAt w2 true A2 out.length c2 (-((u : Int) + 1)) := ⟨out, rfl, hcap.1, hcap.2, hs2, hN, fun _ e => by subst e; have := HV2.out; simp [bval] at this, by have := HV1.out; have := HV2.out; simp; omega⟩
      have hfr3 : Fr w.heap.size A2 out.length := hfr2.le (by have := hB1.size; simp; omega) (Nat.le_refl _)
      have hne : ∀ b o, A2 = some ⟨b, o, none⟩ → 0 < out.length → b ≠ w.heap.size := fun b o hA h0 => by have := hfr2 b o hA h0; simp at this; omega
      refine ⟨⟨true, A2, out.length, c2, rfl, hfr3, ?_⟩, ?_⟩
      · exact (hbig.far (fun b o hA h0 => by have := hne b o hA h0; simpa using this) _).far (fun b o hA h0 => by have := hne b o hA h0; simpa using this) _
      · repeat' (first | with_reducible exact hB2 | with_reducible refine Below.setCell ?_ ?_ _)
        all_goals first | (simp; done) | (simp; omega)
def inN (x : Int) (m : Nat) : Prop := (if x < 0 then (x + 1).natAbs else x.natAbs) < 2 ^ m
instance (x : Int) (m : Nat) : Decidable (inN x m) := by unfold inN; infer_instance
theorem inN_63 (x : Int) : inN x 63 ↔ (-9223372036854775808 ≤ x ∧ x ≤ 9223372036854775807) := by
  unfold inN
  rw [show (2 : Nat) ^ 63 = 9223372036854775808 from by decide]
  split <;> omega
set_option maxRecDepth 100000 in
set_option maxHeartbeats 8000000 in
theorem bwithin_any (x : Int) (m : Nat) (K : Int) (hK : K = m + 1) (hm : m ≤ 100000) (s : Bool) (A : Option Addr) (n c : Nat) (w : World) (la : n ≤ 100000) (hx : BigAt w s A n c x) :
    Calls Try.prog 119 #[.agg #[.bool s, .slice A n c], .int .i64 K] w fun e w' => e = .returned (.bool (decide (inN x m))) ∧ Below w.heap.size w w' := by
  have P0 := BB.new w s A n c 35
  have hB0 : Below w.heap.size w (w.alloc (.cells #[.bool s, .slice A n c] 35)) := since_alloc (Below.refl _ w) _
  have X0 := hx.below hB0
  have hs := hx.neg_iff
  have hln := hx.len (k := m)
  have hcs := @cell_set
  clear hx
  cases s with
  | false =>
    have hv : inN x m ↔ n ≤ m := by
      have : ¬ x < 0 := by simpa using hs.symm
      unfold inN
      rw [if_neg this, hln]
    have HV := Lib.hid hv
    have HK := Lib.hid hK
    clear hv hK hln hs
    go_enter Try.func119, Try.ntmps119
    go_wp2
    go_ret
    exact ⟨retB (by have := HK.out; by_cases h : inN x m; (rw [decide_eq_true h, decide_eq_true]; have := HV.out.1 h; omega); (rw [decide_eq_false h, decide_eq_false]; have : ¬ n ≤ m := fun g => h (HV.out.2 g); omega)), hB0⟩
  | true =>
    have hx0 : x < 0 := by simpa using hs.symm
    have HX := Lib.hid hx0
    have HK := Lib.hid hK
    clear hK hln hs hx0
    go_enter Try.func119, Try.ntmps119
    go_wp2
    generalize w.alloc (.cells #[.bool true, .slice A n c] 35) = W0 at *
    obtain ⟨p0, p1, p2, p3, p4⟩ := _root_.id P0
    go_region_with (first
      | (go_at_call 85; refine (nat_any 1 W0.drew (by decide)).mono ?_; rintro e w1 ⟨⟨A1, n1, c1, rfl, hfr1, hbig1⟩, hb1⟩; have Q0 := P0.drew.below hb1; obtain ⟨r0, r1, r2, r3, r4⟩ := _root_.id Q0; have X1 := X0.drew.below hb1; have hB1 := since_step hB0.drew hb1; have hn1 : n1 ≤ 64 := (hbig1.len (k := 64)).2 (by decide); clear hb1)
      | (go_at_call 52; refine (badd' (w := w1) la (by omega) X1 hbig1).mono ?_; rintro e w2 ⟨⟨s2, A2, n2, c2, rfl, hfr, hbig⟩, hb2⟩; obtain ⟨q0, q1, q2, q3, q4⟩ := Q0.below hb2; have hB2 := since_step hB1 hb2; have hln := hbig.len (k := m); have HLN := Lib.hid hln; clear hb2 hln))
    all_goals
      go_wp2
      go_ret
      refine ⟨retB ?_, ?_⟩
      · have h1 := HK.out
        have h2 := HLN.out
        have h3 := HX.out
        have h4 : inN x m ↔ n2 ≤ m := by
          unfold inN
          rw [if_pos h3, h2]
          simp
        by_cases h : inN x m
        · rw [decide_eq_true h, decide_eq_true]; have := h4.1 h; omega
        · rw [decide_eq_false h, decide_eq_false]; have : ¬ n2 ≤ m := fun g => h (h4.2 g); omega
      · repeat' (first | with_reducible exact hB2 | with_reducible refine Below.setCell ?_ ?_ _)
        all_goals first | (simp; done) | (simp; omega)
theorem bfits_any (x : Int) (s : Bool) (A : Option Addr) (n c : Nat) (w : World) (la : n ≤ 100000) (hx : BigAt w s A n c x) :
    Calls Try.prog 54 #[.agg #[.bool s, .slice A n c]] w fun e w' => e = .returned (.bool (decide (inN x 63))) ∧ Below w.heap.size w w' := by
  have hB0 : Below w.heap.size w (w.alloc (.cells #[.bool s, .slice A n c] 35)) := since_alloc (Below.refl _ w) _
  have X0 := hx.below hB0
  clear hx
  go_enter Try.func54, Try.ntmps54
  go_wp2_with fail
  refine (bwithin_any x 63 64 (by decide) (by decide) s A n c _ la X0).mono ?_
  rintro e w1 ⟨rfl, hb1⟩
  generalize hd : decide (inN x 63) = r at *
  have HD := Lib.hid hd
  clear hd
  have hB1 := since_step hB0 hb1
  clear hb1
  go_wp2
  go_ret
  exact ⟨retB HD.out.symm, hB1⟩
end Go.Proofs.Ytldnponbkhgijaa
end
section
namespace Go.Proofs.Ytldnponbkhgijaa
open Go.ChangeShapes Go.WideShapes Go.ChangeAt Go.RowKit
set_option linter.unusedVariables false
set_option linter.unusedSimpArgs false

theorem T2.set2 {w : World} {g : Nat} {a b : Int} (h : T2 w g a b) (c d : Int) : T2 ((w.setCell ⟨g, 0, none⟩ (.int .i64 c)).setCell ⟨g, 1, none⟩ (.int .u64 d)) g c d := by
  obtain ⟨h0, h1, h2, f1, f2⟩ := h
  refine ⟨by simpa using h0, ?_, ?_, by simpa using f1, by simpa using f2⟩ <;> simp [cell_set, h1, h2]
theorem BB.set2 {w : World} {g : Nat} {s : Bool} {A : Option Addr} {n c : Nat} (h : BB w g s A n c) (s' : Bool) (A' : Option Addr) (n' c' : Nat) : BB ((w.setCell ⟨g, 0, none⟩ (.bool s')).setCell ⟨g, 1, none⟩ (.slice A' n' c')) g s' A' n' c' := by
  obtain ⟨h0, h1, h2, f1, f2⟩ := h
  refine ⟨by simpa using h0, ?_, ?_, by simpa using f1, by simpa using f2⟩ <;> simp [cell_set, h1, h2]
theorem BB.far {w : World} {g : Nat} {s : Bool} {A : Option Addr} {n c : Nat} (h : BB w g s A n c) {p : Addr} (hp : p.block ≠ g) (v : Value) : BB (w.setCell p v) g s A n c := by
  obtain ⟨h0, h1, h2, f1, f2⟩ := h
  have k : ∀ o, (w.setCell p v).cell? ⟨g, o, none⟩ = w.cell? ⟨g, o, none⟩ := fun o => World.cell?_setCell_other w _ _ _ (by rintro rfl; exact hp rfl)
  exact ⟨by simpa using h0, (k 0).trans h1, (k 1).trans h2, by simpa using f1, by simpa using f2⟩
theorem BigAt.abs {w : World} {s : Bool} {A : Option Addr} {n c : Nat} {z : Int} (h : BigAt w s A n c z) : BigAt w false A n c (z.natAbs : Int) := by
  obtain ⟨bits, h1, h2, h3, h4, h5, h6, h7⟩ := h.ex
  refine ⟨bits, h1, h2, h3, h4, h5, (fun h => nomatch h), ?_⟩
  rw [h7]
  cases s <;> simp
end Go.Proofs.Ytldnponbkhgijaa
end
section
namespace Go.Proofs.Ytldnponbkhgijaa
open Go.ChangeShapes Go.WideShapes Go.ChangeAt Go.RowKit
set_option linter.unusedVariables false
set_option linter.unusedSimpArgs false
theorem bval_dropkR (l : List Nat) (j : Nat) (h : j < l.length) : bval (l.drop j) = l[j] + 2 * bval (l.drop (j + 1)) := by
  rw [List.drop_eq_getElem_cons h]; rfl
theorem BigAt.l64 {w : World} {s : Bool} {A : Option Addr} {n c : Nat} {z : Int} (h : BigAt w s A n c z) (hz : In64 z) : n ≤ 64 := (h.len (k := 64)).2 (by unfold In64 at hz; simp; omega)
set_option maxRecDepth 100000 in
set_option maxHeartbeats 4000000 in
theorem rint_any (x : Int) (hin : In64 x) (s : Bool) (A : Option Addr) (n c : Nat) (w : World) (hx : BigAt w s A n c x) :
    Calls Try.prog 55 #[.agg #[.bool s, .slice A n c]] w fun e w' => e = .returned (.int .i64 x) ∧ Below w.heap.size w w' := by
  have la := hx.l64 hin
  obtain ⟨a, h1, h2, h3, h4, h5, h6, h7⟩ := hx.ex
  subst h1
  clear hx h6
  have P1 := BB.new w s A a.length c 35
  have hB0 := since_alloc (Below.refl _ w) (.cells #[.bool s, .slice A a.length c] 35)
  have S1 := h4.below hB0
  have H7 := Lib.hid h7
  have HI := Lib.hid hin
  clear h7 hin h4
  go_enter Try.func55, Try.ntmps55
  go_upto_region 1 with fail
  generalize w.alloc (.cells #[.bool s, .slice A a.length c] 35) = W0 at *
  obtain ⟨p0, p1, p2, p3, p4⟩ := _root_.id P1
  go_wp2_with fail
  go_loopw [3, 4] (fun vn vi wr => ∃ (k : Nat) (v : Int), vi = .int .i64 k ∧ vn = .int .i64 v ∧ k ≤ a.length ∧ v = (if s = true then -(bval (a.drop k) : Int) else (bval (a.drop k) : Int)) ∧ Below W0.heap.size W0 wr) (fun _ i _ => (intOf i).toNat)
  case atStart => exact ⟨a.length, 0, rfl, rfl, by omega, by simp [bval], Below.refl _ _⟩
  case round =>
    obtain ⟨k, v, rfl, rfl, hk, hv, hB⟩ := hrel
    obtain ⟨q0, q1, q2, q3, q4⟩ := P1.below hB
    clear p0 p1 p2 p3 p4
    by_cases hk0 : 0 < k
    · obtain ⟨j, hj⟩ : ∃ j, k = j + 1 := ⟨k - 1, by omega⟩
      have hlt : j < a.length := by omega
      obtain ⟨bb, o, rfl, hz⟩ := (S1.below hB).byte hlt
      have hbr := World.block_lt_of_cell? _ _ hz
      have hbit := h5.1.at_ hlt
      have hdr : bval (a.drop j) = a[j] + 2 * bval (a.drop k) := by rw [bval_dropkR a j hlt, ← hj]
      have hle : bval (a.drop j) ≤ bval a := by
        have h8 := bval_drop a j (by omega)
        have h9 : 1 * bval (a.drop j) ≤ 2 ^ j * bval (a.drop j) := Nat.mul_le_mul_right _ (Nat.two_pow_pos j)
        omega
      have hin := HI.out
      have h7 := H7.out
      unfold In64 at hin
      have HJ := Lib.hid hj
      have HDR := Lib.hid hdr
      have f1 : IntKind.i64.wrap ((k : Int) - 1) = (j : Int) := by rw [IntKind.wrap_i64]; omega
      have d1 : decide (0 < (k : Int)) = true := decide_eq_true (by omega)
      have d1' : decide (0 < k) = true := decide_eq_true hk0
      generalize hdj : bval (a.drop j) = dj at *
      generalize hdk : bval (a.drop k) = dk at *
      generalize a[j] = bt at *
      have f2 : IntKind.i64.wrap (bt : Int) = (bt : Int) := by rw [IntKind.wrap_i64]; omega
      cases s with
      | false =>
        simp only [Bool.false_eq_true, if_false] at hv h7
        have f3 : IntKind.i64.wrap (2 * v) = 2 * v := by rw [IntKind.wrap_i64]; omega
        have f4 : IntKind.i64.wrap (2 * v + (bt : Int)) = (dj : Int) := by rw [IntKind.wrap_i64]; omega
        have HDJ := Lib.hid hdj
        clear hdr hle hin h7 hdj hdk hv hj
        go_wp2
        go_roundw
        case rel => exact ⟨j, (dj : Int), rfl, rfl, by omega, by simp [HDJ.out], hB⟩
        case measure => have := HJ.out; simp [intOf]; omega
      | true =>
        simp only [if_true] at hv h7
        have f3 : IntKind.i64.wrap (2 * v) = 2 * v := by rw [IntKind.wrap_i64]; omega
        have f4 : IntKind.i64.wrap (2 * v - (bt : Int)) = -(dj : Int) := by rw [IntKind.wrap_i64]; omega
        have HDJ := Lib.hid hdj
        clear hdr hle hin h7 hdj hdk hv hj
        go_wp2
        go_roundw
        case rel => exact ⟨j, -(dj : Int), rfl, rfl, by omega, by simp [HDJ.out], hB⟩
        case measure => have := HJ.out; simp [intOf]; omega
    · obtain rfl : k = 0 := by omega
      rw [List.drop_zero] at hv
      have hvx : v = x := by rw [hv, H7.out]
      subst hvx
      go_wp2
      go_ret
      exact ⟨rfl, since_step hB0 hB⟩
theorem BB.new1 (w : World) (o : Obj) (s : Bool) (A : Option Addr) (n c : Nat) (t : TypeId) : BB ((w.alloc o).alloc (.cells #[.bool s, .slice A n c] t)) (w.heap.size + 1) s A n c := by
  have := BB.new (w.alloc o) s A n c t
  rwa [World.size_alloc] at this
end Go.Proofs.Ytldnponbkhgijaa
end
