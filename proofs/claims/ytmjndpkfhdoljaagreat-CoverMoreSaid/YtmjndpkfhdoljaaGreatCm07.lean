import Derived.Test.YtmjndpkfhdoljaaGreatCm01
import Derived.Test.YtmjndpkfhdoljaaGreatCm06
import Derived.Deep.RegionWith
import Derived.Shelf.Bits.Mul64
import Derived.Shelf.Small.Bits
import Derived.Shelf.Strconv.Itoa0
import Derived.Test.YtmjndpkfhdoljaaGreatProg
set_option maxHeartbeats 16000000
set_option maxRecDepth 100000
set_option linter.unusedVariables false
set_option linter.unusedSimpArgs false
namespace Go.Proofs.YtmjndpkfhdoljaaGreat
open Go.ChangeShapes Go.WideShapes Go.ChangeAt Go.RowKit
section
theorem add64_run (x y c : Int) (hx : 0 ≤ x ∧ x < 18446744073709551616) (hy : 0 ≤ y ∧ y < 18446744073709551616) (hc : 0 ≤ c ∧ c ≤ 1) :
    ∃ s k : Int, (∀ w, (callFunc 117 #[.int .u64 x, .int .u64 y, .int .u64 c]).run Tryz.prog w = .ok (.value (.tuple #[.int .u64 s, .int .u64 k])) w) ∧ x + y + c = s + 18446744073709551616 * k ∧ (0 ≤ s ∧ s < 18446744073709551616) ∧ (0 ≤ k ∧ k ≤ 1) :=
  run_add64' Tryz.func117 (by kernel_rfl) (by kernel_rfl) (by kernel_rfl) (by kernel_rfl) x y c hx hy hc
theorem sub64_run (x y c : Int) (hx : 0 ≤ x ∧ x < 18446744073709551616) (hy : 0 ≤ y ∧ y < 18446744073709551616) (hc : 0 ≤ c ∧ c ≤ 1) :
    ∃ s k : Int, (∀ w, (callFunc 131 #[.int .u64 x, .int .u64 y, .int .u64 c]).run Tryz.prog w = .ok (.value (.tuple #[.int .u64 s, .int .u64 k])) w) ∧ x - y - c = s - 18446744073709551616 * k ∧ (0 ≤ s ∧ s < 18446744073709551616) ∧ (0 ≤ k ∧ k ≤ 1) :=
  run_sub64' Tryz.func131 (by kernel_rfl) (by kernel_rfl) (by kernel_rfl) (by kernel_rfl) x y c hx hy hc
theorem wrap64_eq (x : Int) : wrap64 x = IntKind.i64.wrap x := by rw [IntKind.wrap_i64]; unfold wrap64; omega
def sumV (x : Int) : Value := .agg #[.int .i64 (hiN x), .int .u64 (loN x), .int .i64 (topN x)]
theorem plus_any (x y : Int) (w : World) :
    Calls Tryz.prog 102 #[.agg #[.int .i64 (hiN x), .int .u64 (loN x), .int .i64 (topN x)], .agg #[.int .i64 (hiN y), .int .u64 (loN y), .int .i64 (topN y)]] w fun e w' => e = .returned (sumV (x + y)) ∧ Below w.heap.size w w' := by
  obtain ⟨s0, k0, r0, e0, b0, c0⟩ := add64_run (loN x) (loN y) 0 ⟨lo_nn x, lo_lt x⟩ ⟨lo_nn y, lo_lt y⟩ ⟨by omega, by omega⟩
  obtain ⟨s1, k1, r1, e1, b1, c1⟩ := add64_run (IntKind.u64.wrap (hiN x)) (IntKind.u64.wrap (hiN y)) k0 (uwrap_rng _) (uwrap_rng _) c0
  obtain ⟨s2, k2, r2, e2, b2, c2⟩ := add64_run (IntKind.u64.wrap (topN x)) (IntKind.u64.wrap (topN y)) k1 (uwrap_rng _) (uwrap_rng _) c1
  have H := Lib.hid (plus_parts x y s0 k0 s1 k1 s2 k2 e0 b0 e1 b1 e2 b2)
  clear e0 e1 e2 b0 b1 b2 c0 c1 c2
  go_enter Tryz.func102, Tryz.ntmps102
  go_wp2
  refine bodyPost_ret (v := .agg #[.int .i64 (IntKind.i64.wrap s1), .int .u64 s0, .int .i64 (IntKind.i64.wrap s2)]) ?_ rfl ?_
  · simp [results, Tryz.results102, go_sem, wrap64_eq]
  · refine ⟨by rw [H.out.1, H.out.2.1, H.out.2.2]; rfl, ?_⟩
    exact (((Below.refl _ _).alloc (Nat.le_refl _) _).alloc (by simp) _).alloc (by simp; omega) _
theorem minus_any (x : Int) (w : World) :
    Calls Tryz.prog 123 #[.agg #[.int .i64 (hiN x), .int .u64 (loN x), .int .i64 (topN x)]] w fun e w' => e = .returned (sumV (-x)) ∧ Below w.heap.size w w' := by
  obtain ⟨s0, k0, r0, e0, b0, c0⟩ := sub64_run 0 (loN x) 0 ⟨by omega, by omega⟩ ⟨lo_nn x, lo_lt x⟩ ⟨by omega, by omega⟩
  obtain ⟨s1, k1, r1, e1, b1, c1⟩ := sub64_run 0 (IntKind.u64.wrap (hiN x)) k0 ⟨by omega, by omega⟩ (uwrap_rng _) c0
  obtain ⟨s2, k2, r2, e2, b2, c2⟩ := sub64_run 0 (IntKind.u64.wrap (topN x)) k1 ⟨by omega, by omega⟩ (uwrap_rng _) c1
  have H := Lib.hid (minus_parts x s0 k0 s1 k1 s2 k2 e0 b0 e1 b1 e2 b2)
  clear e0 e1 e2 b0 b1 b2 c0 c1 c2
  go_enter Tryz.func123, Tryz.ntmps123
  go_wp2
  refine bodyPost_ret (v := .agg #[.int .i64 (IntKind.i64.wrap s1), .int .u64 s0, .int .i64 (IntKind.i64.wrap s2)]) ?_ rfl ?_
  · simp [results, Tryz.results123, go_sem, wrap64_eq]
  · refine ⟨by rw [H.out.1, H.out.2.1, H.out.2.2]; rfl, ?_⟩
    exact ((Below.refl _ _).alloc (Nat.le_refl _) _).alloc (by simp) _
theorem long_any (x : Int) (hx : In128 x) (w : World) :
    Calls Tryz.prog 103 #[.agg #[.int .i64 (hiN x), .int .u64 (loN x)]] w fun e w' => e = .returned (sumV x) ∧ Below w.heap.size w w' := by
  have H := Lib.hid (top_in hx)
  clear hx
  go_enter Tryz.func103, Tryz.ntmps103
  go_wp2
  refine bodyPost_ret (v := .agg #[.int .i64 (hiN x), .int .u64 (loN x), .int .i64 (hiN x / 9223372036854775808)]) ?_ rfl ?_
  · simp [results, Tryz.results103, go_sem]
  · refine ⟨by rw [← H.out]; rfl, ?_⟩
    exact ((Below.refl _ _).alloc (Nat.le_refl _) _).alloc (by simp) _
theorem narrow_yes (x : Int) (hx : In128 x) (w : World) :
    Calls Tryz.prog 104 #[.agg #[.int .i64 (hiN x), .int .u64 (loN x), .int .i64 (topN x)]] w fun e w' => e = .returned (.tuple #[.agg #[.int .i64 (hiN x), .int .u64 (loN x)], .int .i64 0]) ∧ Below w.heap.size w w' := by
  have hb : (topN x != hiN x / 9223372036854775808) = false := by rw [bne_eq_false_iff_eq]; exact top_in hx
  clear hx
  go_enter Tryz.func104, Tryz.ntmps104
  go_wp2
  refine bodyPost_ret (v := .tuple #[.agg #[.int .i64 (hiN x), .int .u64 (loN x)], .int .i64 0]) ?_ rfl ?_
  · simp [results, Tryz.results104, go_sem]
  · exact ⟨rfl, ((Below.refl _ _).alloc (Nat.le_refl _) _).alloc (by simp) _⟩
theorem narrow_no (x : Int) (h : In192 x) (hx : ¬ In128 x) (w : World) :
    Calls Tryz.prog 104 #[.agg #[.int .i64 (hiN x), .int .u64 (loN x), .int .i64 (topN x)]] w fun e w' => e = .returned (.tuple #[.agg #[.int .i64 0, .int .u64 0], .int .i64 7]) ∧ Below w.heap.size w w' := by
  have hb : (topN x != hiN x / 9223372036854775808) = true := by rw [bne_iff_ne]; intro e; exact hx ((narrow_iff h).1 e)
  clear hx h
  go_enter Tryz.func104, Tryz.ntmps104
  go_wp2
  refine bodyPost_ret (v := .tuple #[.agg #[.int .i64 0, .int .u64 0], .int .i64 7]) ?_ rfl ?_
  · simp [results, Tryz.results104, go_sem]
  · exact ⟨rfl, ((Below.refl _ _).alloc (Nat.le_refl _) _).alloc (by simp) _⟩
theorem wof_any (n : Int) (hn : In64 n) (w : World) :
    Calls Tryz.prog 66 #[.int .i64 n] w fun e w' => e = .returned (.agg #[.int .i64 (hiN n), .int .u64 (loN n)]) ∧ Below w.heap.size w w' := by
  obtain ⟨h1, h2, _⟩ := of_in n hn
  have H1 := Lib.hid h1
  have H2 := Lib.hid h2
  clear h1 h2 hn
  go_enter Tryz.func66, Tryz.ntmps66
  go_wp2
  refine bodyPost_ret (v := .agg #[.int .i64 (n / 9223372036854775808), .int .u64 (IntKind.u64.wrap n)]) ?_ rfl ?_
  · simp [results, Tryz.results66, go_sem]
  · exact ⟨by rw [H1.out, H2.out], (Below.refl _ _).alloc (Nat.le_refl _) _⟩
theorem int_yes (x : Int) (hx : In64 x) (w : World) :
    Calls Tryz.prog 67 #[.agg #[.int .i64 (hiN x), .int .u64 (loN x)]] w fun e w' => e = .returned (.tuple #[.int .i64 x, .int .i64 0]) ∧ Below w.heap.size w w' := by
  have hb : (hiN x != wrap64 (loN x) / 9223372036854775808) = false := by rw [bne_eq_false_iff_eq, wrap64_eq]; exact (int_iff (of_in x hx).2.2).2 hx
  have H := Lib.hid (show wrap64 (loN x) = x by rw [wrap64_eq]; exact int_lo hx)
  clear hx
  go_enter Tryz.func67, Tryz.ntmps67
  go_wp2
  go_ret2
  refine ⟨?_, (Below.refl _ _).alloc (Nat.le_refl _) _⟩
  simp [H.out]
theorem int_no (x : Int) (h : In128 x) (hx : ¬ In64 x) (w : World) :
    Calls Tryz.prog 67 #[.agg #[.int .i64 (hiN x), .int .u64 (loN x)]] w fun e w' => e = .returned (.tuple #[.int .i64 0, .int .i64 7]) ∧ Below w.heap.size w w' := by
  have hb : (hiN x != wrap64 (loN x) / 9223372036854775808) = true := by rw [bne_iff_ne, wrap64_eq]; intro e; exact hx ((int_iff h).1 e)
  clear hx h
  go_enter Tryz.func67, Tryz.ntmps67
  go_wp2
  go_ret2
  exact ⟨rfl, (Below.refl _ _).alloc (Nat.le_refl _) _⟩
end
section
def wcells (l : List Int) : List Value := (l.map fun x => [Value.int .i64 (hiN x), Value.int .u64 (loN x)]).flatten
theorem wcells_length (l : List Int) : (wcells l).length = l.length * 2 := by
  induction l with
  | nil => rfl
  | cons a l ih => simp [wcells] at *; omega
theorem wcells_hi (l : List Int) (k : Nat) (h : k < l.length) : (wcells l)[k * 2]? = some (.int .i64 (hiN l[k])) ∧ (wcells l)[k * 2 + 1]? = some (.int .u64 (loN l[k])) := by
  induction l generalizing k with
  | nil => simp at h
  | cons a l ih =>
    cases k with
    | zero => simp [wcells]
    | succ k =>
      have := ih k (by simpa using h)
      simp only [wcells, List.map_cons, List.flatten_cons] at this ⊢
      rw [show (k + 1) * 2 = k * 2 + 1 + 1 from by omega, show k * 2 + 1 + 1 + 1 = (k * 2 + 1) + 1 + 1 from rfl]
      simpa using this
def T3 (w : World) (g : Nat) (x : Int) : Prop :=
  g < w.heap.size ∧ w.cell? ⟨g, 0, none⟩ = some (.int .i64 (hiN x)) ∧ w.cell? ⟨g, 1, none⟩ = some (.int .u64 (loN x)) ∧ w.cell? ⟨g, 2, none⟩ = some (.int .i64 (topN x)) ∧
  w.frozen? ⟨g, 0, none⟩ = false ∧ w.frozen? ⟨g, 1, none⟩ = false ∧ w.frozen? ⟨g, 2, none⟩ = false
def T2 (w : World) (g : Nat) (a b : Int) : Prop :=
  g < w.heap.size ∧ w.cell? ⟨g, 0, none⟩ = some (.int .i64 a) ∧ w.cell? ⟨g, 1, none⟩ = some (.int .u64 b) ∧ w.frozen? ⟨g, 0, none⟩ = false ∧ w.frozen? ⟨g, 1, none⟩ = false
section
variable {w w' : World} {g : Nat} {x a b : Int}
theorem T3.below (h : T3 w g x) (hb : Below w.heap.size w w') : T3 w' g x := by
  obtain ⟨h0, h1, h2, h3, f1, f2, f3⟩ := h
  exact ⟨Nat.lt_of_lt_of_le h0 hb.size, (hb.cell (p := ⟨g, 0, none⟩) h0).trans h1, (hb.cell (p := ⟨g, 1, none⟩) h0).trans h2, (hb.cell (p := ⟨g, 2, none⟩) h0).trans h3,
    (hb.frozen (p := ⟨g, 0, none⟩) h0).trans f1, (hb.frozen (p := ⟨g, 1, none⟩) h0).trans f2, (hb.frozen (p := ⟨g, 2, none⟩) h0).trans f3⟩
theorem T2.below (h : T2 w g a b) (hb : Below w.heap.size w w') : T2 w' g a b := by
  obtain ⟨h0, h1, h2, f1, f2⟩ := h
  exact ⟨Nat.lt_of_lt_of_le h0 hb.size, (hb.cell (p := ⟨g, 0, none⟩) h0).trans h1, (hb.cell (p := ⟨g, 1, none⟩) h0).trans h2, (hb.frozen (p := ⟨g, 0, none⟩) h0).trans f1, (hb.frozen (p := ⟨g, 1, none⟩) h0).trans f2⟩
theorem T3.set3 (h : T3 w g x) (y : Int) : T3 (((w.setCell ⟨g, 0, none⟩ (.int .i64 (hiN y))).setCell ⟨g, 1, none⟩ (.int .u64 (loN y))).setCell ⟨g, 2, none⟩ (.int .i64 (topN y))) g y := by
  obtain ⟨h0, h1, h2, h3, f1, f2, f3⟩ := h
  refine ⟨by simpa using h0, ?_, ?_, ?_, by simpa using f1, by simpa using f2, by simpa using f3⟩ <;> simp [cell_set, h1, h2, h3]
theorem T2.far (h : T2 w g a b) {p : Addr} (hp : p.block ≠ g) (v : Value) : T2 (w.setCell p v) g a b := by
  obtain ⟨h0, h1, h2, f1, f2⟩ := h
  have k : ∀ o, (w.setCell p v).cell? ⟨g, o, none⟩ = w.cell? ⟨g, o, none⟩ := fun o => World.cell?_setCell_other w _ _ _ (by rintro rfl; exact hp rfl)
  exact ⟨by simpa using h0, (k 0).trans h1, (k 1).trans h2, by simpa using f1, by simpa using f2⟩
theorem T2.new (w : World) (a b : Int) (t : TypeId) : T2 (w.alloc (.cells #[.int .i64 a, .int .u64 b] t)) w.heap.size a b := by
  refine ⟨by simp, ?_, ?_, ?_, ?_⟩ <;> simp
theorem T2.alloc (h : T2 w g a b) (o : Obj) : T2 (w.alloc o) g a b := h.below ((Below.refl _ _).alloc (Nat.le_refl _) o)
theorem T3.alloc (h : T3 w g x) (o : Obj) : T3 (w.alloc o) g x := h.below ((Below.refl _ _).alloc (Nat.le_refl _) o)
theorem T3.new (w : World) (x : Int) (t : TypeId) : T3 (w.alloc (.cells #[.int .i64 (hiN x), .int .u64 (loN x), .int .i64 (topN x)] t)) w.heap.size x := by
  refine ⟨by simp, ?_, ?_, ?_, ?_, ?_, ?_⟩ <;> simp
theorem T3.drew (h : T3 w g x) : T3 w.drew g x := h
theorem T2.drew (h : T2 w g a b) : T2 w.drew g a b := h
end
theorem zero_parts : hiN 0 = 0 ∧ loN 0 = 0 ∧ topN 0 = 0 := by decide
def wideE (x : Int) : Value := if In128 x then .tuple #[.agg #[.int .i64 (hiN x), .int .u64 (loN x)], .int .i64 0] else .tuple #[.agg #[.int .i64 0, .int .u64 0], .int .i64 7]
theorem wideE_yes {x : Int} (h : In128 x) : wideE x = .tuple #[.agg #[.int .i64 (hiN x), .int .u64 (loN x)], .int .i64 0] := if_pos h
theorem wideE_no {x : Int} (h : ¬ In128 x) : wideE x = .tuple #[.agg #[.int .i64 0, .int .u64 0], .int .i64 7] := if_neg h
theorem wadd_any (A : Option Addr) (cap : Nat) (l : List Int) (w : World) (hl : l.length ≤ 1000000) (hx : ∀ x ∈ l, In128 x) (hs : Sl w A (wcells l)) :
    Calls Tryz.prog 65 #[.slice A l.length cap] w fun e w' =>
      e = .returned (wideE l.sum) ∧ Below w.heap.size w w' := by
  obtain ⟨z1, z2, z3⟩ := zero_parts
  go_enter Tryz.func65, Tryz.ntmps65
  go_wp2
  go_loopw [9] (fun i wr => ∃ k : Nat, k ≤ l.length ∧ i = .int .i64 k ∧ T3 wr (w.heap.size + 1) (l.take k).sum ∧ T2 wr w.heap.size 0 0 ∧ Below w.heap.size w wr) (fun i _ => l.length - (intOf i).toNat)
  case atStart =>
    refine ⟨0, by omega, rfl, ?_, ?_, ?_⟩
    · unfold T3
      simp only [List.take_zero, List.sum_nil, z1, z2, z3]
      simp
    · unfold T2
      refine ⟨by simp; omega, ?_, ?_, ?_, ?_⟩ <;> simp
    · exact ((Below.refl _ _).alloc (Nat.le_refl _) _).alloc (by simp) _
  case round =>
    obtain ⟨k, hk, rfl, ht3, ht2, hB⟩ := hrel
    by_cases hlt : k < l.length
    · obtain ⟨b, o, rfl, hcc⟩ := hs (by intro e; have := wcells_length l; rw [e] at this; simp at this; omega)
      obtain ⟨w1, w2⟩ := wcells_hi l k hlt
      have hc1 := hcc _ _ w1
      have hc2 := hcc _ _ w2
      have hbw : b < w.heap.size := World.block_lt_of_cell? _ _ hc1
      have hd1 := (hB.cell (p := ⟨b, o + k * 2, none⟩) hbw).trans hc1
      have hd2 : wr.cell? ⟨b, o + k * 2 + 1, none⟩ = _ := (hB.cell (p := ⟨b, o + (k * 2 + 1), none⟩) hbw).trans hc2
      have hbr : b < wr.heap.size := Nat.lt_of_lt_of_le hbw hB.size
      have hin := hx _ (List.getElem_mem hlt)
      have hsum : (l.take (k + 1)).sum = (l.take k).sum + l[k] := by rw [take_snoc l k hlt, List.sum_append]; simp
      have HS := Lib.hid hsum
      clear hsum w1 w2 hc1 hc2 hcc
      generalize l[k] = x at *
      generalize (l.take k).sum = y at *
      obtain ⟨a0, a1, a2, a3, f1, f2, f3⟩ := id ht3
      go_wp2_with fail
      have u3 := ht3.below ((Below.refl _ _).alloc (Nat.le_refl _) (.cells #[.int .i64 (hiN x), .int .u64 (loN x)] 123))
      have u2 := ht2.below ((Below.refl _ _).alloc (Nat.le_refl _) (.cells #[.int .i64 (hiN x), .int .u64 (loN x)] 123))
      have uB := since_alloc hB (.cells #[.int .i64 (hiN x), .int .u64 (loN x)] 123)
      clear hd1 hd2
      have hcs := @cell_set
      go_region_with (first
        | (go_at_call 103; refine (long_any x hin _).mono ?_; rintro e w1 ⟨rfl, hb1⟩; have v3 := u3.drew.below hb1; have v2 := u2.drew.below hb1; have vB := since_step uB.drew hb1; obtain ⟨a10, a11, a12, a13, f11, f12, f13⟩ := id v3; unfold sumV; clear hb1)
        | (go_at_call 102; refine (plus_any y x _).mono ?_; rintro e w2 ⟨rfl, hb2⟩; have y3 := v3.below hb2; have y2 := v2.below hb2; have yB := since_step vB hb2; obtain ⟨a20, a21, a22, a23, f21, f22, f23⟩ := id y3; unfold sumV; clear hb2))
      all_goals
        go_wp2
        go_roundw
        case rel =>
          refine ⟨k + 1, by omega, by go_num, ?_, ?_, ?_⟩
          · rw [HS.out]; exact y3.set3 _
          · exact ((y2.far (by simp) _).far (by simp) _).far (by simp) _
          · repeat' (first | with_reducible exact yB | with_reducible refine Below.setCell ?_ ?_ _)
            all_goals simp
        case measure => simp [intOf]; omega
    · obtain rfl : k = l.length := by omega
      rw [List.take_length] at ht3
      obtain ⟨a0, a1, a2, a3, f1, f2, f3⟩ := id ht3
      have h192 : In192 l.sum := by
        have key : ∀ m : List Int, (∀ x ∈ m, In128 x) → -(m.length : Int) * 170141183460469231731687303715884105728 ≤ m.sum ∧ m.sum ≤ (m.length : Int) * 170141183460469231731687303715884105728 := by
          intro m
          induction m with
          | nil => intro _; simp
          | cons a m ih =>
            intro hm
            have h1 := ih (fun x hx => hm x (by simp [hx]))
            have h2 := hm a (by simp)
            unfold In128 at h2
            simp only [List.length_cons, List.sum_cons]
            omega
        have := key l hx
        unfold In192
        omega
      by_cases hin : In128 l.sum
      · have HE := Lib.hid (wideE_yes hin)
        go_wp2_with fail
        refine (narrow_yes l.sum hin _).mono ?_
        rintro e w1 ⟨rfl, hb1⟩
        have y2 := ht2.below hb1
        have hB1 := since_step hB hb1
        obtain ⟨c0, c1, c2, g1, g2⟩ := id y2
        have hcs := @cell_set
        clear hb1
        go_wp2
        refine bodyPost_ret (v := .tuple #[.agg #[.int .i64 (hiN l.sum), .int .u64 (loN l.sum)], .int .i64 0]) ?_ rfl ?_
        · simp [results, Tryz.results65, go_sem, cell_set, c1, c2]
        · refine ⟨by rw [HE.out], ?_⟩
          repeat' (first | with_reducible exact hB1 | with_reducible refine Below.setCell ?_ ?_ _)
          all_goals simp
      · have HE := Lib.hid (wideE_no hin)
        go_wp2_with fail
        refine (narrow_no l.sum h192 hin _).mono ?_
        rintro e w1 ⟨rfl, hb1⟩
        have y2 := ht2.below hb1
        have hB1 := since_step hB hb1
        obtain ⟨c0, c1, c2, g1, g2⟩ := id y2
        have hcs := @cell_set
        clear hb1
        go_wp2
        refine bodyPost_ret (v := .tuple #[.agg #[.int .i64 0, .int .u64 0], .int .i64 7]) ?_ rfl ?_
        · simp [results, Tryz.results65, go_sem, cell_set, c1, c2]
        · refine ⟨by rw [HE.out], ?_⟩
          repeat' (first | with_reducible exact hB1 | with_reducible refine Below.setCell ?_ ?_ _)
          all_goals simp
end
section
theorem in192_of {x y : Int} (hx : In128 x) (hy : In128 y) : In192 (x + -y) ∧ In192 (-x) := by
  unfold In128 In192 at *; omega
theorem wsub_any (x y : Int) (hx : In128 x) (hy : In128 y) (w : World) :
    Calls Tryz.prog 128 #[.agg #[.int .i64 (hiN x), .int .u64 (loN x)], .agg #[.int .i64 (hiN y), .int .u64 (loN y)]] w fun e w' => e = .returned (wideE (x + -y)) ∧ Below w.heap.size w w' := by
  have h192 := (in192_of hx hy).1
  have B1 : T2 (((w.alloc (.cells #[.int .i64 (hiN x), .int .u64 (loN x)] 123)).alloc (.cells #[.int .i64 (hiN y), .int .u64 (loN y)] 123)).alloc (.cells #[.int .i64 0, .int .u64 0] 123)) w.heap.size (hiN x) (loN x) := ((T2.new w _ _ _).alloc _).alloc _
  have B2 : T2 (((w.alloc (.cells #[.int .i64 (hiN x), .int .u64 (loN x)] 123)).alloc (.cells #[.int .i64 (hiN y), .int .u64 (loN y)] 123)).alloc (.cells #[.int .i64 0, .int .u64 0] 123)) (w.heap.size + 1) (hiN y) (loN y) := by
    have := (T2.new (w.alloc (.cells #[.int .i64 (hiN x), .int .u64 (loN x)] 123)) (hiN y) (loN y) 123).alloc (.cells #[.int .i64 0, .int .u64 0] 123)
    rwa [World.size_alloc] at this
  have B3 : T2 (((w.alloc (.cells #[.int .i64 (hiN x), .int .u64 (loN x)] 123)).alloc (.cells #[.int .i64 (hiN y), .int .u64 (loN y)] 123)).alloc (.cells #[.int .i64 0, .int .u64 0] 123)) (w.heap.size + 1 + 1) 0 0 := by
    have := T2.new ((w.alloc (.cells #[.int .i64 (hiN x), .int .u64 (loN x)] 123)).alloc (.cells #[.int .i64 (hiN y), .int .u64 (loN y)] 123)) 0 0 123
    rwa [World.size_alloc, World.size_alloc] at this
  have uB : Below w.heap.size w (((w.alloc (.cells #[.int .i64 (hiN x), .int .u64 (loN x)] 123)).alloc (.cells #[.int .i64 (hiN y), .int .u64 (loN y)] 123)).alloc (.cells #[.int .i64 0, .int .u64 0] 123)) := (((Below.refl _ _).alloc (Nat.le_refl _) _).alloc (by simp) _).alloc (by simp; omega) _
  have tk1 : True := trivial
  have hcs := @cell_set
  by_cases hin : In128 (x + -y)
  · have HE := Lib.hid (wideE_yes hin)
    go_enter Tryz.func128, Tryz.ntmps128
    go_wp2_with fail
    · skip
      go_region_with (first
        | (go_at_call 103; first
            | (have _t := tk1; refine (long_any x hx _).mono ?_; rintro e w1 ⟨rfl, hb1⟩; have A1 := B1.drew.below hb1; have A2 := B2.drew.below hb1; have A3 := B3.drew.below hb1; have AB := since_step uB.drew hb1; obtain ⟨p0, p1, p2, q1, q2⟩ := id A1; obtain ⟨p3, p4, p5, q4, q5⟩ := id A2; unfold sumV; clear tk1 hb1)
            | (refine (long_any y hy _).mono ?_; rintro e w2 ⟨rfl, hb2⟩; have C3 := A3.below hb2; have CB := since_step AB hb2; unfold sumV; clear hb2))
        | (go_at_call 123; refine (minus_any y _).mono ?_; rintro e w3 ⟨rfl, hb3⟩; have D3 := C3.below hb3; have DB := since_step CB hb3; unfold sumV; clear hb3)
        | (go_at_call 102; refine (plus_any x (-y) _).mono ?_; rintro e w4 ⟨rfl, hb4⟩; have E3 := D3.below hb4; have EB := since_step DB hb4; unfold sumV; clear hb4)
        | (go_at_call 104; refine (narrow_yes (x + -y) hin _).mono ?_; rintro e w5 ⟨rfl, hb5⟩; have F3 := E3.below hb5; have FB := since_step EB hb5; obtain ⟨r0, r1, r2, t1, t2⟩ := id F3; clear hb5))
      all_goals
        go_wp2
        refine bodyPost_ret (v := .tuple #[.agg #[.int .i64 (hiN (x + -y)), .int .u64 (loN (x + -y))], .int .i64 0]) ?_ rfl ?_
        · simp [results, Tryz.results128, go_sem, cell_set, r1, r2]
        · refine ⟨by rw [HE.out], ?_⟩
          repeat' (first | with_reducible exact FB | with_reducible refine Below.setCell ?_ ?_ _)
          all_goals first | (simp; done) | (simp; omega)
  · have HE := Lib.hid (wideE_no hin)
    go_enter Tryz.func128, Tryz.ntmps128
    go_wp2_with fail
    · skip
      go_region_with (first
        | (go_at_call 103; first
            | (have _t := tk1; refine (long_any x hx _).mono ?_; rintro e w1 ⟨rfl, hb1⟩; have A1 := B1.drew.below hb1; have A2 := B2.drew.below hb1; have A3 := B3.drew.below hb1; have AB := since_step uB.drew hb1; obtain ⟨p0, p1, p2, q1, q2⟩ := id A1; obtain ⟨p3, p4, p5, q4, q5⟩ := id A2; unfold sumV; clear tk1 hb1)
            | (refine (long_any y hy _).mono ?_; rintro e w2 ⟨rfl, hb2⟩; have C3 := A3.below hb2; have CB := since_step AB hb2; unfold sumV; clear hb2))
        | (go_at_call 123; refine (minus_any y _).mono ?_; rintro e w3 ⟨rfl, hb3⟩; have D3 := C3.below hb3; have DB := since_step CB hb3; unfold sumV; clear hb3)
        | (go_at_call 102; refine (plus_any x (-y) _).mono ?_; rintro e w4 ⟨rfl, hb4⟩; have E3 := D3.below hb4; have EB := since_step DB hb4; unfold sumV; clear hb4)
        | (go_at_call 104; refine (narrow_no (x + -y) h192 hin _).mono ?_; rintro e w5 ⟨rfl, hb5⟩; have F3 := E3.below hb5; have FB := since_step EB hb5; obtain ⟨r0, r1, r2, t1, t2⟩ := id F3; clear hb5))
      all_goals
        go_wp2
        refine bodyPost_ret (v := .tuple #[.agg #[.int .i64 0, .int .u64 0], .int .i64 7]) ?_ rfl ?_
        · simp [results, Tryz.results128, go_sem, cell_set, r1, r2]
        · refine ⟨by rw [HE.out], ?_⟩
          repeat' (first | with_reducible exact FB | with_reducible refine Below.setCell ?_ ?_ _)
          all_goals first | (simp; done) | (simp; omega)
end
section
def absI (x : Int) : Int := if x < 0 then -x else x
theorem hi_neg {x : Int} (h : In128 x) : hiN x < 0 ↔ x < 0 := by
  rw [hi_in h]; unfold In128 at h; omega
theorem size_any (x : Int) (hx : In128 x) (w : World) :
    Calls Tryz.prog 121 #[.agg #[.int .i64 (hiN x), .int .u64 (loN x)]] w fun e w' =>
      e = .returned (.tuple #[.int .u64 (IntKind.u64.wrap (hiN (absI x))), .int .u64 (loN (absI x))]) ∧ Below w.heap.size w w' := by
  by_cases hn : x < 0
  · have hneg : hiN x < 0 := (hi_neg hx).2 hn
    have HA := Lib.hid (show absI x = -x from if_pos hn)
    clear hn
    go_enter Tryz.func121, Tryz.ntmps121
    go_wp2_with fail
    refine (long_any x hx _).mono ?_
    rintro e w1 ⟨rfl, hb1⟩
    have B1 := (T2.new w (hiN x) (loN x) 123).below hb1
    have hB1 := since_step (since_alloc (Below.refl _ _) _) hb1
    have C1 := B1.alloc (.cells #[.int .i64 (hiN x), .int .u64 (loN x), .int .i64 (topN x)] 166)
    have D1 := T3.new w1 x 166
    have hC1 := since_alloc hB1 (.cells #[.int .i64 (hiN x), .int .u64 (loN x), .int .i64 (topN x)] 166)
    unfold sumV
    clear hb1
    obtain ⟨p0, p1, p2, p3, p4⟩ := id B1
    go_wp2_with fail
    refine (minus_any x _).mono ?_
    rintro e w2 ⟨rfl, hb2⟩
    have E := D1.below hb2
    have hE := since_step hC1 hb2
    obtain ⟨q0, q1, q2, q3, q4, q5, q6⟩ := id E
    have hcs := @cell_set
    unfold sumV
    have hB0 : w.heap.size ≤ w1.heap.size := hB1.size
    clear hb2 p0 p1 p2 p3 p4 B1 C1 D1 hB1 hC1
    go_wp2_with fail
    go_quiet (fail)
    go_wp2
    go_ret2
    refine ⟨by rw [HA.out]; rfl, below_drewN ?_ _⟩
    repeat' (first | with_reducible exact hE | with_reducible refine Below.setCell ?_ ?_ _)
    all_goals exact hB0
  · have hneg : ¬ hiN x < 0 := fun h => hn ((hi_neg hx).1 h)
    have HA := Lib.hid (show absI x = x from if_neg hn)
    clear hn
    go_enter Tryz.func121, Tryz.ntmps121
    go_wp2_with fail
    refine (long_any x hx _).mono ?_
    rintro e w1 ⟨rfl, hb1⟩
    have B1 := (T2.new w (hiN x) (loN x) 123).below hb1
    have hB1 := since_step (since_alloc (Below.refl _ _) _) hb1
    unfold sumV
    clear hb1
    obtain ⟨p0, p1, p2, p3, p4⟩ := id B1
    go_wp2_with fail
    go_quiet (fail)
    go_wp2
    go_ret2
    exact ⟨by rw [HA.out]; rfl, below_drewN (since_alloc hB1 _) _⟩
end
end Go.Proofs.YtmjndpkfhdoljaaGreat
section
namespace Go.Proofs
open Go.Shelf
def Tryz.lays134_ren : Go.Shelf.Ren := ⟨fun | 134 => 136 | 129 => 141 | n => n, fun | 53 => 121 | 3 => 3 | 4 => 4 | 46 => 170 | 5 => 5 | 9 => 9 | n => n, fun | n => n⟩
theorem Tryz.lays134 : Go.Proofs.Lays.n134 Tryz.prog Tryz.lays134_ren := {
  mixed := by kernel_rfl
  f129 := Tryz.func141.trans (congrArg some (by kernel_rfl))
  f134 := Tryz.func136.trans (congrArg some (by kernel_rfl))
  t3 := Tryz.underlying3
  a3 := Tryz.isAgg3
  z3 := Tryz.sizeOf3
  v3 := Tryz.zeroValue3
  t4 := Tryz.underlying4
  a4 := Tryz.isAgg4
  z4 := Tryz.sizeOf4
  v4 := Tryz.zeroValue4
  t5 := Tryz.underlying5
  a5 := Tryz.isAgg5
  z5 := Tryz.sizeOf5
  v5 := Tryz.zeroValue5
  t9 := Tryz.underlying9
  a9 := Tryz.isAgg9
  z9 := Tryz.sizeOf9
  v9 := Tryz.zeroValue9
  t46 := Tryz.underlying170
  a46 := Tryz.isAgg170
  z46 := Tryz.sizeOf170
  v46 := Tryz.zeroValue170
  t53 := Tryz.underlying121
  a53 := Tryz.isAgg121
  z53 := Tryz.sizeOf121
  v53 := Tryz.zeroValue121 }
theorem Tryz.bits_LeadingZeros64 (x : Int) (w : World) (h0 : 0 ≤ x) (h1 : x ≤ 18446744073709551615) :
    Calls Tryz.prog 136 #[.int .u64 x] w fun e w' => e = .returned (.int .i64 (64 - (Lib.bitLen x.toNat : Int))) ∧ w' = w := Any.bits_LeadingZeros64 Tryz.lays134 x w h0 h1
def Tryz.lays264_ren : Go.Shelf.Ren := ⟨fun | 264 => 124 | n => n, fun | 53 => 121 | 46 => 170 | n => n, fun | n => n⟩
theorem Tryz.lays264 : Go.Proofs.Lays.n264 Tryz.prog Tryz.lays264_ren := {
  mixed := by kernel_rfl
  f264 := Tryz.func124.trans (congrArg some (by kernel_rfl))
  t46 := Tryz.underlying170
  a46 := Tryz.isAgg170
  z46 := Tryz.sizeOf170
  v46 := Tryz.zeroValue170
  t53 := Tryz.underlying121
  a53 := Tryz.isAgg121
  z53 := Tryz.sizeOf121
  v53 := Tryz.zeroValue121 }
open Go.RowKit Go.Lib in
theorem Tryz.bits_Mul64 (x y : Nat) (hx : x < 18446744073709551616) (hy : y < 18446744073709551616) (w : World) :
    Calls Tryz.prog 124 #[.int .u64 x, .int .u64 y] w fun e w' => e = .returned (.tuple #[.int .u64 ((x * y / 18446744073709551616 : Nat) : Int), .int .u64 ((x * y % 18446744073709551616 : Nat) : Int)]) ∧ w' = w := Any.bits_Mul64 Tryz.lays264 x y hx hy w
end Go.Proofs
end
