import Derived.Test.YtlbccpiadmcpjaaNd01
import Derived.Test.YtlbccpiadmcpjaaNd13
import Derived.Deep.RegionWith
section
namespace Go.Proofs.Ytlbccpiadmcpjaa
open Go.ChangeShapes Go.WideShapes Go.ChangeAt Go.RowKit
set_option linter.unusedVariables false
set_option linter.unusedSimpArgs false

theorem add64_run (x y c : Int) (hx : 0 ≤ x ∧ x < 18446744073709551616) (hy : 0 ≤ y ∧ y < 18446744073709551616) (hc : 0 ≤ c ∧ c ≤ 1) :
    ∃ s k : Int, (∀ w, (callFunc 84 #[.int .u64 x, .int .u64 y, .int .u64 c]).run Try.prog w = .ok (.value (.tuple #[.int .u64 s, .int .u64 k])) w) ∧ x + y + c = s + 18446744073709551616 * k ∧ (0 ≤ s ∧ s < 18446744073709551616) ∧ (0 ≤ k ∧ k ≤ 1) :=
  run_add64' Try.func84 (by kernel_rfl) (by kernel_rfl) (by kernel_rfl) (by kernel_rfl) x y c hx hy hc
theorem sub64_run (x y c : Int) (hx : 0 ≤ x ∧ x < 18446744073709551616) (hy : 0 ≤ y ∧ y < 18446744073709551616) (hc : 0 ≤ c ∧ c ≤ 1) :
    ∃ s k : Int, (∀ w, (callFunc 94 #[.int .u64 x, .int .u64 y, .int .u64 c]).run Try.prog w = .ok (.value (.tuple #[.int .u64 s, .int .u64 k])) w) ∧ x - y - c = s - 18446744073709551616 * k ∧ (0 ≤ s ∧ s < 18446744073709551616) ∧ (0 ≤ k ∧ k ≤ 1) :=
  run_sub64' Try.func94 (by kernel_rfl) (by kernel_rfl) (by kernel_rfl) (by kernel_rfl) x y c hx hy hc
theorem wrap64_eq (x : Int) : wrap64 x = IntKind.i64.wrap x := by rw [IntKind.wrap_i64]; unfold wrap64; omega
def sumV (x : Int) : Value := .agg #[.int .i64 (hiN x), .int .u64 (loN x), .int .i64 (topN x)]
set_option maxHeartbeats 1000000 in
theorem plus_any (x y : Int) (w : World) :
    Calls Try.prog 74 #[.agg #[.int .i64 (hiN x), .int .u64 (loN x), .int .i64 (topN x)], .agg #[.int .i64 (hiN y), .int .u64 (loN y), .int .i64 (topN y)]] w fun e w' => e = .returned (sumV (x + y)) ∧ Below w.heap.size w w' := by
  obtain ⟨s0, k0, r0, e0, b0, c0⟩ := add64_run (loN x) (loN y) 0 ⟨lo_nn x, lo_lt x⟩ ⟨lo_nn y, lo_lt y⟩ ⟨by omega, by omega⟩
  obtain ⟨s1, k1, r1, e1, b1, c1⟩ := add64_run (IntKind.u64.wrap (hiN x)) (IntKind.u64.wrap (hiN y)) k0 (uwrap_rng _) (uwrap_rng _) c0
  obtain ⟨s2, k2, r2, e2, b2, c2⟩ := add64_run (IntKind.u64.wrap (topN x)) (IntKind.u64.wrap (topN y)) k1 (uwrap_rng _) (uwrap_rng _) c1
  have H := Lib.hid (plus_parts x y s0 k0 s1 k1 s2 k2 e0 b0 e1 b1 e2 b2)
  clear e0 e1 e2 b0 b1 b2 c0 c1 c2
  go_enter Try.func74, Try.ntmps74
  go_wp2
  refine bodyPost_ret (v := .agg #[.int .i64 (IntKind.i64.wrap s1), .int .u64 s0, .int .i64 (IntKind.i64.wrap s2)]) ?_ rfl ?_
  · simp [results, Try.results74, go_sem, wrap64_eq]
  · refine ⟨by rw [H.out.1, H.out.2.1, H.out.2.2]; rfl, ?_⟩
    exact (((Below.refl _ _).alloc (Nat.le_refl _) _).alloc (by simp) _).alloc (by simp; omega) _
set_option maxHeartbeats 1000000 in
theorem minus_any (x : Int) (w : World) :
    Calls Try.prog 81 #[.agg #[.int .i64 (hiN x), .int .u64 (loN x), .int .i64 (topN x)]] w fun e w' => e = .returned (sumV (-x)) ∧ Below w.heap.size w w' := by
  obtain ⟨s0, k0, r0, e0, b0, c0⟩ := sub64_run 0 (loN x) 0 ⟨by omega, by omega⟩ ⟨lo_nn x, lo_lt x⟩ ⟨by omega, by omega⟩
  obtain ⟨s1, k1, r1, e1, b1, c1⟩ := sub64_run 0 (IntKind.u64.wrap (hiN x)) k0 ⟨by omega, by omega⟩ (uwrap_rng _) c0
  obtain ⟨s2, k2, r2, e2, b2, c2⟩ := sub64_run 0 (IntKind.u64.wrap (topN x)) k1 ⟨by omega, by omega⟩ (uwrap_rng _) c1
  have H := Lib.hid (minus_parts x s0 k0 s1 k1 s2 k2 e0 b0 e1 b1 e2 b2)
  clear e0 e1 e2 b0 b1 b2 c0 c1 c2
  go_enter Try.func81, Try.ntmps81
  go_wp2
  refine bodyPost_ret (v := .agg #[.int .i64 (IntKind.i64.wrap s1), .int .u64 s0, .int .i64 (IntKind.i64.wrap s2)]) ?_ rfl ?_
  · simp [results, Try.results81, go_sem, wrap64_eq]
  · refine ⟨by rw [H.out.1, H.out.2.1, H.out.2.2]; rfl, ?_⟩
    exact ((Below.refl _ _).alloc (Nat.le_refl _) _).alloc (by simp) _
theorem long_any (x : Int) (hx : In128 x) (w : World) :
    Calls Try.prog 75 #[.agg #[.int .i64 (hiN x), .int .u64 (loN x)]] w fun e w' => e = .returned (sumV x) ∧ Below w.heap.size w w' := by
  have H := Lib.hid (top_in hx)
  clear hx
  go_enter Try.func75, Try.ntmps75
  go_wp2
  refine bodyPost_ret (v := .agg #[.int .i64 (hiN x), .int .u64 (loN x), .int .i64 (hiN x / 9223372036854775808)]) ?_ rfl ?_
  · simp [results, Try.results75, go_sem]
  · refine ⟨by rw [← H.out]; rfl, ?_⟩
    exact ((Below.refl _ _).alloc (Nat.le_refl _) _).alloc (by simp) _
theorem narrow_yes (x : Int) (hx : In128 x) (w : World) :
    Calls Try.prog 76 #[.agg #[.int .i64 (hiN x), .int .u64 (loN x), .int .i64 (topN x)]] w fun e w' => e = .returned (.tuple #[.agg #[.int .i64 (hiN x), .int .u64 (loN x)], .int .i64 0]) ∧ Below w.heap.size w w' := by
  have hb : (topN x != hiN x / 9223372036854775808) = false := by rw [bne_eq_false_iff_eq]; exact top_in hx
  clear hx
  go_enter Try.func76, Try.ntmps76
  go_wp2
  refine bodyPost_ret (v := .tuple #[.agg #[.int .i64 (hiN x), .int .u64 (loN x)], .int .i64 0]) ?_ rfl ?_
  · simp [results, Try.results76, go_sem]
  · exact ⟨rfl, ((Below.refl _ _).alloc (Nat.le_refl _) _).alloc (by simp) _⟩
theorem narrow_no (x : Int) (h : In192 x) (hx : ¬ In128 x) (w : World) :
    Calls Try.prog 76 #[.agg #[.int .i64 (hiN x), .int .u64 (loN x), .int .i64 (topN x)]] w fun e w' => e = .returned (.tuple #[.agg #[.int .i64 0, .int .u64 0], .int .i64 7]) ∧ Below w.heap.size w w' := by
  have hb : (topN x != hiN x / 9223372036854775808) = true := by rw [bne_iff_ne]; intro e; exact hx ((narrow_iff h).1 e)
  clear hx h
  go_enter Try.func76, Try.ntmps76
  go_wp2
  refine bodyPost_ret (v := .tuple #[.agg #[.int .i64 0, .int .u64 0], .int .i64 7]) ?_ rfl ?_
  · simp [results, Try.results76, go_sem]
  · exact ⟨rfl, ((Below.refl _ _).alloc (Nat.le_refl _) _).alloc (by simp) _⟩
theorem wof_any (n : Int) (hn : In64 n) (w : World) :
    Calls Try.prog 59 #[.int .i64 n] w fun e w' => e = .returned (.agg #[.int .i64 (hiN n), .int .u64 (loN n)]) ∧ Below w.heap.size w w' := by
  obtain ⟨h1, h2, _⟩ := of_in n hn
  have H1 := Lib.hid h1
  have H2 := Lib.hid h2
  clear h1 h2 hn
  go_enter Try.func59, Try.ntmps59
  go_wp2
  refine bodyPost_ret (v := .agg #[.int .i64 (n / 9223372036854775808), .int .u64 (IntKind.u64.wrap n)]) ?_ rfl ?_
  · simp [results, Try.results59, go_sem]
  · exact ⟨by rw [H1.out, H2.out], (Below.refl _ _).alloc (Nat.le_refl _) _⟩
theorem int_yes (x : Int) (hx : In64 x) (w : World) :
    Calls Try.prog 53 #[.agg #[.int .i64 (hiN x), .int .u64 (loN x)]] w fun e w' => e = .returned (.tuple #[.int .i64 x, .int .i64 0]) ∧ Below w.heap.size w w' := by
  have hb : (hiN x != wrap64 (loN x) / 9223372036854775808) = false := by rw [bne_eq_false_iff_eq, wrap64_eq]; exact (int_iff (of_in x hx).2.2).2 hx
  have H := Lib.hid (show wrap64 (loN x) = x by rw [wrap64_eq]; exact int_lo hx)
  clear hx
  go_enter Try.func53, Try.ntmps53
  go_wp2
  go_ret2
  refine ⟨?_, (Below.refl _ _).alloc (Nat.le_refl _) _⟩
  simp [H.out]
theorem int_no (x : Int) (h : In128 x) (hx : ¬ In64 x) (w : World) :
    Calls Try.prog 53 #[.agg #[.int .i64 (hiN x), .int .u64 (loN x)]] w fun e w' => e = .returned (.tuple #[.int .i64 0, .int .i64 7]) ∧ Below w.heap.size w w' := by
  have hb : (hiN x != wrap64 (loN x) / 9223372036854775808) = true := by rw [bne_iff_ne, wrap64_eq]; intro e; exact hx ((int_iff h).1 e)
  clear hx h
  go_enter Try.func53, Try.ntmps53
  go_wp2
  go_ret2
  exact ⟨rfl, (Below.refl _ _).alloc (Nat.le_refl _) _⟩
end Go.Proofs.Ytlbccpiadmcpjaa
end
section
namespace Go.Proofs.Ytlbccpiadmcpjaa
open Go.ChangeShapes Go.WideShapes Go.ChangeAt Go.RowKit
set_option linter.unusedVariables false
set_option linter.unusedSimpArgs false

def wcells (l : List Int) : List Value := (l.map fun x => [Value.int .i64 (hiN x), Value.int .u64 (loN x)]).flatten
theorem wcells_length (l : List Int) : (wcells l).length = l.length * 2 := by
  induction l with
  | nil => rfl
  | cons a l ih => simp [wcells] at *; omega
theorem wcells_hi (l : List Int) (k : Nat) (h : k < l.length) : (wcells l)[k * 2]? = some (.int .i64 (hiN l[k])) ∧ (wcells l)[k * 2 + 1]? = some (.int .u64 (loN l[k])) := by
  induction l generalizing k with
  | nil => simp at h
  | cons a l ih =>
    cases k with
    | zero => simp [wcells]
    | succ k =>
      have := ih k (by simpa using h)
      simp only [wcells, List.map_cons, List.flatten_cons] at this ⊢
      rw [show (k + 1) * 2 = k * 2 + 1 + 1 from by omega, show k * 2 + 1 + 1 + 1 = (k * 2 + 1) + 1 + 1 from rfl]
      simpa using this
def T3 (w : World) (g : Nat) (x : Int) : Prop :=
  g < w.heap.size ∧ w.cell? ⟨g, 0, none⟩ = some (.int .i64 (hiN x)) ∧ w.cell? ⟨g, 1, none⟩ = some (.int .u64 (loN x)) ∧ w.cell? ⟨g, 2, none⟩ = some (.int .i64 (topN x)) ∧
  w.frozen? ⟨g, 0, none⟩ = false ∧ w.frozen? ⟨g, 1, none⟩ = false ∧ w.frozen? ⟨g, 2, none⟩ = false
def T2 (w : World) (g : Nat) (a b : Int) : Prop :=
  g < w.heap.size ∧ w.cell? ⟨g, 0, none⟩ = some (.int .i64 a) ∧ w.cell? ⟨g, 1, none⟩ = some (.int .u64 b) ∧ w.frozen? ⟨g, 0, none⟩ = false ∧ w.frozen? ⟨g, 1, none⟩ = false
section
variable {w w' : World} {g : Nat} {x a b : Int}
theorem T3.below (h : T3 w g x) (hb : Below w.heap.size w w') : T3 w' g x := by
  obtain ⟨h0, h1, h2, h3, f1, f2, f3⟩ := h
  exact ⟨Nat.lt_of_lt_of_le h0 hb.size, (hb.cell (p := ⟨g, 0, none⟩) h0).trans h1, (hb.cell (p := ⟨g, 1, none⟩) h0).trans h2, (hb.cell (p := ⟨g, 2, none⟩) h0).trans h3,
    (hb.frozen (p := ⟨g, 0, none⟩) h0).trans f1, (hb.frozen (p := ⟨g, 1, none⟩) h0).trans f2, (hb.frozen (p := ⟨g, 2, none⟩) h0).trans f3⟩
theorem T2.below (h : T2 w g a b) (hb : Below w.heap.size w w') : T2 w' g a b := by
  obtain ⟨h0, h1, h2, f1, f2⟩ := h
  exact ⟨Nat.lt_of_lt_of_le h0 hb.size, (hb.cell (p := ⟨g, 0, none⟩) h0).trans h1, (hb.cell (p := ⟨g, 1, none⟩) h0).trans h2, (hb.frozen (p := ⟨g, 0, none⟩) h0).trans f1, (hb.frozen (p := ⟨g, 1, none⟩) h0).trans f2⟩
theorem T3.set3 (h : T3 w g x) (y : Int) : T3 (((w.setCell ⟨g, 0, none⟩ (.int .i64 (hiN y))).setCell ⟨g, 1, none⟩ (.int .u64 (loN y))).setCell ⟨g, 2, none⟩ (.int .i64 (topN y))) g y := by
  obtain ⟨h0, h1, h2, h3, f1, f2, f3⟩ := h
  refine ⟨by simpa using h0, ?_, ?_, ?_, by simpa using f1, by simpa using f2, by simpa using f3⟩ <;> simp [cell_set, h1, h2, h3]
theorem T2.far (h : T2 w g a b) {p : Addr} (hp : p.block ≠ g) (v : Value) : T2 (w.setCell p v) g a b := by
  obtain ⟨h0, h1, h2, f1, f2⟩ := h
  have k : ∀ o, (w.setCell p v).cell? ⟨g, o, none⟩ = w.cell? ⟨g, o, none⟩ := fun o => World.cell?_setCell_other w _ _ _ (by rintro rfl; exact hp rfl)
  exact ⟨by simpa using h0, (k 0).trans h1, (k 1).trans h2, by simpa using f1, by simpa using f2⟩
theorem T2.new (w : World) (a b : Int) (t : TypeId) : T2 (w.alloc (.cells #[.int .i64 a, .int .u64 b] t)) w.heap.size a b := by
  refine ⟨by simp, ?_, ?_, ?_, ?_⟩ <;> simp
theorem T2.alloc (h : T2 w g a b) (o : Obj) : T2 (w.alloc o) g a b := h.below ((Below.refl _ _).alloc (Nat.le_refl _) o)
theorem T3.alloc (h : T3 w g x) (o : Obj) : T3 (w.alloc o) g x := h.below ((Below.refl _ _).alloc (Nat.le_refl _) o)
theorem T3.new (w : World) (x : Int) (t : TypeId) : T3 (w.alloc (.cells #[.int .i64 (hiN x), .int .u64 (loN x), .int .i64 (topN x)] t)) w.heap.size x := by
  refine ⟨by simp, ?_, ?_, ?_, ?_, ?_, ?_⟩ <;> simp
theorem T3.drew (h : T3 w g x) : T3 w.drew g x := h
theorem T2.drew (h : T2 w g a b) : T2 w.drew g a b := h
end
theorem zero_parts : hiN 0 = 0 ∧ loN 0 = 0 ∧ topN 0 = 0 := by decide
def wideE (x : Int) : Value := if In128 x then .tuple #[.agg #[.int .i64 (hiN x), .int .u64 (loN x)], .int .i64 0] else .tuple #[.agg #[.int .i64 0, .int .u64 0], .int .i64 7]
theorem wideE_yes {x : Int} (h : In128 x) : wideE x = .tuple #[.agg #[.int .i64 (hiN x), .int .u64 (loN x)], .int .i64 0] := if_pos h
theorem wideE_no {x : Int} (h : ¬ In128 x) : wideE x = .tuple #[.agg #[.int .i64 0, .int .u64 0], .int .i64 7] := if_neg h
set_option maxHeartbeats 2000000 in
theorem wadd_any (A : Option Addr) (cap : Nat) (l : List Int) (w : World) (hl : l.length ≤ 1000000) (hx : ∀ x ∈ l, In128 x) (hs : Sl w A (wcells l)) :
    Calls Try.prog 58 #[.slice A l.length cap] w fun e w' =>
      e = .returned (wideE l.sum) ∧ Below w.heap.size w w' := by
  obtain ⟨z1, z2, z3⟩ := zero_parts
  go_enter Try.func58, Try.ntmps58
  go_wp2
  go_loopw [9] (fun i wr => ∃ k : Nat, k ≤ l.length ∧ i = .int .i64 k ∧ T3 wr (w.heap.size + 1) (l.take k).sum ∧ T2 wr w.heap.size 0 0 ∧ Below w.heap.size w wr) (fun i _ => l.length - (intOf i).toNat)
  case atStart =>
    refine ⟨0, by omega, rfl, ?_, ?_, ?_⟩
    · unfold T3
      simp only [List.take_zero, List.sum_nil, z1, z2, z3]
      simp
    · unfold T2
      refine ⟨by simp; omega, ?_, ?_, ?_, ?_⟩ <;> simp
    · exact ((Below.refl _ _).alloc (Nat.le_refl _) _).alloc (by simp) _
  case round =>
    obtain ⟨k, hk, rfl, ht3, ht2, hB⟩ := hrel
    by_cases hlt : k < l.length
    · obtain ⟨b, o, rfl, hcc⟩ := hs (by intro e; have := wcells_length l; rw [e] at this; simp at this; omega)
      obtain ⟨w1, w2⟩ := wcells_hi l k hlt
      have hc1 := hcc _ _ w1
      have hc2 := hcc _ _ w2
      have hbw : b < w.heap.size := World.block_lt_of_cell? _ _ hc1
      have hd1 := (hB.cell (p := ⟨b, o + k * 2, none⟩) hbw).trans hc1
      have hd2 : wr.cell? ⟨b, o + k * 2 + 1, none⟩ = _ := (hB.cell (p := ⟨b, o + (k * 2 + 1), none⟩) hbw).trans hc2
      have hbr : b < wr.heap.size := Nat.lt_of_lt_of_le hbw hB.size
      have hin := hx _ (List.getElem_mem hlt)
      have hsum : (l.take (k + 1)).sum = (l.take k).sum + l[k] := by rw [take_snoc l k hlt, List.sum_append]; simp
      have HS := Lib.hid hsum
      clear hsum w1 w2 hc1 hc2 hcc
      generalize l[k] = x at *
      generalize (l.take k).sum = y at *
      obtain ⟨a0, a1, a2, a3, f1, f2, f3⟩ := id ht3
      go_wp2_with fail
      have u3 := ht3.below ((Below.refl _ _).alloc (Nat.le_refl _) (.cells #[.int .i64 (hiN x), .int .u64 (loN x)] 98))
      have u2 := ht2.below ((Below.refl _ _).alloc (Nat.le_refl _) (.cells #[.int .i64 (hiN x), .int .u64 (loN x)] 98))
      have uB := since_alloc hB (.cells #[.int .i64 (hiN x), .int .u64 (loN x)] 98)
      clear hd1 hd2
      have hcs := @cell_set
      go_region_with (first
        | (go_at_call 75; refine (long_any x hin _).mono ?_; rintro e w1 ⟨rfl, hb1⟩; have v3 := u3.drew.below hb1; have v2 := u2.drew.below hb1; have vB := since_step uB.drew hb1; obtain ⟨a10, a11, a12, a13, f11, f12, f13⟩ := id v3; unfold sumV; clear hb1)
        | (go_at_call 74; refine (plus_any y x _).mono ?_; rintro e w2 ⟨rfl, hb2⟩; have y3 := v3.below hb2; have y2 := v2.below hb2; have yB := since_step vB hb2; obtain ⟨a20, a21, a22, a23, f21, f22, f23⟩ := id y3; unfold sumV; clear hb2))
      all_goals
        go_wp2
        go_roundw
        case rel =>
          refine ⟨k + 1, by omega, by go_num, ?_, ?_, ?_⟩
          · rw [HS.out]; exact y3.set3 _
          · exact ((y2.far (by simp) _).far (by simp) _).far (by simp) _
          · repeat' (first | with_reducible exact yB | with_reducible refine Below.setCell ?_ ?_ _)
            all_goals simp
        case measure => simp [intOf]; omega
    · obtain rfl : k = l.length := by omega
      rw [List.take_length] at ht3
      obtain ⟨a0, a1, a2, a3, f1, f2, f3⟩ := id ht3
      have h192 : In192 l.sum := by
        have key : ∀ m : List Int, (∀ x ∈ m, In128 x) → -(m.length : Int) * 170141183460469231731687303715884105728 ≤ m.sum ∧ m.sum ≤ (m.length : Int) * 170141183460469231731687303715884105728 := by
          intro m
          induction m with
          | nil => intro _; simp
          | cons a m ih =>
            intro hm
            have h1 := ih (fun x hx => hm x (by simp [hx]))
            have h2 := hm a (by simp)
            unfold In128 at h2
            simp only [List.length_cons, List.sum_cons]
            omega
        have := key l hx
        unfold In192
        omega
      by_cases hin : In128 l.sum
      · have HE := Lib.hid (wideE_yes hin)
        go_wp2_with fail
        refine (narrow_yes l.sum hin _).mono ?_
        rintro e w1 ⟨rfl, hb1⟩
        have y2 := ht2.below hb1
        have hB1 := since_step hB hb1
        obtain ⟨c0, c1, c2, g1, g2⟩ := id y2
        have hcs := @cell_set
        clear hb1
        go_wp2
        refine bodyPost_ret (v := .tuple #[.agg #[.int .i64 (hiN l.sum), .int .u64 (loN l.sum)], .int .i64 0]) ?_ rfl ?_
        · simp [results, Try.results58, go_sem, cell_set, c1, c2]
        · refine ⟨by rw [HE.out], ?_⟩
          repeat' (first | with_reducible exact hB1 | with_reducible refine Below.setCell ?_ ?_ _)
          all_goals simp
      · have HE := Lib.hid (wideE_no hin)
        go_wp2_with fail
        refine (narrow_no l.sum h192 hin _).mono ?_
        rintro e w1 ⟨rfl, hb1⟩
        have y2 := ht2.below hb1
        have hB1 := since_step hB hb1
        obtain ⟨c0, c1, c2, g1, g2⟩ := id y2
        have hcs := @cell_set
        clear hb1
        go_wp2
        refine bodyPost_ret (v := .tuple #[.agg #[.int .i64 0, .int .u64 0], .int .i64 7]) ?_ rfl ?_
        · simp [results, Try.results58, go_sem, cell_set, c1, c2]
        · refine ⟨by rw [HE.out], ?_⟩
          repeat' (first | with_reducible exact hB1 | with_reducible refine Below.setCell ?_ ?_ _)
          all_goals simp
end Go.Proofs.Ytlbccpiadmcpjaa
end
