/-
  The walks of layer 1: sums of 192 bits, long, narrow, minus, size; Of, Int, Add, Sub, Neg.
-/
import Derived.Test.YtfagpdnckmaomaaShape
import Derived.Test.YtfagpdnckmaomaaWideM
namespace Go.Proofs.Ytfagpdnckmaomaa
open Go.ChangeShapes Go.WideShapes Go.ChangeAt Go.RowKit
set_option linter.unusedVariables false
set_option linter.unusedSimpArgs false

theorem add64_run (x y c : Int) (hx : 0 ≤ x ∧ x < 18446744073709551616) (hy : 0 ≤ y ∧ y < 18446744073709551616) (hc : 0 ≤ c ∧ c ≤ 1) :
    ∃ s k : Int, (∀ w, (callFunc 126 #[.int .u64 x, .int .u64 y, .int .u64 c]).run Try.prog w = .ok (.value (.tuple #[.int .u64 s, .int .u64 k])) w) ∧ x + y + c = s + 18446744073709551616 * k ∧ (0 ≤ s ∧ s < 18446744073709551616) ∧ (0 ≤ k ∧ k ≤ 1) :=
  run_add64' Try.func126 (by kernel_rfl) (by kernel_rfl) (by kernel_rfl) (by kernel_rfl) x y c hx hy hc
theorem sub64_run (x y c : Int) (hx : 0 ≤ x ∧ x < 18446744073709551616) (hy : 0 ≤ y ∧ y < 18446744073709551616) (hc : 0 ≤ c ∧ c ≤ 1) :
    ∃ s k : Int, (∀ w, (callFunc 131 #[.int .u64 x, .int .u64 y, .int .u64 c]).run Try.prog w = .ok (.value (.tuple #[.int .u64 s, .int .u64 k])) w) ∧ x - y - c = s - 18446744073709551616 * k ∧ (0 ≤ s ∧ s < 18446744073709551616) ∧ (0 ≤ k ∧ k ≤ 1) :=
  run_sub64' Try.func131 (by kernel_rfl) (by kernel_rfl) (by kernel_rfl) (by kernel_rfl) x y c hx hy hc

theorem wrap64_eq (x : Int) : wrap64 x = IntKind.i64.wrap x := by rw [IntKind.wrap_i64]; unfold wrap64; omega

def wideV (x : Int) : Value := .agg #[.int .i64 (hiN x), .int .u64 (loN x)]
def sumV (x : Int) : Value := .agg #[.int .i64 (hiN x), .int .u64 (loN x), .int .i64 (topN x)]

set_option maxHeartbeats 1000000 in
theorem plus_any (x y : Int) (w : World) :
    Calls Try.prog 110 #[.agg #[.int .i64 (hiN x), .int .u64 (loN x), .int .i64 (topN x)], .agg #[.int .i64 (hiN y), .int .u64 (loN y), .int .i64 (topN y)]] w fun e w' => e = .returned (sumV (x + y)) ∧ Below w.heap.size w w' := by
  obtain ⟨s0, k0, r0, e0, b0, c0⟩ := add64_run (loN x) (loN y) 0 ⟨lo_nn x, lo_lt x⟩ ⟨lo_nn y, lo_lt y⟩ ⟨by omega, by omega⟩
  obtain ⟨s1, k1, r1, e1, b1, c1⟩ := add64_run (IntKind.u64.wrap (hiN x)) (IntKind.u64.wrap (hiN y)) k0 (uwrap_rng _) (uwrap_rng _) c0
  obtain ⟨s2, k2, r2, e2, b2, c2⟩ := add64_run (IntKind.u64.wrap (topN x)) (IntKind.u64.wrap (topN y)) k1 (uwrap_rng _) (uwrap_rng _) c1
  have H := Lib.hid (plus_parts x y s0 k0 s1 k1 s2 k2 e0 b0 e1 b1 e2 b2)
  clear e0 e1 e2 b0 b1 b2 c0 c1 c2
  go_enter Try.func110, Try.ntmps110
  go_wp2
  refine bodyPost_ret (v := .agg #[.int .i64 (IntKind.i64.wrap s1), .int .u64 s0, .int .i64 (IntKind.i64.wrap s2)]) ?_ rfl ?_
  · simp [results, Try.results110, go_sem, wrap64_eq]
  · refine ⟨by rw [H.out.1, H.out.2.1, H.out.2.2]; rfl, ?_⟩
    exact (((Below.refl _ _).alloc (Nat.le_refl _) _).alloc (by simp) _).alloc (by simp; omega) _

set_option maxHeartbeats 1000000 in
theorem minus_any (x : Int) (w : World) :
    Calls Try.prog 125 #[.agg #[.int .i64 (hiN x), .int .u64 (loN x), .int .i64 (topN x)]] w fun e w' => e = .returned (sumV (-x)) ∧ Below w.heap.size w w' := by
  obtain ⟨s0, k0, r0, e0, b0, c0⟩ := sub64_run 0 (loN x) 0 ⟨by omega, by omega⟩ ⟨lo_nn x, lo_lt x⟩ ⟨by omega, by omega⟩
  obtain ⟨s1, k1, r1, e1, b1, c1⟩ := sub64_run 0 (IntKind.u64.wrap (hiN x)) k0 ⟨by omega, by omega⟩ (uwrap_rng _) c0
  obtain ⟨s2, k2, r2, e2, b2, c2⟩ := sub64_run 0 (IntKind.u64.wrap (topN x)) k1 ⟨by omega, by omega⟩ (uwrap_rng _) c1
  have H := Lib.hid (minus_parts x s0 k0 s1 k1 s2 k2 e0 b0 e1 b1 e2 b2)
  clear e0 e1 e2 b0 b1 b2 c0 c1 c2
  go_enter Try.func125, Try.ntmps125
  go_wp2
  refine bodyPost_ret (v := .agg #[.int .i64 (IntKind.i64.wrap s1), .int .u64 s0, .int .i64 (IntKind.i64.wrap s2)]) ?_ rfl ?_
  · simp [results, Try.results125, go_sem, wrap64_eq]
  · refine ⟨by rw [H.out.1, H.out.2.1, H.out.2.2]; rfl, ?_⟩
    exact ((Below.refl _ _).alloc (Nat.le_refl _) _).alloc (by simp) _

theorem long_any (x : Int) (hx : In128 x) (w : World) :
    Calls Try.prog 111 #[.agg #[.int .i64 (hiN x), .int .u64 (loN x)]] w fun e w' => e = .returned (sumV x) ∧ Below w.heap.size w w' := by
  have H := Lib.hid (top_in hx)
  clear hx
  go_enter Try.func111, Try.ntmps111
  go_wp2
  refine bodyPost_ret (v := .agg #[.int .i64 (hiN x), .int .u64 (loN x), .int .i64 (hiN x / 9223372036854775808)]) ?_ rfl ?_
  · simp [results, Try.results111, go_sem]
  · refine ⟨by rw [← H.out]; rfl, ?_⟩
    exact ((Below.refl _ _).alloc (Nat.le_refl _) _).alloc (by simp) _

theorem narrow_yes (x : Int) (hx : In128 x) (w : World) :
    Calls Try.prog 112 #[.agg #[.int .i64 (hiN x), .int .u64 (loN x), .int .i64 (topN x)]] w fun e w' => e = .returned (.tuple #[.agg #[.int .i64 (hiN x), .int .u64 (loN x)], .int .i64 0]) ∧ Below w.heap.size w w' := by
  have hb : (topN x != hiN x / 9223372036854775808) = false := by rw [bne_eq_false_iff_eq]; exact top_in hx
  clear hx
  go_enter Try.func112, Try.ntmps112
  go_wp2
  refine bodyPost_ret (v := .tuple #[.agg #[.int .i64 (hiN x), .int .u64 (loN x)], .int .i64 0]) ?_ rfl ?_
  · simp [results, Try.results112, go_sem]
  · exact ⟨rfl, ((Below.refl _ _).alloc (Nat.le_refl _) _).alloc (by simp) _⟩

theorem narrow_no (x : Int) (h : In192 x) (hx : ¬ In128 x) (w : World) :
    Calls Try.prog 112 #[.agg #[.int .i64 (hiN x), .int .u64 (loN x), .int .i64 (topN x)]] w fun e w' => e = .returned (.tuple #[.agg #[.int .i64 0, .int .u64 0], .int .i64 7]) ∧ Below w.heap.size w w' := by
  have hb : (topN x != hiN x / 9223372036854775808) = true := by rw [bne_iff_ne]; intro e; exact hx ((narrow_iff h).1 e)
  clear hx h
  go_enter Try.func112, Try.ntmps112
  go_wp2
  refine bodyPost_ret (v := .tuple #[.agg #[.int .i64 0, .int .u64 0], .int .i64 7]) ?_ rfl ?_
  · simp [results, Try.results112, go_sem]
  · exact ⟨rfl, ((Below.refl _ _).alloc (Nat.le_refl _) _).alloc (by simp) _⟩

theorem wof_any (n : Int) (hn : In64 n) (w : World) :
    Calls Try.prog 74 #[.int .i64 n] w fun e w' => e = .returned (.agg #[.int .i64 (hiN n), .int .u64 (loN n)]) ∧ Below w.heap.size w w' := by
  obtain ⟨h1, h2, _⟩ := of_in n hn
  have H1 := Lib.hid h1
  have H2 := Lib.hid h2
  clear h1 h2 hn
  go_enter Try.func74, Try.ntmps74
  go_wp2
  refine bodyPost_ret (v := .agg #[.int .i64 (n / 9223372036854775808), .int .u64 (IntKind.u64.wrap n)]) ?_ rfl ?_
  · simp [results, Try.results74, go_sem]
  · exact ⟨by rw [H1.out, H2.out], (Below.refl _ _).alloc (Nat.le_refl _) _⟩

theorem int_yes (x : Int) (hx : In64 x) (w : World) :
    Calls Try.prog 107 #[.agg #[.int .i64 (hiN x), .int .u64 (loN x)]] w fun e w' => e = .returned (.tuple #[.int .i64 x, .int .i64 0]) ∧ Below w.heap.size w w' := by
  have hb : (hiN x != wrap64 (loN x) / 9223372036854775808) = false := by rw [bne_eq_false_iff_eq, wrap64_eq]; exact (int_iff (of_in x hx).2.2).2 hx
  have H := Lib.hid (show wrap64 (loN x) = x by rw [wrap64_eq]; exact int_lo hx)
  clear hx
  go_enter Try.func107, Try.ntmps107
  go_wp2
  go_ret2
  refine ⟨?_, (Below.refl _ _).alloc (Nat.le_refl _) _⟩
  simp [H.out]

theorem int_no (x : Int) (h : In128 x) (hx : ¬ In64 x) (w : World) :
    Calls Try.prog 107 #[.agg #[.int .i64 (hiN x), .int .u64 (loN x)]] w fun e w' => e = .returned (.tuple #[.int .i64 0, .int .i64 7]) ∧ Below w.heap.size w w' := by
  have hb : (hiN x != wrap64 (loN x) / 9223372036854775808) = true := by rw [bne_iff_ne, wrap64_eq]; intro e; exact hx ((int_iff h).1 e)
  clear hx h
  go_enter Try.func107, Try.ntmps107
  go_wp2
  go_ret2
  exact ⟨rfl, (Below.refl _ _).alloc (Nat.le_refl _) _⟩
end Go.Proofs.Ytfagpdnckmaomaa
