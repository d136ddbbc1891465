/-
  The walks of wide.divide and wide.Div.
-/
import Derived.Test.YtpnaihnmmnjacaaDiv2
import Derived.Test.YtpnaihnmmnjacaaWide7
namespace Go.Proofs.Ytpnaihnmmnjacaa
open Go.ChangeShapes Go.WideShapes Go.ChangeAt Go.RowKit
set_option linter.unusedVariables false
set_option linter.unusedSimpArgs false

theorem div64_any (N hi lo y : Nat) (hNN : N = hi * 18446744073709551616 + lo) (h1 : hi < y) (h2 : y < 18446744073709551616) (h3 : lo < 18446744073709551616) (w : World) :
    Calls Try.prog 173 #[.int .u64 hi, .int .u64 lo, .int .u64 y] w fun e w' => e = .returned (.tuple #[.int .u64 ((N / y : Nat) : Int), .int .u64 ((N % y : Nat) : Int)]) ∧ Below w.heap.size w w' := by
  rcases Nat.eq_zero_or_pos hi with h | h
  · subst h
    have hN : N = lo := by rw [hNN, Nat.zero_mul, Nat.zero_add]
    subst hN
    rw [show ((0 : Nat) : Int) = 0 from rfl]
    exact div64_zero N y h1 h2 h3 w
  · exact div64_pos N hi lo y hNN h1 h2 h3 h w

theorem wrap_quo' (u a q : Nat) (hq : q = u / a) (h : u < 18446744073709551616) : IntKind.u64.wrap ((u : Int) / (a : Int)) = (q : Int) := by
  rw [show (u : Int) / (a : Int) = ((u / a : Nat) : Int) from by simp, ← hq, IntKind.wrap_u64]
  have := Nat.div_le_self u a
  omega

set_option maxHeartbeats 1000000 in
theorem divide_any (hi lo d H R L Q : Nat) (hd0 : 0 < d) (hd : d < 18446744073709551616) (h1 : hi < 18446744073709551616) (h2 : lo < 18446744073709551616)
    (hH : H = hi / d) (hL : L = (hi % d * 18446744073709551616 + lo) / d) (hR : R = (hi % d * 18446744073709551616 + lo) % d) (w : World) :
    Calls Try.prog 162 #[.int .u64 hi, .int .u64 lo, .int .u64 d] w fun e w' => e = .returned (.tuple #[.int .u64 (H : Int), .int .u64 (L : Int), .int .u64 (R : Int)]) ∧ Below w.heap.size w w' := by
  obtain ⟨m, hm⟩ : ∃ m : Nat, m = hi % d := ⟨_, rfl⟩
  have g1 := wrap_quo' hi d H hH h1
  have g2 : (hi : Int) % (d : Int) = (m : Int) := by rw [hm]; simp
  have g3 : ¬ (d : Int) = 0 := by omega
  have hml : m < d := by rw [hm]; exact Nat.mod_lt _ hd0
  rw [← hm] at hL hR
  have D := fun w => div64_any _ m lo d rfl hml hd h2 w
  rw [← hL, ← hR] at D
  have HD := Lib.hid D
  clear D hL hR hH hm
  go_enter Try.func162, Try.ntmps162
  go_wp2
  go_quiet (fail)
  go_wp2_with fail
  refine (HD.out _).mono ?_
  rintro e w1 ⟨rfl, hb1⟩
  have hB1 := since_step (below_drewN (Below.refl w.heap.size w) nq) hb1
  clear hb1
  go_wp2_with fail
  go_ret3
  exact ⟨rfl, hB1⟩

set_option maxHeartbeats 1000000 in
theorem wdiv_zero (h l : Int) (w : World) :
    Calls Try.prog 125 #[.agg #[.int .i64 h, .int .u64 l], .int .i64 0] w fun e w' => e = .returned (.tuple #[.agg #[.int .i64 0, .int .u64 0], .int .i64 0, .int .i64 8]) ∧ Below w.heap.size w w' := by
  have hcs := @cell_set
  go_enter Try.func125, Try.ntmps125
  go_wp2_with fail
  refine bodyPost_ret (v := .tuple #[.agg #[.int .i64 0, .int .u64 0], .int .i64 0, .int .i64 8]) ?_ rfl ?_
  · simp [results, Try.results125, go_sem, cell_set, World.cell?_alloc_lt]
  · refine ⟨rfl, ?_⟩
    repeat' (first | with_reducible exact Below.refl _ _ | with_reducible refine Below.setCell ?_ ?_ _ | with_reducible refine Below.alloc ?_ ?_ _)
    all_goals first | (simp; done) | (simp; omega) | exact Nat.le_refl _

set_option maxHeartbeats 1000000 in
theorem wdiv_neg (h l d : Int) (hd : d < 0) (w : World) :
    Calls Try.prog 125 #[.agg #[.int .i64 h, .int .u64 l], .int .i64 d] w fun e w' => e = .returned (.tuple #[.agg #[.int .i64 0, .int .u64 0], .int .i64 0, .int .i64 2]) ∧ Below w.heap.size w w' := by
  have hcs := @cell_set
  have hd0 : ¬ d = 0 := by omega
  go_enter Try.func125, Try.ntmps125
  go_wp2_with fail
  refine bodyPost_ret (v := .tuple #[.agg #[.int .i64 0, .int .u64 0], .int .i64 0, .int .i64 2]) ?_ rfl ?_
  · simp [results, Try.results125, go_sem, cell_set, World.cell?_alloc_lt]
  · refine ⟨rfl, ?_⟩
    repeat' (first | with_reducible exact Below.refl _ _ | with_reducible refine Below.setCell ?_ ?_ _ | with_reducible refine Below.alloc ?_ ?_ _)
    all_goals first | (simp; done) | (simp; omega) | exact Nat.le_refl _

/-- what a number without its sign, divided, is in its parts -/
theorem div_parts (x : Int) (hx : In128 x) (d : Nat) (hd0 : 0 < d) (hd : d < 9223372036854775808) (H L R : Nat) (hH : H = szH x / d) (hL : L = (szH x % d * 18446744073709551616 + szL x) / d)
    (hR : R = (szH x % d * 18446744073709551616 + szL x) % d) :
    wrap64 (H : Int) = hiN (((x.natAbs / d : Nat) : Int)) ∧ (L : Int) = loN (((x.natAbs / d : Nat) : Int)) ∧ topN (((x.natAbs / d : Nat) : Int)) = 0 ∧ R = x.natAbs % d ∧ R < d ∧ In128 (-((x.natAbs / d : Nat) : Int)) := by
  have hN : x.natAbs = szH x * 18446744073709551616 + szL x := by unfold szH szL; omega
  have hl : szL x < 18446744073709551616 := by unfold szL; omega
  have hn : x.natAbs ≤ 170141183460469231731687303715884105728 := by unfold In128 at hx; omega
  have hle := Nat.div_le_self x.natAbs d
  have hdm := Nat.div_add_mod (szH x) d
  have key : x.natAbs = d * (szH x / d * 18446744073709551616) + (szH x % d * 18446744073709551616 + szL x) := by
    rw [hN]
    conv => lhs; rw [← hdm]
    rw [Nat.add_mul, Nat.mul_assoc, Nat.add_assoc]
  have hq : x.natAbs / d = H * 18446744073709551616 + L := by
    rw [key, Nat.mul_add_div hd0, ← hH, ← hL]
  have hr : x.natAbs % d = R := by
    rw [key, Nat.mul_add_mod, ← hR]
  have hLl : L < 18446744073709551616 := by
    rw [hL, Nat.div_lt_iff_lt_mul hd0]
    have h5 : szH x % d + 1 ≤ d := Nat.mod_lt _ hd0
    have h6 := Nat.mul_le_mul_left 18446744073709551616 h5
    rw [Nat.mul_add] at h6
    omega
  refine ⟨?_, ?_, ?_, hr.symm, by rw [← hr]; exact Nat.mod_lt _ hd0, ?_⟩
  · rw [hq, wrap64_eq]; unfold hiN; congr 1; omega
  · rw [hq]; unfold loN; omega
  · unfold topN
    rw [IntKind.wrap_i64]
    generalize x.natAbs / d = q at *
    omega
  · unfold In128
    generalize x.natAbs / d = q at *
    omega
end Go.Proofs.Ytpnaihnmmnjacaa
