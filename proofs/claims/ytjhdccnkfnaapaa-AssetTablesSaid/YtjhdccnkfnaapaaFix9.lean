/-
  The walks of layer 2, ninth part: fix.Scale.
-/
import Derived.Test.YtjhdccnkfnaapaaDiv4
import Derived.Test.YtjhdccnkfnaapaaFix
namespace Go.Proofs.Ytjhdccnkfnaapaa
open Go.ChangeShapes Go.WideShapes Go.ChangeAt Go.RowKit
set_option linter.unusedVariables false
set_option linter.unusedSimpArgs false

theorem div_in128 {z : Int} (h : In128 z) (d : Nat) (hd : 0 < d) : In128 (z / (d : Int)) := by
  unfold In128 at *
  have h1 := Int.ediv_mul_le z (show (d : Int) ≠ 0 by omega)
  have h2 := Int.lt_ediv_add_one_mul_self z (show (0 : Int) < (d : Int) by omega)
  generalize z / (d : Int) = q at *
  have hd1 : (1 : Int) ≤ (d : Int) := by omega
  constructor
  · rcases Int.lt_or_le q (-170141183460469231731687303715884105728) with h | h
    · exfalso
      have : (q + 1) * (d : Int) ≤ (q + 1) * 1 := Int.mul_le_mul_of_nonpos_left (by omega) hd1
      omega
    · exact h
  · rcases Int.lt_or_le 170141183460469231731687303715884105727 q with h | h
    · exfalso
      have : q * 1 ≤ q * (d : Int) := Int.mul_le_mul_of_nonneg_left hd1 (by omega)
      omega
    · exact h

set_option maxHeartbeats 1000000 in
theorem fscale_zero (a n : Int) (ha : In64 a) (hn : In64 n) (w : World) :
    Calls Try.prog 30 #[.int .i64 a, .int .i64 n, .int .i64 0] w fun e w' => e = .returned (.tuple #[.int .i64 0, .int .i64 0, .int .i64 8]) ∧ Below w.heap.size w w' := by
  have HM := Lib.hid (fun w => wmul_any a n ha hn w)
  clear ha hn
  go_enter Try.func30, Try.ntmps30
  go_wp2_with fail
  refine (HM.out _).mono ?_
  rintro e w1 ⟨rfl, hb1⟩
  have hB1 := since_step (Below.refl w.heap.size w) hb1
  clear hb1
  go_wp2_with fail
  refine (wdiv_zero _ _ _).mono ?_
  rintro e w2 ⟨rfl, hb2⟩
  have hB2 := since_step hB1 hb2
  clear hb2
  go_wp2_with fail
  go_ret3
  exact ⟨rfl, since_alloc hB2 _⟩

set_option maxHeartbeats 1000000 in
theorem fscale_neg (a n d : Int) (ha : In64 a) (hn : In64 n) (hd : d < 0) (w : World) :
    Calls Try.prog 30 #[.int .i64 a, .int .i64 n, .int .i64 d] w fun e w' => e = .returned (.tuple #[.int .i64 0, .int .i64 0, .int .i64 2]) ∧ Below w.heap.size w w' := by
  have HM := Lib.hid (fun w => wmul_any a n ha hn w)
  have HD := Lib.hid (fun h l w => wdiv_neg h l d hd w)
  clear ha hn hd
  go_enter Try.func30, Try.ntmps30
  go_wp2_with fail
  refine (HM.out _).mono ?_
  rintro e w1 ⟨rfl, hb1⟩
  have hB1 := since_step (Below.refl w.heap.size w) hb1
  clear hb1
  go_wp2_with fail
  refine (HD.out _ _ _).mono ?_
  rintro e w2 ⟨rfl, hb2⟩
  have hB2 := since_step hB1 hb2
  clear hb2
  go_wp2_with fail
  go_ret3
  exact ⟨rfl, since_alloc hB2 _⟩

/-- the whole of a scaled number, and what is left: none where it leaves 64 bits -/
def sV (z : Int) (d : Nat) : Int := if In64 (z / (d : Int)) then z / (d : Int) else 0
def sR (z : Int) (d : Nat) : Int := if In64 (z / (d : Int)) then z % (d : Int) else 0
def sE (z : Int) (d : Nat) : Int := if In64 (z / (d : Int)) then 0 else 7

set_option maxHeartbeats 1000000 in
theorem fscale_pos (a n : Int) (d : Nat) (ha : In64 a) (hn : In64 n) (hd0 : 0 < d) (hd : d < 9223372036854775808) (w : World) :
    Calls Try.prog 30 #[.int .i64 a, .int .i64 n, .int .i64 (d : Int)] w fun e w' =>
      e = .returned (.tuple #[.int .i64 (sV (a * n) d), .int .i64 (sR (a * n) d), .int .i64 (sE (a * n) d)]) ∧ Below w.heap.size w w' := by
  have HM := Lib.hid (fun w => wmul_any a n ha hn w)
  have hin := mul_in128 ha hn
  have hq := div_in128 hin d hd0
  clear ha hn
  generalize a * n = z at *
  have HD := Lib.hid (fun w => wdiv_pos z d hin hd0 hd w)
  have HI := fun w => int_any (z / (d : Int)) hq w
  have e1 : sV z d = fV (z / (d : Int)) := rfl
  have e2 : sE z d = fE (z / (d : Int)) := rfl
  rw [e1, e2]
  by_cases h : In64 (z / (d : Int))
  · rw [show fV (z / (d : Int)) = z / (d : Int) from if_pos h, show fE (z / (d : Int)) = 0 from if_pos h] at *
    rw [show sR z d = z % (d : Int) from if_pos h]
    generalize z / (d : Int) = q at *
    generalize z % (d : Int) = r at *
    have HI := Lib.hid HI
    clear hin hq hd0 hd h e1 e2
    go_enter Try.func30, Try.ntmps30
    go_wp2_with fail
    refine (HM.out _).mono ?_
    rintro e w1 ⟨rfl, hb1⟩
    have hB1 := since_step (Below.refl w.heap.size w) hb1
    clear hb1
    go_wp2_with fail
    refine (HD.out _).mono ?_
    rintro e w2 ⟨rfl, hb2⟩
    have hB2 := since_step hB1 hb2
    clear hb2
    go_wp2_with fail
    refine (HI.out _).mono ?_
    rintro e w3 ⟨rfl, hb3⟩
    have hB3 := since_step (since_alloc hB2 _) hb3
    clear hb3
    go_wp2_with fail
    go_ret3
    exact ⟨rfl, hB3⟩
  · rw [show fV (z / (d : Int)) = 0 from if_neg h, show fE (z / (d : Int)) = 7 from if_neg h] at *
    rw [show sR z d = 0 from if_neg h]
    generalize z / (d : Int) = q at *
    generalize z % (d : Int) = r at *
    have HI := Lib.hid HI
    clear hin hq hd0 hd h e1 e2
    go_enter Try.func30, Try.ntmps30
    go_wp2_with fail
    refine (HM.out _).mono ?_
    rintro e w1 ⟨rfl, hb1⟩
    have hB1 := since_step (Below.refl w.heap.size w) hb1
    clear hb1
    go_wp2_with fail
    refine (HD.out _).mono ?_
    rintro e w2 ⟨rfl, hb2⟩
    have hB2 := since_step hB1 hb2
    clear hb2
    go_wp2_with fail
    refine (HI.out _).mono ?_
    rintro e w3 ⟨rfl, hb3⟩
    have hB3 := since_step (since_alloc hB2 _) hb3
    clear hb3
    go_wp2_with fail
    go_ret3
    exact ⟨rfl, hB3⟩
end Go.Proofs.Ytjhdccnkfnaapaa
