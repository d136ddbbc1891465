/-
  The walks of layer 2, eleventh part: Up, FixScales.
-/
import Derived.Test.YtjhdccnkfnaapaaBig6
import Derived.Test.YtjhdccnkfnaapaaFix6
import Derived.Test.YtjhdccnkfnaapaaFix9
import Derived.Test.YtjhdccnkfnaapaaFix7
namespace Go.Proofs.Ytjhdccnkfnaapaa
open Go.ChangeShapes Go.WideShapes Go.ChangeAt Go.RowKit
set_option linter.unusedVariables false
set_option linter.unusedSimpArgs false

/-- the least number whose product is not below -/
def upZ (z : Int) (d : Nat) : Int := if 0 < z % (d : Int) then z / (d : Int) + 1 else z / (d : Int)


theorem up_in128 {z : Int} (h : In128 z) (d : Nat) (hd : 0 < d) : In128 (upZ z d) := by
  have h0 := div_in128 h d hd
  unfold upZ
  split
  · rename_i hr
    have h1 := Int.emod_lt_of_pos z (show (0 : Int) < (d : Int) by omega)
    have h2 := Int.mul_ediv_add_emod z (d : Int)
    generalize z / (d : Int) = q at *
    generalize z % (d : Int) = r at *
    unfold In128 at *
    refine ⟨by omega, ?_⟩
    rcases Int.lt_or_le q 170141183460469231731687303715884105727 with h | h'
    · omega
    · exfalso
      have h3 : 2 * q ≤ (d : Int) * q := Int.mul_le_mul_of_nonneg_right (by omega) (by omega)
      omega
  · exact h0

set_option maxHeartbeats 1000000 in
theorem fup_zero (a n : Int) (ha : In64 a) (hn : In64 n) (w : World) :
    Calls Try.prog 31 #[.int .i64 a, .int .i64 n, .int .i64 0] w fun e w' => e = .returned (.tuple #[.int .i64 0, .int .i64 8]) ∧ Below w.heap.size w w' := by
  have HM := Lib.hid (fun w => wmul_any a n ha hn w)
  clear ha hn
  go_enter Try.func31, Try.ntmps31
  go_wp2_with fail
  refine (HM.out _).mono ?_
  rintro e w1 ⟨rfl, hb1⟩
  have hB1 := since_step (Below.refl w.heap.size w) hb1
  clear hb1
  go_wp2_with fail
  refine (wdiv_zero _ _ _).mono ?_
  rintro e w2 ⟨rfl, hb2⟩
  have hB2 := since_step hB1 hb2
  clear hb2
  go_wp2_with fail
  go_ret2
  exact ⟨rfl, since_alloc hB2 _⟩

set_option maxHeartbeats 1000000 in
theorem fup_neg (a n d : Int) (ha : In64 a) (hn : In64 n) (hd : d < 0) (w : World) :
    Calls Try.prog 31 #[.int .i64 a, .int .i64 n, .int .i64 d] w fun e w' => e = .returned (.tuple #[.int .i64 0, .int .i64 2]) ∧ Below w.heap.size w w' := by
  have HM := Lib.hid (fun w => wmul_any a n ha hn w)
  have HD := Lib.hid (fun h l w => wdiv_neg h l d hd w)
  clear ha hn hd
  go_enter Try.func31, Try.ntmps31
  go_wp2_with fail
  refine (HM.out _).mono ?_
  rintro e w1 ⟨rfl, hb1⟩
  have hB1 := since_step (Below.refl w.heap.size w) hb1
  clear hb1
  go_wp2_with fail
  refine (HD.out _ _ _).mono ?_
  rintro e w2 ⟨rfl, hb2⟩
  have hB2 := since_step hB1 hb2
  clear hb2
  go_wp2_with fail
  go_ret2
  exact ⟨rfl, since_alloc hB2 _⟩

set_option maxHeartbeats 4000000 in
theorem fup_pos (a n : Int) (d : Nat) (ha : In64 a) (hn : In64 n) (hd0 : 0 < d) (hd : d < 9223372036854775808) (w : World) :
    Calls Try.prog 31 #[.int .i64 a, .int .i64 n, .int .i64 (d : Int)] w fun e w' =>
      e = .returned (.tuple #[.int .i64 (fV (upZ (a * n) d)), .int .i64 (fE (upZ (a * n) d))]) ∧ Below w.heap.size w w' := by
  have HM := Lib.hid (fun w => wmul_any a n ha hn w)
  have hin := mul_in128 ha hn
  have hq := div_in128 hin d hd0
  have hup := up_in128 hin d hd0
  clear ha hn
  generalize a * n = z at *
  have HD := Lib.hid (fun w => wdiv_pos z d hin hd0 hd w)
  have HI := Lib.hid (fun w => int_any (upZ z d) hup w)
  have hcs := @cell_set
  have hup2 := hup
  unfold upZ at hup2
  by_cases hr : 0 < z % (d : Int)
  · have hU : upZ z d = z / (d : Int) + 1 := if_pos hr
    rw [hU] at HI ⊢
    rw [if_pos hr] at hup2
    have d1 : decide (0 < z % (d : Int)) = true := decide_eq_true hr
    clear hU hup hd hd0 hin
    generalize z / (d : Int) = q at *
    generalize z % (d : Int) = r at *
    have HE := Lib.hid (wideE_yes hup2)
    go_enter Try.func31, Try.ntmps31
    go_wp2_with fail
    refine (HM.out _).mono ?_
    rintro e w1 ⟨rfl, hb1⟩
    have hB1 := since_step (Below.refl w.heap.size w) hb1
    clear hb1
    go_wp2_with fail
    refine (HD.out _).mono ?_
    rintro e w2 ⟨rfl, hb2⟩
    have hB2 := since_alloc (since_step hB1 hb2) (.cells #[.int .i64 (hiN q), .int .u64 (loN q)] 52)
    have G := T2.new w2 (hiN q) (loN q) 52
    have hws : w.heap.size ≤ w2.heap.size := (since_step hB1 hb2).size
    clear hb2 hB1 HM HD
    go_upto_region 5 with fail
    generalize hWW : w2.alloc (.cells #[.int .i64 (hiN q), .int .u64 (loN q)] 52) = W at *
    clear hWW
    obtain ⟨t0, t1, t2, t3, t4⟩ := _root_.id G
    go_region_with (first
      | (go_at_call 35; refine (wof_any 1 (by decide) _).mono ?_; rintro e w5 ⟨rfl, hb5⟩; have G5 := G.drew.below hb5; have hB5 := since_step hB2.drew hb5; obtain ⟨a0, a1, a2, a3, a4⟩ := _root_.id G5; clear hb5)
      | (go_at_call 37; refine (wadd_any _ 2 [q, 1] _ (by simp) (by intro z hz; simp at hz; rcases hz with rfl | rfl; exact hq; decide) (Sl.new_ _ _ _)).mono ?_; rintro e w6 ⟨rfl, hb6⟩; have G6 := (G5.alloc _).below hb6; have hB6 := since_step (since_alloc hB5 _) hb6; obtain ⟨c0, c1, c2, c3, c4⟩ := _root_.id G6; rw [show [q, 1].sum = q + 1 from by simp, HE.out]; clear hb6))
    all_goals
      have G7 := G6.set2 (hiN (q + 1)) (loN (q + 1))
      have hB7 : Below w.heap.size w ((w6.setCell ⟨w2.heap.size, 0, none⟩ (.int .i64 (hiN (q + 1)))).setCell ⟨w2.heap.size, 1, none⟩ (.int .u64 (loN (q + 1)))) :=
        (hB6.setCell (p := ⟨w2.heap.size, 0, none⟩) (by simp; omega) _).setCell (p := ⟨w2.heap.size, 1, none⟩) (by simp; omega) _
      generalize (w6.setCell ⟨w2.heap.size, 0, none⟩ (.int .i64 (hiN (q + 1)))).setCell ⟨w2.heap.size, 1, none⟩ (.int .u64 (loN (q + 1))) = W7 at *
      clear t0 t1 t2 t3 t4 a0 a1 a2 a3 a4 c0 c1 c2 c3 c4 G G5 G6 hB6
      obtain ⟨t0, t1, t2, t3, t4⟩ := _root_.id G7
      go_wp2_with fail
      refine (HI.out _).mono ?_
      rintro e w8 ⟨rfl, hb8⟩
      have hB8 := since_step hB7 hb8
      clear hb8
      go_wp2_with fail
      go_ret2
      exact ⟨rfl, hB8⟩
  · have hU : upZ z d = z / (d : Int) := if_neg hr
    rw [hU] at HI ⊢
    have d1 : decide (0 < z % (d : Int)) = false := decide_eq_false hr
    clear hU hup hd hd0 hin hup2
    generalize z / (d : Int) = q at *
    generalize z % (d : Int) = r at *
    go_enter Try.func31, Try.ntmps31
    go_wp2_with fail
    refine (HM.out _).mono ?_
    rintro e w1 ⟨rfl, hb1⟩
    have hB1 := since_step (Below.refl w.heap.size w) hb1
    clear hb1
    go_wp2_with fail
    refine (HD.out _).mono ?_
    rintro e w2 ⟨rfl, hb2⟩
    have hB2 := since_step hB1 hb2
    clear hb2
    go_wp2_with fail
    refine (HI.out _).mono ?_
    rintro e w3 ⟨rfl, hb3⟩
    have hB3 := since_step (since_alloc hB2 _) hb3
    clear hb3
    go_wp2_with fail
    go_ret2
    exact ⟨rfl, hB3⟩
end Go.Proofs.Ytjhdccnkfnaapaa
