/-
  The walks of layer 2, eleventh part: Up, FixScales.
-/
import Derived.Test.YtidbiiomhhmniaaBig6
import Derived.Test.YtidbiiomhhmniaaFix6
import Derived.Test.YtidbiiomhhmniaaFix9
import Derived.Test.YtidbiiomhhmniaaFix7
namespace Go.Proofs.Ytidbiiomhhmniaa
open Go.ChangeShapes Go.WideShapes Go.ChangeAt Go.RowKit
set_option linter.unusedVariables false
set_option linter.unusedSimpArgs false

/-- the least number whose product is not below -/
def upZ (z : Int) (d : Nat) : Int := if 0 < z % (d : Int) then z / (d : Int) + 1 else z / (d : Int)

set_option maxRecDepth 100000 in
set_option maxHeartbeats 4000000 in
theorem rup_any (x : Int) (s : Bool) (A : Option Addr) (n c d : Nat) (w : World) (la : n ≤ 10000) (hd0 : 0 < d) (hd : d < 9223372036854775808) (hx : BigAt w s A n c x) :
    Calls Try.prog 27 #[.agg #[.bool s, .slice A n c], .int .u64 (d : Int)] w fun e w' => bigR w w' e (upZ x d) ∧ Below w.heap.size w w' := by
  have P1 : BB ((w.alloc (.cells #[.bool s, .slice A n c] 32)).alloc (.cells #[.bool false, .slice none 0 0] 32)) w.heap.size s A n c := (BB.new _ _ _ _ _ _).alloc _
  have P2 : BB ((w.alloc (.cells #[.bool s, .slice A n c] 32)).alloc (.cells #[.bool false, .slice none 0 0] 32)) (w.heap.size + 1) false none 0 0 := by
    have := BB.new (w.alloc (.cells #[.bool s, .slice A n c] 32)) false none 0 0 32
    rwa [World.size_alloc] at this
  have hB0 : Below w.heap.size w ((w.alloc (.cells #[.bool s, .slice A n c] 32)).alloc (.cells #[.bool false, .slice none 0 0] 32)) := since_alloc (since_alloc (Below.refl _ w) _) _
  have X0 := hx.below hB0
  have hcs := @cell_set
  have hr0 := Int.emod_nonneg x (show (d : Int) ≠ 0 by omega)
  have hqb : (x / (d : Int)).natAbs < 2 ^ n := by
    have h1 := hx.len.1 (Nat.le_refl n)
    have h2 := Int.natAbs_ediv_le_natAbs x (d : Int)
    omega
  have HQB := Lib.hid hqb
  clear hx hqb
  have HD := Lib.hid (fun w hx => bdiv_any x s A n c d w la hd0 hd hx)
  unfold upZ
  obtain ⟨q, hqe⟩ : ∃ q, q = x / (d : Int) := ⟨_, rfl⟩
  obtain ⟨r, hre⟩ : ∃ r, r = x % (d : Int) := ⟨_, rfl⟩
  rw [← hqe, ← hre] at HD ⊢
  rw [← hqe] at HQB
  rw [← hre] at hr0
  clear hqe hre
  go_enter Try.func27, Try.ntmps27
  go_upto_region 1 with fail
  generalize ((w.alloc (.cells #[.bool s, .slice A n c] 32)).alloc (.cells #[.bool false, .slice none 0 0] 32)) = W0 at *
  obtain ⟨p0, p1, p2, p3, p4⟩ := _root_.id P1
  have HX := Lib.hid X0
  go_wp2_with fail
  refine (HD.out _ HX.out).mono ?_
  rintro e w3 ⟨⟨s3, A3, n3, c3, rfl, hf3, X3⟩, hb3⟩
  have hB3 := since_step hB0 hb3
  have P23 := (P2.below hb3).alloc (.cells #[.bool s3, .slice A3 n3 c3] 32)
  have P33 := BB.new w3 s3 A3 n3 c3 32
  have X4 := X3.alloc (.cells #[.bool s3, .slice A3 n3 c3] 32)
  have hB4 := since_alloc hB3 (.cells #[.bool s3, .slice A3 n3 c3] 32)
  have n3l : n3 ≤ 10000 := Nat.le_trans (X3.len.2 HQB.out) la
  have hg := P2.1
  have hg3 := hb3.size
  have hww := hB0.size
  clear hb3 hB3 X3 p0 p1 p2 p3 p4 HD HX
  by_cases hr : 0 < r
  · have d1 : decide (0 < r) = true := decide_eq_true hr
    go_upto_region 2 with fail
    have hW3 := P33.1
    generalize w3.alloc (.cells #[.bool s3, .slice A3 n3 c3] 32) = W3 at *
    obtain ⟨t0, t1, t2, t3, t4⟩ := _root_.id P33
    go_upto_region 3 with fail
    go_region_with (first
      | (go_at_call 28; refine (nat_one _).mono ?_; rintro e w6 ⟨⟨A6, n6, c6, rfl, hf6, X6⟩, hb6⟩; have G6 := P33.drew.below hb6; have Q6 := P23.drew.below hb6; have Z6 := X4.drew.below hb6; have hB6 := since_step hB4.drew hb6; have n6l : n6 ≤ 1 := (X6.len (k := 1)).2 (by decide); obtain ⟨u0, u1, u2, u3, u4⟩ := _root_.id G6; clear hb6)
      | (go_at_call 30; refine (badd' (by omega) (by omega) Z6 X6).mono ?_; rintro e w7 ⟨⟨s7, A10, n7, d7, rfl, hf7, Z7⟩, hb7⟩; have Q7 := Q6.below hb7; have hB7 := since_step hB6 hb7; obtain ⟨q0, q1, q2, q3, q4⟩ := _root_.id Q7; clear hb7))
    all_goals
      have hw6 := Q6.1
      have hWs : w.heap.size ≤ w6.heap.size := hB6.size
      go_wp2_with fail
      refine bodyPost_ret (v := .agg #[.bool s7, .slice A10 n7 d7]) ?_ rfl ?_
      · simp [results, Try.results27, go_sem, cell_set, q1, q2]
      · refine ⟨⟨s7, A10, n7, d7, rfl, hf7.le hWs (Nat.le_refl _), ?_⟩, ?_⟩
        · (try rw [if_pos hr]); exact (Z7.far (fun b o hA h0 => by have := hf7 b o hA h0; simp; omega) _).far (fun b o hA h0 => by have := hf7 b o hA h0; simp; omega) _
        · repeat' (first | with_reducible exact hB7 | with_reducible refine Below.setCell ?_ ?_ _)
          all_goals first | (simp; done) | (simp; omega)
  · have d1 : decide (0 < r) = false := decide_eq_false hr
    have HR := Lib.hid hr
    go_upto_region 2 with fail
    generalize w3.alloc (.cells #[.bool s3, .slice A3 n3 c3] 32) = W3 at *
    obtain ⟨t0, t1, t2, t3, t4⟩ := _root_.id P33
    obtain ⟨q0, q1, q2, q3, q4⟩ := P23
    go_wp2_with fail
    refine bodyPost_ret (v := .agg #[.bool s3, .slice A3 n3 c3]) ?_ rfl ?_
    · simp [results, Try.results27, go_sem, cell_set, q1, q2]
    · refine ⟨⟨s3, A3, n3, c3, rfl, hf3.le hww (Nat.le_refl _), ?_⟩, ?_⟩
      · (try rw [if_neg (show ¬ 0 < r by omega)]); exact (X4.far (fun b o hA h0 => by have := hf3 b o hA h0; simp; omega) _).far (fun b o hA h0 => by have := hf3 b o hA h0; simp; omega) _
      · repeat' (first | with_reducible exact hB4 | with_reducible refine Below.setCell ?_ ?_ _)
        all_goals first | (simp; done) | (simp; omega)

theorem up_in128 {z : Int} (h : In128 z) (d : Nat) (hd : 0 < d) : In128 (upZ z d) := by
  have h0 := div_in128 h d hd
  unfold upZ
  split
  · rename_i hr
    have h1 := Int.emod_lt_of_pos z (show (0 : Int) < (d : Int) by omega)
    have h2 := Int.mul_ediv_add_emod z (d : Int)
    generalize z / (d : Int) = q at *
    generalize z % (d : Int) = r at *
    unfold In128 at *
    refine ⟨by omega, ?_⟩
    rcases Int.lt_or_le q 170141183460469231731687303715884105727 with h | h'
    · omega
    · exfalso
      have h3 : 2 * q ≤ (d : Int) * q := Int.mul_le_mul_of_nonneg_right (by omega) (by omega)
      omega
  · exact h0

set_option maxHeartbeats 1000000 in
theorem fup_zero (a n : Int) (ha : In64 a) (hn : In64 n) (w : World) :
    Calls Try.prog 23 #[.int .i64 a, .int .i64 n, .int .i64 0] w fun e w' => e = .returned (.tuple #[.int .i64 0, .int .i64 8]) ∧ Below w.heap.size w w' := by
  have HM := Lib.hid (fun w => wmul_any a n ha hn w)
  clear ha hn
  go_enter Try.func23, Try.ntmps23
  go_wp2_with fail
  refine (HM.out _).mono ?_
  rintro e w1 ⟨rfl, hb1⟩
  have hB1 := since_step (Below.refl w.heap.size w) hb1
  clear hb1
  go_wp2_with fail
  refine (wdiv_zero _ _ _).mono ?_
  rintro e w2 ⟨rfl, hb2⟩
  have hB2 := since_step hB1 hb2
  clear hb2
  go_wp2_with fail
  go_ret2
  exact ⟨rfl, since_alloc hB2 _⟩

set_option maxHeartbeats 1000000 in
theorem fup_neg (a n d : Int) (ha : In64 a) (hn : In64 n) (hd : d < 0) (w : World) :
    Calls Try.prog 23 #[.int .i64 a, .int .i64 n, .int .i64 d] w fun e w' => e = .returned (.tuple #[.int .i64 0, .int .i64 2]) ∧ Below w.heap.size w w' := by
  have HM := Lib.hid (fun w => wmul_any a n ha hn w)
  have HD := Lib.hid (fun h l w => wdiv_neg h l d hd w)
  clear ha hn hd
  go_enter Try.func23, Try.ntmps23
  go_wp2_with fail
  refine (HM.out _).mono ?_
  rintro e w1 ⟨rfl, hb1⟩
  have hB1 := since_step (Below.refl w.heap.size w) hb1
  clear hb1
  go_wp2_with fail
  refine (HD.out _ _ _).mono ?_
  rintro e w2 ⟨rfl, hb2⟩
  have hB2 := since_step hB1 hb2
  clear hb2
  go_wp2_with fail
  go_ret2
  exact ⟨rfl, since_alloc hB2 _⟩

set_option maxHeartbeats 4000000 in
theorem fup_pos (a n : Int) (d : Nat) (ha : In64 a) (hn : In64 n) (hd0 : 0 < d) (hd : d < 9223372036854775808) (w : World) :
    Calls Try.prog 23 #[.int .i64 a, .int .i64 n, .int .i64 (d : Int)] w fun e w' =>
      e = .returned (.tuple #[.int .i64 (fV (upZ (a * n) d)), .int .i64 (fE (upZ (a * n) d))]) ∧ Below w.heap.size w w' := by
  have HM := Lib.hid (fun w => wmul_any a n ha hn w)
  have hin := mul_in128 ha hn
  have hq := div_in128 hin d hd0
  have hup := up_in128 hin d hd0
  clear ha hn
  generalize a * n = z at *
  have HD := Lib.hid (fun w => wdiv_pos z d hin hd0 hd w)
  have HI := Lib.hid (fun w => int_any (upZ z d) hup w)
  have hcs := @cell_set
  have hup2 := hup
  unfold upZ at hup2
  by_cases hr : 0 < z % (d : Int)
  · have hU : upZ z d = z / (d : Int) + 1 := if_pos hr
    rw [hU] at HI ⊢
    rw [if_pos hr] at hup2
    have d1 : decide (0 < z % (d : Int)) = true := decide_eq_true hr
    clear hU hup hd hd0 hin
    generalize z / (d : Int) = q at *
    generalize z % (d : Int) = r at *
    have HE := Lib.hid (wideE_yes hup2)
    go_enter Try.func23, Try.ntmps23
    go_wp2_with fail
    refine (HM.out _).mono ?_
    rintro e w1 ⟨rfl, hb1⟩
    have hB1 := since_step (Below.refl w.heap.size w) hb1
    clear hb1
    go_wp2_with fail
    refine (HD.out _).mono ?_
    rintro e w2 ⟨rfl, hb2⟩
    have hB2 := since_alloc (since_step hB1 hb2) (.cells #[.int .i64 (hiN q), .int .u64 (loN q)] 44)
    have G := T2.new w2 (hiN q) (loN q) 44
    have hws : w.heap.size ≤ w2.heap.size := (since_step hB1 hb2).size
    clear hb2 hB1 HM HD
    go_upto_region 5 with fail
    generalize hWW : w2.alloc (.cells #[.int .i64 (hiN q), .int .u64 (loN q)] 44) = W at *
    clear hWW
    obtain ⟨t0, t1, t2, t3, t4⟩ := _root_.id G
    go_region_with (first
      | (go_at_call 34; refine (wof_any 1 (by decide) _).mono ?_; rintro e w5 ⟨rfl, hb5⟩; have G5 := G.drew.below hb5; have hB5 := since_step hB2.drew hb5; obtain ⟨a0, a1, a2, a3, a4⟩ := _root_.id G5; clear hb5)
      | (go_at_call 36; refine (wadd_any _ 2 [q, 1] _ (by simp) (by intro z hz; simp at hz; rcases hz with rfl | rfl; exact hq; decide) (Sl.new_ _ _ _)).mono ?_; rintro e w6 ⟨rfl, hb6⟩; have G6 := (G5.alloc _).below hb6; have hB6 := since_step (since_alloc hB5 _) hb6; obtain ⟨c0, c1, c2, c3, c4⟩ := _root_.id G6; rw [show [q, 1].sum = q + 1 from by simp, HE.out]; clear hb6))
    all_goals
      have G7 := G6.set2 (hiN (q + 1)) (loN (q + 1))
      have hB7 : Below w.heap.size w ((w6.setCell ⟨w2.heap.size, 0, none⟩ (.int .i64 (hiN (q + 1)))).setCell ⟨w2.heap.size, 1, none⟩ (.int .u64 (loN (q + 1)))) :=
        (hB6.setCell (p := ⟨w2.heap.size, 0, none⟩) (by simp; omega) _).setCell (p := ⟨w2.heap.size, 1, none⟩) (by simp; omega) _
      generalize (w6.setCell ⟨w2.heap.size, 0, none⟩ (.int .i64 (hiN (q + 1)))).setCell ⟨w2.heap.size, 1, none⟩ (.int .u64 (loN (q + 1))) = W7 at *
      clear t0 t1 t2 t3 t4 a0 a1 a2 a3 a4 c0 c1 c2 c3 c4 G G5 G6 hB6
      obtain ⟨t0, t1, t2, t3, t4⟩ := _root_.id G7
      go_wp2_with fail
      refine (HI.out _).mono ?_
      rintro e w8 ⟨rfl, hb8⟩
      have hB8 := since_step hB7 hb8
      clear hb8
      go_wp2_with fail
      go_ret2
      exact ⟨rfl, hB8⟩
  · have hU : upZ z d = z / (d : Int) := if_neg hr
    rw [hU] at HI ⊢
    have d1 : decide (0 < z % (d : Int)) = false := decide_eq_false hr
    clear hU hup hd hd0 hin hup2
    generalize z / (d : Int) = q at *
    generalize z % (d : Int) = r at *
    go_enter Try.func23, Try.ntmps23
    go_wp2_with fail
    refine (HM.out _).mono ?_
    rintro e w1 ⟨rfl, hb1⟩
    have hB1 := since_step (Below.refl w.heap.size w) hb1
    clear hb1
    go_wp2_with fail
    refine (HD.out _).mono ?_
    rintro e w2 ⟨rfl, hb2⟩
    have hB2 := since_step hB1 hb2
    clear hb2
    go_wp2_with fail
    refine (HI.out _).mono ?_
    rintro e w3 ⟨rfl, hb3⟩
    have hB3 := since_step (since_alloc hB2 _) hb3
    clear hb3
    go_wp2_with fail
    go_ret2
    exact ⟨rfl, hB3⟩
end Go.Proofs.Ytidbiiomhhmniaa
