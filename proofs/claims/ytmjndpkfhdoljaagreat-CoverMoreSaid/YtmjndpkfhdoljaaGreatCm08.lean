import Derived.Test.YtmjndpkfhdoljaaGreatCm07
import Derived.Test.YtmjndpkfhdoljaaGreatCm01
set_option maxHeartbeats 16000000
set_option maxRecDepth 100000
set_option linter.unusedVariables false
set_option linter.unusedSimpArgs false
namespace Go.Proofs.YtmjndpkfhdoljaaGreat
open Go.ChangeShapes Go.WideShapes Go.ChangeAt Go.RowKit
section
theorem mul64_run (x y : Nat) (hx : x < 18446744073709551616) (hy : y < 18446744073709551616) :
    ∃ h l : Nat, (∀ w, Calls Tryz.prog 124 #[.int .u64 x, .int .u64 y] w fun e w' => e = .returned (.tuple #[.int .u64 (h : Int), .int .u64 (l : Int)]) ∧ w = w') ∧ x * y = h * 18446744073709551616 + l ∧ l < 18446744073709551616 := by
  refine ⟨x * y / 18446744073709551616, x * y % 18446744073709551616, fun w => ?_, by omega, by omega⟩
  exact (Go.Proofs.Tryz.bits_Mul64 x y hx hy w).mono fun e w' ⟨he, hw⟩ => ⟨he, hw.symm⟩
def szH (x : Int) : Nat := x.natAbs / 18446744073709551616
def szL (x : Int) : Nat := x.natAbs % 18446744073709551616
theorem size_nat (x : Int) (hx : In128 x) (w : World) :
    Calls Tryz.prog 121 #[.agg #[.int .i64 (hiN x), .int .u64 (loN x)]] w fun e w' =>
      e = .returned (.tuple #[.int .u64 (szH x : Int), .int .u64 (szL x : Int)]) ∧ Below w.heap.size w w' := by
  refine (size_any x hx w).mono fun e w' ⟨he, hw⟩ => ⟨?_, hw⟩
  have ha : absI x = (x.natAbs : Int) := by unfold absI; split <;> omega
  rw [he, ha, uhi]
  unfold szH szL loN
  unfold In128 at hx
  have e1 : (x.natAbs : Int) / 18446744073709551616 % 18446744073709551616 = ((x.natAbs / 18446744073709551616 : Nat) : Int) := by omega
  have e2 : (x.natAbs : Int) % 18446744073709551616 = ((x.natAbs % 18446744073709551616 : Nat) : Int) := by omega
  rw [e1, e2]
theorem times_parts (X K H L P Q m c t : Int) (low mid carry : Int) (hX : X = H * 18446744073709551616 + L) (hP : P = H * K) (hQ : Q = L * K)
    (q : Q = carry * 18446744073709551616 + low) (ql : 0 ≤ low ∧ low < 18446744073709551616) (p : P = t * 18446744073709551616 + mid) (pl : 0 ≤ mid ∧ mid < 18446744073709551616)
    (hm : mid + carry + 0 = m + 18446744073709551616 * c) (ml : 0 ≤ m ∧ m < 18446744073709551616) :
    loN (X * K) = low ∧ hiN (X * K) = IntKind.i64.wrap m ∧ topN (X * K) = IntKind.i64.wrap (IntKind.u64.wrap (t + c)) := by
  have e : X * K = P * 18446744073709551616 + Q := by rw [hX, hP, hQ, Int.add_mul]; congr 1; rw [Int.mul_assoc, Int.mul_comm 18446744073709551616 K, ← Int.mul_assoc]
  rw [e]
  clear e hX hP hQ
  have e2 : P * 18446744073709551616 + Q = (t + c) * 340282366920938463463374607431768211456 + m * 18446744073709551616 + low := by omega
  rw [e2]
  clear e2 q p
  generalize t + c = T
  unfold loN hiN topN
  refine ⟨by omega, ?_, ?_⟩
  · rw [IntKind.wrap_i64, IntKind.wrap_i64]; omega
  · rw [IntKind.wrap_i64, IntKind.wrap_i64, IntKind.wrap_u64]; omega
theorem mul_bound (x n : Int) (hx : In128 x) (hn : In64 n) : In192 (x * n) := by
  unfold In128 at hx
  unfold In64 at hn
  have h : (x * n).natAbs ≤ 170141183460469231731687303715884105728 * 9223372036854775808 := by
    rw [Int.natAbs_mul]
    exact Nat.mul_le_mul (by omega) (by omega)
  unfold In192
  omega
theorem signs (x n : Int) : (if (decide (x < 0)) = (decide (n < 0)) then ((x.natAbs : Int) * (n.natAbs : Int)) else -((x.natAbs : Int) * (n.natAbs : Int))) = x * n := by
  by_cases h1 : x < 0 <;> by_cases h2 : n < 0
  · have e1 : (x.natAbs : Int) = -x := by omega
    have e2 : (n.natAbs : Int) = -n := by omega
    rw [if_pos (by simp [h1, h2]), e1, e2, Int.neg_mul_neg]
  · have e1 : (x.natAbs : Int) = -x := by omega
    have e2 : (n.natAbs : Int) = n := by omega
    rw [if_neg (by simp [h1, h2]), e1, e2, Int.neg_mul, Int.neg_neg]
  · have e1 : (x.natAbs : Int) = x := by omega
    have e2 : (n.natAbs : Int) = -n := by omega
    rw [if_neg (by simp [h1, h2]), e1, e2, Int.mul_neg, Int.neg_neg]
  · have e1 : (x.natAbs : Int) = x := by omega
    have e2 : (n.natAbs : Int) = n := by omega
    rw [if_pos (by simp [h1, h2]), e1, e2]
def eH (z : Int) : Int := if In128 z then hiN z else 0
def eL (z : Int) : Int := if In128 z then loN z else 0
def eE (z : Int) : Int := if In128 z then 0 else 7
theorem wideE_form (z : Int) : wideE z = .tuple #[.agg #[.int .i64 (eH z), .int .u64 (eL z)], .int .i64 (eE z)] := by
  unfold wideE eH eL eE
  split <;> rfl
theorem narrow_any (z : Int) (h : In192 z) (w : World) :
    Calls Tryz.prog 104 #[.agg #[.int .i64 (hiN z), .int .u64 (loN z), .int .i64 (topN z)]] w fun e w' => e = .returned (.tuple #[.agg #[.int .i64 (eH z), .int .u64 (eL z)], .int .i64 (eE z)]) ∧ Below w.heap.size w w' := by
  by_cases hin : In128 z
  · refine (narrow_yes z hin w).mono fun e w' ⟨he, hw⟩ => ⟨?_, hw⟩
    rw [he, ← wideE_form, wideE_yes hin]
  · refine (narrow_no z h hin w).mono fun e w' ⟨he, hw⟩ => ⟨?_, hw⟩
    rw [he, ← wideE_form, wideE_no hin]
theorem wtimes_any (x n : Int) (hx : In128 x) (hn : In64 n) (w : World) :
    Calls Tryz.prog 111 #[.agg #[.int .i64 (hiN x), .int .u64 (loN x)], .int .i64 n] w fun e w' => e = .returned (wideE (x * n)) ∧ Below w.heap.size w w' := by
  have hn128 := (of_in n hn).2.2
  have lX : szL x < 18446744073709551616 := by unfold szL; omega
  have lH : szH x < 18446744073709551616 := by unfold szH; unfold In128 at hx; omega
  have lK : szL n < 18446744073709551616 := by unfold szL; omega
  obtain ⟨carry, low, M1, p1, p1l⟩ := mul64_run (szL x) (szL n) lX lK
  obtain ⟨top, mid, M2, p2, p2l⟩ := mul64_run (szH x) (szL n) lH lK
  have hcl : carry < 18446744073709551616 := by
    have : szL x * szL n < 18446744073709551616 * 18446744073709551616 := by
      rcases Nat.eq_zero_or_pos (szL n) with h | h
      · rw [h]; simp
      · exact Nat.lt_of_lt_of_le (Nat.mul_lt_mul_of_pos_right lX h) (Nat.mul_le_mul_left _ (by omega))
    omega
  obtain ⟨m, c, r1, e1, b1, c1⟩ := add64_run (mid : Int) (carry : Int) 0 ⟨by omega, by omega⟩ ⟨by omega, by omega⟩ ⟨by omega, by omega⟩
  have hK : (szL n : Int) = (n.natAbs : Int) := by unfold szL; unfold In64 at hn; omega
  have parts := times_parts (x.natAbs : Int) (szL n) (szH x) (szL x) _ _ m c top low mid carry (by unfold szH szL; omega) rfl rfl
    (by have h : ((szL x * szL n : Nat) : Int) = ((carry * 18446744073709551616 + low : Nat) : Int) := by rw [p1]
        simpa using h) ⟨by omega, by omega⟩
    (by have h : ((szH x * szL n : Nat) : Int) = ((top * 18446744073709551616 + mid : Nat) : Int) := by rw [p2]
        simpa using h) ⟨by omega, by omega⟩ e1 b1
  rw [hK] at parts
  generalize hY : (x.natAbs : Int) * (n.natAbs : Int) = Y at parts
  have hsg := signs x n
  rw [hY] at hsg
  have h192 := mul_bound x n hx hn
  have Hs := Lib.hid hsg
  have HP := Lib.hid (show (low : Int) = loN Y ∧ wrap64 m = hiN Y ∧ wrap64 (IntKind.u64.wrap ((top : Int) + c)) = topN Y from ⟨parts.1.symm, by rw [wrap64_eq]; exact parts.2.1.symm, by rw [wrap64_eq]; exact parts.2.2.symm⟩)
  have hM1 := Lib.hid M1
  have hM2 := Lib.hid M2
  have hlt := hi_neg hx
  clear p1 p1l p2 p2l hcl e1 b1 hK hY parts hsg M1 M2 lX lH lK
  have HE := Lib.hid (wideE_form (x * n))
  go_enter Tryz.func111, Tryz.ntmps111
  go_wp2_with fail
  refine (size_nat x hx _).mono ?_
  rintro e w1 ⟨rfl, hb1⟩
  have A1 := ((T2.new w (hiN x) (loN x) 123).alloc (.cells #[.int .i64 0, .int .u64 0] 123)).below hb1
  have A2 : T2 w1 (w.heap.size + 1) 0 0 := by
    have := (T2.new (w.alloc (.cells #[.int .i64 (hiN x), .int .u64 (loN x)] 123)) 0 0 123).below hb1
    rwa [World.size_alloc] at this
  have hB1 := since_step (since_alloc (since_alloc (Below.refl _ _) _) _) hb1
  clear hb1
  go_wp2_with fail
  refine (wof_any n hn _).mono ?_
  rintro e w2 ⟨rfl, hb2⟩
  have B1 := A1.below hb2
  have B2 := A2.below hb2
  have hB2 := since_step hB1 hb2
  clear hb2 A1 A2 hB1
  go_wp2_with fail
  refine (size_nat n hn128 _).mono ?_
  rintro e w3 ⟨rfl, hb3⟩
  have C1 := B1.below hb3
  have C2 := B2.below hb3
  have hB3 := since_step hB2 hb3
  clear hb3 B1 B2 hB2
  go_wp2_with fail
  refine (hM1.out _).mono ?_
  rintro e w' ⟨rfl, rfl⟩
  go_wp2_with fail
  refine (hM2.out _).mono ?_
  rintro e w' ⟨rfl, rfl⟩
  clear hM1 hM2 hx hn hn128
  obtain ⟨p0, p1, p2, p3, p4⟩ := id C1
  have g12 : w.heap.size + 1 < w3.heap.size := C2.1
  by_cases h1 : x < 0
  · have g1 : hiN x < 0 := hlt.2 h1
    by_cases h2 : n < 0
    · have hY : Y = x * n := by rw [← Hs.out, if_pos (by simp [h1, h2])]
      subst hY
      clear Hs h1 hlt
      go_wp2_with fail
      rw [HP.out.1, HP.out.2.1, HP.out.2.2]
      refine (narrow_any (x * n) h192 _).mono ?_
      rintro e w4 ⟨rfl, hb4⟩
      have D2 := (C2.alloc (.cells #[.int .i64 (hiN (x * n)), .int .u64 (loN (x * n)), .int .i64 (topN (x * n))] 166)).below hb4
      have hB4 := since_step (since_alloc hB3 (.cells #[.int .i64 (hiN (x * n)), .int .u64 (loN (x * n)), .int .i64 (topN (x * n))] 166)) hb4
      obtain ⟨q0, q1, q2, q3, q4⟩ := id D2
      have hcs := @cell_set
      clear hb4 C1 C2 p0 p1 p2 p3 p4 hB3
      go_wp2
      refine bodyPost_ret (v := .tuple #[.agg #[.int .i64 (eH (x * n)), .int .u64 (eL (x * n))], .int .i64 (eE (x * n))]) ?_ rfl ?_
      · simp [results, Tryz.results111, go_sem, cell_set, q1, q2]
      · refine ⟨by rw [HE.out], ?_⟩
        repeat' (first | with_reducible exact hB4 | with_reducible refine Below.setCell ?_ ?_ _)
        all_goals first | (simp; done) | (simp; omega)
    · have hY : -Y = x * n := by rw [← Hs.out, if_neg (by simp [h1, h2])]
      have hd : (!decide (n < 0)) = true := by simp; omega
      clear Hs h1 hlt
      go_wp2_with fail
      rw [HP.out.1, HP.out.2.1, HP.out.2.2]
      refine (minus_any Y _).mono ?_
      rintro e w4 ⟨rfl, hb4⟩
      have D2 := (C2.alloc (.cells #[.int .i64 (hiN Y), .int .u64 (loN Y), .int .i64 (topN Y)] 166)).below hb4
      have D3 := (T3.new w3 Y 166).below hb4
      have hB4 := since_step (since_alloc hB3 (.cells #[.int .i64 (hiN Y), .int .u64 (loN Y), .int .i64 (topN Y)] 166)) hb4
      obtain ⟨q0, q1, q2, q3, q4⟩ := id D2
      obtain ⟨u0, u1, u2, u3, u4, u5, u6⟩ := id D3
      have E2 := ((D2.far (p := ⟨w3.heap.size, 0, none⟩) (by simp; omega) (.int .i64 (hiN (x * n)))).far (p := ⟨w3.heap.size, 1, none⟩) (by simp; omega) (.int .u64 (loN (x * n)))).far (p := ⟨w3.heap.size, 2, none⟩) (by simp; omega) (.int .i64 (topN (x * n)))
      have hC4 : Below w.heap.size w (((w4.setCell ⟨w3.heap.size, 0, none⟩ (.int .i64 (hiN (x * n)))).setCell ⟨w3.heap.size, 1, none⟩ (.int .u64 (loN (x * n)))).setCell ⟨w3.heap.size, 2, none⟩ (.int .i64 (topN (x * n)))) :=
        ((hB4.setCell (p := ⟨w3.heap.size, 0, none⟩) (by simp; omega) _).setCell (p := ⟨w3.heap.size, 1, none⟩) (by simp; omega) _).setCell (p := ⟨w3.heap.size, 2, none⟩) (by simp; omega) _
      have hcs := @cell_set
      unfold sumV
      rw [hY]
      clear hb4 C1 C2 p0 p1 p2 p3 p4 hB3 q0 q1 q2 q3 q4 hB4
      go_wp2_with fail
      refine (narrow_any (x * n) h192 _).mono ?_
      rintro e w5 ⟨rfl, hb5⟩
      have F2 := E2.below hb5
      have hB5 := since_step hC4 hb5
      obtain ⟨q0, q1, q2, q3, q4⟩ := id F2
      clear hb5
      go_wp2
      refine bodyPost_ret (v := .tuple #[.agg #[.int .i64 (eH (x * n)), .int .u64 (eL (x * n))], .int .i64 (eE (x * n))]) ?_ rfl ?_
      · simp [results, Tryz.results111, go_sem, cell_set, q1, q2]
      · refine ⟨by rw [HE.out], ?_⟩
        repeat' (first | with_reducible exact hB5 | with_reducible refine Below.setCell ?_ ?_ _)
        all_goals first | (simp; done) | (simp; omega)
  · have g1 : ¬ hiN x < 0 := fun h => h1 (hlt.1 h)
    by_cases h2 : n < 0
    · have hY : -Y = x * n := by rw [← Hs.out, if_neg (by simp [h1, h2])]
      have hd : decide (n < 0) = true := by simp; omega
      have hd2 : decide (hiN x < 0) = false := by simp; omega
      clear Hs h1 hlt
      go_wp2_with fail
      rw [HP.out.1, HP.out.2.1, HP.out.2.2]
      refine (minus_any Y _).mono ?_
      rintro e w4 ⟨rfl, hb4⟩
      have D2 := (C2.alloc (.cells #[.int .i64 (hiN Y), .int .u64 (loN Y), .int .i64 (topN Y)] 166)).below hb4
      have D3 := (T3.new w3 Y 166).below hb4
      have hB4 := since_step (since_alloc hB3 (.cells #[.int .i64 (hiN Y), .int .u64 (loN Y), .int .i64 (topN Y)] 166)) hb4
      obtain ⟨q0, q1, q2, q3, q4⟩ := id D2
      obtain ⟨u0, u1, u2, u3, u4, u5, u6⟩ := id D3
      have E2 := ((D2.far (p := ⟨w3.heap.size, 0, none⟩) (by simp; omega) (.int .i64 (hiN (x * n)))).far (p := ⟨w3.heap.size, 1, none⟩) (by simp; omega) (.int .u64 (loN (x * n)))).far (p := ⟨w3.heap.size, 2, none⟩) (by simp; omega) (.int .i64 (topN (x * n)))
      have hC4 : Below w.heap.size w (((w4.setCell ⟨w3.heap.size, 0, none⟩ (.int .i64 (hiN (x * n)))).setCell ⟨w3.heap.size, 1, none⟩ (.int .u64 (loN (x * n)))).setCell ⟨w3.heap.size, 2, none⟩ (.int .i64 (topN (x * n)))) :=
        ((hB4.setCell (p := ⟨w3.heap.size, 0, none⟩) (by simp; omega) _).setCell (p := ⟨w3.heap.size, 1, none⟩) (by simp; omega) _).setCell (p := ⟨w3.heap.size, 2, none⟩) (by simp; omega) _
      have hcs := @cell_set
      unfold sumV
      rw [hY]
      clear hb4 C1 C2 p0 p1 p2 p3 p4 hB3 q0 q1 q2 q3 q4 hB4
      go_wp2_with fail
      refine (narrow_any (x * n) h192 _).mono ?_
      rintro e w5 ⟨rfl, hb5⟩
      have F2 := E2.below hb5
      have hB5 := since_step hC4 hb5
      obtain ⟨q0, q1, q2, q3, q4⟩ := id F2
      clear hb5
      go_wp2
      refine bodyPost_ret (v := .tuple #[.agg #[.int .i64 (eH (x * n)), .int .u64 (eL (x * n))], .int .i64 (eE (x * n))]) ?_ rfl ?_
      · simp [results, Tryz.results111, go_sem, cell_set, q1, q2]
      · refine ⟨by rw [HE.out], ?_⟩
        repeat' (first | with_reducible exact hB5 | with_reducible refine Below.setCell ?_ ?_ _)
        all_goals first | (simp; done) | (simp; omega)
    · have hY : Y = x * n := by rw [← Hs.out, if_pos (by simp [h1, h2])]
      subst hY
      have hd : decide (n < 0) = false := by simp; omega
      have hd2 : decide (hiN x < 0) = false := by simp; omega
      clear Hs h1 hlt
      go_wp2_with fail
      rw [HP.out.1, HP.out.2.1, HP.out.2.2]
      refine (narrow_any (x * n) h192 _).mono ?_
      rintro e w4 ⟨rfl, hb4⟩
      have D2 := (C2.alloc (.cells #[.int .i64 (hiN (x * n)), .int .u64 (loN (x * n)), .int .i64 (topN (x * n))] 166)).below hb4
      have hB4 := since_step (since_alloc hB3 (.cells #[.int .i64 (hiN (x * n)), .int .u64 (loN (x * n)), .int .i64 (topN (x * n))] 166)) hb4
      obtain ⟨q0, q1, q2, q3, q4⟩ := id D2
      have hcs := @cell_set
      clear hb4 C1 C2 p0 p1 p2 p3 p4 hB3
      go_wp2
      refine bodyPost_ret (v := .tuple #[.agg #[.int .i64 (eH (x * n)), .int .u64 (eL (x * n))], .int .i64 (eE (x * n))]) ?_ rfl ?_
      · simp [results, Tryz.results111, go_sem, cell_set, q1, q2]
      · refine ⟨by rw [HE.out], ?_⟩
        repeat' (first | with_reducible exact hB4 | with_reducible refine Below.setCell ?_ ?_ _)
        all_goals first | (simp; done) | (simp; omega)
end
section
theorem mul_in128 {a b : Int} (ha : In64 a) (hb : In64 b) : In128 (a * b) := by
  unfold In64 at ha hb
  have h : (a * b).natAbs ≤ 9223372036854775808 * 9223372036854775808 := by
    rw [Int.natAbs_mul]
    exact Nat.mul_le_mul (by omega) (by omega)
  unfold In128
  omega
theorem wmul_any (a b : Int) (ha : In64 a) (hb : In64 b) (w : World) :
    Calls Tryz.prog 88 #[.int .i64 a, .int .i64 b] w fun e w' => e = .returned (.agg #[.int .i64 (hiN (a * b)), .int .u64 (loN (a * b))]) ∧ Below w.heap.size w w' := by
  have hin := mul_in128 ha hb
  have HE := Lib.hid (wideE_yes hin)
  have ha128 := (of_in a ha).2.2
  go_enter Tryz.func88, Tryz.ntmps88
  go_wp2_with fail
  refine (wof_any a ha _).mono ?_
  rintro e w1 ⟨rfl, hb1⟩
  have A1 := (T2.new w 0 0 123).below hb1
  have hB1 := since_step (since_alloc (Below.refl _ _) _) hb1
  clear hb1
  go_wp2_with fail
  refine (wtimes_any a b ha128 hb _).mono ?_
  rintro e w2 ⟨rfl, hb2⟩
  have A2 := A1.below hb2
  have hB2 := since_step hB1 hb2
  rw [HE.out]
  clear hb2 A1 hB1
  obtain ⟨q0, q1, q2, q3, q4⟩ := id A2
  have hcs := @cell_set
  go_wp2_with fail
  refine bodyPost_ret (v := .agg #[.int .i64 (hiN (a * b)), .int .u64 (loN (a * b))]) ?_ rfl ?_
  · simp [results, Tryz.results88, go_sem, World.cell?_alloc_lt, q0, cell_set, q1, q2]
  · refine ⟨rfl, ?_⟩
    repeat' (first | with_reducible exact hB2 | with_reducible exact since_alloc hB2 _ | with_reducible refine Below.setCell ?_ ?_ _ | with_reducible refine Below.alloc ?_ ?_ _)
    all_goals first | (simp; done) | (simp; omega) | exact hB2.size
def fV (x : Int) : Int := if In64 x then x else 0
def fE (x : Int) : Int := if In64 x then 0 else 7
theorem int_any (x : Int) (h : In128 x) (w : World) :
    Calls Tryz.prog 67 #[.agg #[.int .i64 (hiN x), .int .u64 (loN x)]] w fun e w' => e = .returned (.tuple #[.int .i64 (fV x), .int .i64 (fE x)]) ∧ Below w.heap.size w w' := by
  by_cases hx : In64 x
  · rw [show fV x = x from if_pos hx, show fE x = 0 from if_pos hx]; exact int_yes x hx w
  · rw [show fV x = 0 from if_neg hx, show fE x = 7 from if_neg hx]; exact int_no x h hx w
end
section
def bval : List Nat → Nat
  | [] => 0
  | b :: l => b + 2 * bval l
def Bin (l : List Nat) : Prop := ∀ b ∈ l, b ≤ 1
def Norm (l : List Nat) : Prop := Bin l ∧ ∀ k, (h : k < l.length) → l.length = k + 1 → l[k] = 1
theorem Bin.nil : Bin [] := fun b h => by cases h
theorem Norm.nil : Norm [] := ⟨Bin.nil, fun k h => by simp at h⟩
theorem Bin.take {l : List Nat} (h : Bin l) (n : Nat) : Bin (l.take n) := fun b hb => h b (List.mem_of_mem_take hb)
theorem Bin.app {a b : List Nat} (h : Bin a) (k : Bin b) : Bin (a ++ b) := fun x hx => by
  rcases List.mem_append.1 hx with h' | h'
  · exact h x h'
  · exact k x h'
theorem Bin.snoc {a : List Nat} (h : Bin a) {x : Nat} (hx : x ≤ 1) : Bin (a ++ [x]) := h.app fun b hb => by simp at hb; omega
theorem Bin.at_ {l : List Nat} (h : Bin l) {k : Nat} (hk : k < l.length) : l[k] ≤ 1 := h _ (List.getElem_mem hk)
theorem bval_append (a b : List Nat) : bval (a ++ b) = bval a + 2 ^ a.length * bval b := by
  induction a with
  | nil => simp [bval]
  | cons x a ih =>
    simp only [List.cons_append, bval, ih, List.length_cons, Nat.pow_succ]
    rw [Nat.mul_add, Nat.mul_comm (2 ^ a.length) 2, Nat.mul_assoc]
    omega
theorem bval_snoc (a : List Nat) (x : Nat) : bval (a ++ [x]) = bval a + 2 ^ a.length * x := by
  rw [bval_append]; simp [bval]
theorem bval_take (l : List Nat) (k : Nat) (h : k < l.length) : bval (l.take (k + 1)) = bval (l.take k) + 2 ^ k * l[k] := by
  rw [take_snoc l k h, bval_snoc, List.length_take, Nat.min_eq_left (by omega)]
theorem bval_lt {l : List Nat} (h : Bin l) : bval l < 2 ^ l.length := by
  induction l with
  | nil => simp [bval]
  | cons x l ih =>
    have := ih fun b hb => h b (by simp [hb])
    have h1 := h x (by simp)
    simp only [bval, List.length_cons, Nat.pow_succ]
    omega
theorem bval_drop (l : List Nat) (k : Nat) (hk : k ≤ l.length) : bval l = bval (l.take k) + 2 ^ k * bval (l.drop k) := by
  conv => lhs; rw [← List.take_append_drop k l]
  rw [bval_append, List.length_take, Nat.min_eq_left hk]
theorem Norm.ge {l : List Nat} (h : Norm l) {k : Nat} (hk : l.length = k + 1) : 2 ^ k ≤ bval l := by
  have h1 := bval_take l k (by omega)
  rw [List.take_of_length_le (by omega), h.2 k (by omega) hk] at h1
  omega
theorem norm_of_ge {l : List Nat} (h : Bin l) {k : Nat} (hk : l.length = k + 1) (hv : 2 ^ k ≤ bval l) : Norm l := by
  refine ⟨h, fun j hj hl => ?_⟩
  obtain rfl : j = k := by omega
  have h1 := bval_take l j (by omega)
  rw [List.take_of_length_le (by omega)] at h1
  have h2 := bval_lt (h.take j)
  rw [List.length_take, Nat.min_eq_left (by omega)] at h2
  have h3 := h.at_ hj
  rcases Nat.lt_or_ge 0 l[j] with h4 | h4
  · omega
  · have : l[j] = 0 := by omega
    rw [this] at h1
    omega
theorem Norm.zero {l : List Nat} (h : Norm l) : bval l = 0 ↔ l = [] := by
  constructor
  · intro e
    cases hl : l.length with
    | zero => exact List.eq_nil_of_length_eq_zero hl
    | succ k => have := h.ge hl; have := Nat.pow_pos (n := k) (show 0 < 2 by omega); omega
  · rintro rfl; rfl
theorem Norm.len_le {l : List Nat} (h : Norm l) {n : Nat} (hv : bval l < 2 ^ n) : l.length ≤ n := by
  cases hl : l.length with
  | zero => omega
  | succ k =>
    have h1 := h.ge hl
    refine Decidable.byContradiction fun hn => ?_
    have : 2 ^ n ≤ 2 ^ k := Nat.pow_le_pow_right (by omega) (by omega)
    omega
theorem Norm.len_iff {l : List Nat} (h : Norm l) (n : Nat) : l.length ≤ n ↔ bval l < 2 ^ n := by
  refine ⟨fun hl => ?_, h.len_le⟩
  have := bval_lt h.1
  have : 2 ^ l.length ≤ 2 ^ n := Nat.pow_le_pow_right (by omega) hl
  omega
theorem Norm.lt_len {a b : List Nat} (ha : Norm a) (hb : Norm b) (h : a.length < b.length) : bval a < bval b := by
  obtain ⟨k, hk⟩ : ∃ k, b.length = k + 1 := ⟨b.length - 1, by omega⟩
  have h1 := hb.ge hk
  have h2 := bval_lt ha.1
  have : 2 ^ a.length ≤ 2 ^ k := Nat.pow_le_pow_right (by omega) (by omega)
  omega
theorem bval_top {a b : List Nat} (ha : Bin a) (hb : Bin b) (hl : a.length = b.length) {k : Nat} (h1 : k < a.length) (h2 : k < b.length) (he : a.drop (k + 1) = b.drop (k + 1)) (hlt : a[k] < b[k]) : bval a < bval b := by
  rw [bval_drop a (k + 1) (by omega), bval_drop b (k + 1) (by omega), he, bval_take a k h1, bval_take b k h2]
  have h3 := bval_lt (ha.take k)
  rw [List.length_take, Nat.min_eq_left (by omega)] at h3
  have h4 := hb.at_ h2
  have e1 : a[k] = 0 := by omega
  have e2 : b[k] = 1 := by omega
  rw [e1, e2]
  omega
theorem bval_trim {l : List Nat} {n : Nat} (hn : n ≤ l.length) (h : ∀ j, (hj : j < l.length) → n ≤ j → l[j] = 0) : bval (l.take n) = bval l := by
  rw [bval_drop l n hn]
  have : bval (l.drop n) = 0 := by
    have key : ∀ m : List Nat, (∀ x ∈ m, x = 0) → bval m = 0 := by
      intro m
      induction m with
      | nil => intro _; rfl
      | cons x m ih => intro hm; simp only [bval, ih fun y hy => hm y (by simp [hy]), hm x (by simp)]
    refine key _ fun x hx => ?_
    obtain ⟨j, hj, rfl⟩ := List.getElem_of_mem hx
    rw [List.getElem_drop]
    simp at hj
    exact h _ (by omega) (by omega)
  rw [this]
  simp
structure BigAt (w : World) (neg : Bool) (A : Option Addr) (n c : Nat) (z : Int) : Prop where
  ex : ∃ bits : List Nat, bits.length = n ∧ n ≤ c ∧ c ≤ maxLen ∧ Sl w A (by8 bits) ∧ Norm bits ∧ (neg = true → bits ≠ []) ∧ z = if neg = true then -(bval bits : Int) else (bval bits : Int)
theorem BigAt.below {w w' : World} {neg : Bool} {A : Option Addr} {n c : Nat} {z : Int} (h : BigAt w neg A n c z) (hb : Below w.heap.size w w') : BigAt w' neg A n c z := by
  obtain ⟨bits, h1, h2, h3, h4, h5, h6, h7⟩ := h.ex
  exact ⟨bits, h1, h2, h3, h4.below hb, h5, h6, h7⟩
theorem BigAt.alloc {w : World} {neg : Bool} {A : Option Addr} {n c : Nat} {z : Int} (h : BigAt w neg A n c z) (o : Obj) : BigAt (w.alloc o) neg A n c z := h.below ((Below.refl _ _).alloc (Nat.le_refl _) o)
theorem BigAt.drew {w : World} {neg : Bool} {A : Option Addr} {n c : Nat} {z : Int} (h : BigAt w neg A n c z) : BigAt w.drew neg A n c z := h.below ⟨rfl, rfl, rfl, Nat.le_refl _, fun _ _ => rfl⟩
theorem BigAt.zero (w : World) : BigAt w false none 0 0 0 := ⟨[], rfl, Nat.le_refl _, by decide, Sl.nil, Norm.nil, (fun h => nomatch h), rfl⟩
theorem BigAt.len {w : World} {neg : Bool} {A : Option Addr} {n c : Nat} {z : Int} (h : BigAt w neg A n c z) {k : Nat} : n ≤ k ↔ z.natAbs < 2 ^ k := by
  obtain ⟨bits, h1, h2, h3, h4, h5, h6, h7⟩ := h.ex
  rw [← h1, h5.len_iff, h7]
  cases neg <;> simp
theorem BigAt.neg_iff {w : World} {neg : Bool} {A : Option Addr} {n c : Nat} {z : Int} (h : BigAt w neg A n c z) : neg = decide (z < 0) := by
  obtain ⟨bits, h1, h2, h3, h4, h5, h6, h7⟩ := h.ex
  cases neg with
  | false => simp only [Bool.false_eq_true, if_false] at h7; rw [h7]; simp
  | true =>
    simp only [if_true] at h7
    have : 0 < bval bits := by
      have := h5.zero
      have := h6 rfl
      rcases Nat.eq_zero_or_pos (bval bits) with h | h
      · exact absurd (h5.zero.1 h) (h6 rfl)
      · exact h
    rw [h7]
    symm
    simp
    omega
theorem big_take {w : World} {A : Option Addr} {c k : Nat} {bits : List Nat} (neg : Bool) (hb : Bin bits) (hk : k ≤ bits.length) (hc : bits.length ≤ c ∧ c ≤ maxLen) (hs : Sl w A (by8 bits))
    (hz : ∀ j, (hj : j < bits.length) → k ≤ j → bits[j] = 0) (hn : ∀ m, (hm : m < bits.length) → k = m + 1 → bits[m] = 1) :
    BigAt w (neg && decide (0 < k)) A k c (if neg = true then -(bval bits : Int) else (bval bits : Int)) := by
  have hv := bval_trim hk hz
  have hN : Norm (bits.take k) := by
    refine ⟨hb.take k, fun j hj hl => ?_⟩
    have h1 : j < bits.length := by simp at hj; omega
    rw [List.getElem_take]
    refine hn j h1 ?_
    rw [List.length_take] at hl
    omega
  refine ⟨bits.take k, by simp; omega, by omega, hc.2, by rw [by8_take]; exact hs.take k, hN, fun h e => ?_, ?_⟩
  · have : k = 0 := by
      have := congrArg List.length e
      simp at this
      rcases this with h | h
      · exact h
      · rw [h] at hk; simp at hk; exact hk
    subst this
    simp at h
  · rw [hv]
    cases neg with
    | false => simp
    | true =>
      simp only [Bool.true_and, if_true]
      by_cases h : 0 < k
      · simp [h]
      · have hk0 : k = 0 := by omega
        subst hk0
        simp [bval] at hv
        simp [← hv]
theorem own_cap' {w : World} {base : Nat} {e : TypeId} {size n c : Nat} {A : Option Addr} {xs : List Value} (h : w.ownsRow base e size (.slice A n c) n xs) : n ≤ c ∧ c ≤ maxLen := by
  rcases h.2 with ⟨hv, h0⟩ | ⟨g, cap, cur, hv, hg, hh, hnc, hcm, _⟩
  · injection hv with e1 e2 e3; subst e3; subst h0; exact ⟨Nat.le_refl _, by decide⟩
  · injection hv with e1 e2 e3; subst e3; exact ⟨hnc, hcm⟩
end
end Go.Proofs.YtmjndpkfhdoljaaGreat
