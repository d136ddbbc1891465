import Derived.Test.YtlbccpiadmcpjaaNd15
section
namespace Go.Proofs.Ytlbccpiadmcpjaa
open Go.ChangeShapes Go.WideShapes Go.ChangeAt Go.RowKit
set_option linter.unusedVariables false
set_option linter.unusedSimpArgs false

theorem mul64_run (x y : Nat) (hx : x < 18446744073709551616) (hy : y < 18446744073709551616) :
    ∃ h l : Nat, (∀ w, Calls Try.prog 83 #[.int .u64 x, .int .u64 y] w fun e w' => e = .returned (.tuple #[.int .u64 (h : Int), .int .u64 (l : Int)]) ∧ w = w') ∧ x * y = h * 18446744073709551616 + l ∧ l < 18446744073709551616 := by
  refine ⟨x * y / 18446744073709551616, x * y % 18446744073709551616, fun w => ?_, by omega, by omega⟩
  exact (Go.Proofs.Try.bits_Mul64 x y hx hy w).mono fun e w' ⟨he, hw⟩ => ⟨he, hw.symm⟩
def szH (x : Int) : Nat := x.natAbs / 18446744073709551616
def szL (x : Int) : Nat := x.natAbs % 18446744073709551616
theorem size_nat (x : Int) (hx : In128 x) (w : World) :
    Calls Try.prog 79 #[.agg #[.int .i64 (hiN x), .int .u64 (loN x)]] w fun e w' =>
      e = .returned (.tuple #[.int .u64 (szH x : Int), .int .u64 (szL x : Int)]) ∧ Below w.heap.size w w' := by
  refine (size_any x hx w).mono fun e w' ⟨he, hw⟩ => ⟨?_, hw⟩
  have ha : absI x = (x.natAbs : Int) := by unfold absI; split <;> omega
  rw [he, ha, uhi]
  unfold szH szL loN
  unfold In128 at hx
  have e1 : (x.natAbs : Int) / 18446744073709551616 % 18446744073709551616 = ((x.natAbs / 18446744073709551616 : Nat) : Int) := by omega
  have e2 : (x.natAbs : Int) % 18446744073709551616 = ((x.natAbs % 18446744073709551616 : Nat) : Int) := by omega
  rw [e1, e2]
theorem times_parts (X K H L P Q m c t : Int) (low mid carry : Int) (hX : X = H * 18446744073709551616 + L) (hP : P = H * K) (hQ : Q = L * K)
    (q : Q = carry * 18446744073709551616 + low) (ql : 0 ≤ low ∧ low < 18446744073709551616) (p : P = t * 18446744073709551616 + mid) (pl : 0 ≤ mid ∧ mid < 18446744073709551616)
    (hm : mid + carry + 0 = m + 18446744073709551616 * c) (ml : 0 ≤ m ∧ m < 18446744073709551616) :
    loN (X * K) = low ∧ hiN (X * K) = IntKind.i64.wrap m ∧ topN (X * K) = IntKind.i64.wrap (IntKind.u64.wrap (t + c)) := by
  have e : X * K = P * 18446744073709551616 + Q := by rw [hX, hP, hQ, Int.add_mul]; congr 1; rw [Int.mul_assoc, Int.mul_comm 18446744073709551616 K, ← Int.mul_assoc]
  rw [e]
  clear e hX hP hQ
  have e2 : P * 18446744073709551616 + Q = (t + c) * 340282366920938463463374607431768211456 + m * 18446744073709551616 + low := by omega
  rw [e2]
  clear e2 q p
  generalize t + c = T
  unfold loN hiN topN
  refine ⟨by omega, ?_, ?_⟩
  · rw [IntKind.wrap_i64, IntKind.wrap_i64]; omega
  · rw [IntKind.wrap_i64, IntKind.wrap_i64, IntKind.wrap_u64]; omega
theorem mul_bound (x n : Int) (hx : In128 x) (hn : In64 n) : In192 (x * n) := by
  unfold In128 at hx
  unfold In64 at hn
  have h : (x * n).natAbs ≤ 170141183460469231731687303715884105728 * 9223372036854775808 := by
    rw [Int.natAbs_mul]
    exact Nat.mul_le_mul (by omega) (by omega)
  unfold In192
  omega
theorem signs (x n : Int) : (if (decide (x < 0)) = (decide (n < 0)) then ((x.natAbs : Int) * (n.natAbs : Int)) else -((x.natAbs : Int) * (n.natAbs : Int))) = x * n := by
  by_cases h1 : x < 0 <;> by_cases h2 : n < 0
  · have e1 : (x.natAbs : Int) = -x := by omega
    have e2 : (n.natAbs : Int) = -n := by omega
    rw [if_pos (by simp [h1, h2]), e1, e2, Int.neg_mul_neg]
  · have e1 : (x.natAbs : Int) = -x := by omega
    have e2 : (n.natAbs : Int) = n := by omega
    rw [if_neg (by simp [h1, h2]), e1, e2, Int.neg_mul, Int.neg_neg]
  · have e1 : (x.natAbs : Int) = x := by omega
    have e2 : (n.natAbs : Int) = -n := by omega
    rw [if_neg (by simp [h1, h2]), e1, e2, Int.mul_neg, Int.neg_neg]
  · have e1 : (x.natAbs : Int) = x := by omega
    have e2 : (n.natAbs : Int) = n := by omega
    rw [if_pos (by simp [h1, h2]), e1, e2]
def eH (z : Int) : Int := if In128 z then hiN z else 0
def eL (z : Int) : Int := if In128 z then loN z else 0
def eE (z : Int) : Int := if In128 z then 0 else 7
theorem wideE_form (z : Int) : wideE z = .tuple #[.agg #[.int .i64 (eH z), .int .u64 (eL z)], .int .i64 (eE z)] := by
  unfold wideE eH eL eE
  split <;> rfl
theorem narrow_any (z : Int) (h : In192 z) (w : World) :
    Calls Try.prog 76 #[.agg #[.int .i64 (hiN z), .int .u64 (loN z), .int .i64 (topN z)]] w fun e w' => e = .returned (.tuple #[.agg #[.int .i64 (eH z), .int .u64 (eL z)], .int .i64 (eE z)]) ∧ Below w.heap.size w w' := by
  by_cases hin : In128 z
  · refine (narrow_yes z hin w).mono fun e w' ⟨he, hw⟩ => ⟨?_, hw⟩
    rw [he, ← wideE_form, wideE_yes hin]
  · refine (narrow_no z h hin w).mono fun e w' ⟨he, hw⟩ => ⟨?_, hw⟩
    rw [he, ← wideE_form, wideE_no hin]
set_option maxHeartbeats 2000000 in
theorem wtimes_any (x n : Int) (hx : In128 x) (hn : In64 n) (w : World) :
    Calls Try.prog 67 #[.agg #[.int .i64 (hiN x), .int .u64 (loN x)], .int .i64 n] w fun e w' => e = .returned (wideE (x * n)) ∧ Below w.heap.size w w' := by
  have hn128 := (of_in n hn).2.2
  have lX : szL x < 18446744073709551616 := by unfold szL; omega
  have lH : szH x < 18446744073709551616 := by unfold szH; unfold In128 at hx; omega
  have lK : szL n < 18446744073709551616 := by unfold szL; omega
  obtain ⟨carry, low, M1, p1, p1l⟩ := mul64_run (szL x) (szL n) lX lK
  obtain ⟨top, mid, M2, p2, p2l⟩ := mul64_run (szH x) (szL n) lH lK
  have hcl : carry < 18446744073709551616 := by
    have : szL x * szL n < 18446744073709551616 * 18446744073709551616 := by
      rcases Nat.eq_zero_or_pos (szL n) with h | h
      · rw [h]; simp
      · exact Nat.lt_of_lt_of_le (Nat.mul_lt_mul_of_pos_right lX h) (Nat.mul_le_mul_left _ (by omega))
    omega
  obtain ⟨m, c, r1, e1, b1, c1⟩ := add64_run (mid : Int) (carry : Int) 0 ⟨by omega, by omega⟩ ⟨by omega, by omega⟩ ⟨by omega, by omega⟩
  have hK : (szL n : Int) = (n.natAbs : Int) := by unfold szL; unfold In64 at hn; omega
  have parts := times_parts (x.natAbs : Int) (szL n) (szH x) (szL x) _ _ m c top low mid carry (by unfold szH szL; omega) rfl rfl
    (by have h : ((szL x * szL n : Nat) : Int) = ((carry * 18446744073709551616 + low : Nat) : Int) := by rw [p1]
        simpa using h) ⟨by omega, by omega⟩
    (by have h : ((szH x * szL n : Nat) : Int) = ((top * 18446744073709551616 + mid : Nat) : Int) := by rw [p2]
        simpa using h) ⟨by omega, by omega⟩ e1 b1
  rw [hK] at parts
  generalize hY : (x.natAbs : Int) * (n.natAbs : Int) = Y at parts
  have hsg := signs x n
  rw [hY] at hsg
  have h192 := mul_bound x n hx hn
  have Hs := Lib.hid hsg
  have HP := Lib.hid (show (low : Int) = loN Y ∧ wrap64 m = hiN Y ∧ wrap64 (IntKind.u64.wrap ((top : Int) + c)) = topN Y from ⟨parts.1.symm, by rw [wrap64_eq]; exact parts.2.1.symm, by rw [wrap64_eq]; exact parts.2.2.symm⟩)
  have hM1 := Lib.hid M1
  have hM2 := Lib.hid M2
  have hlt := hi_neg hx
  clear p1 p1l p2 p2l hcl e1 b1 hK hY parts hsg M1 M2 lX lH lK
  have HE := Lib.hid (wideE_form (x * n))
  go_enter Try.func67, Try.ntmps67
  go_wp2_with fail
  refine (size_nat x hx _).mono ?_
  rintro e w1 ⟨rfl, hb1⟩
  have A1 := ((T2.new w (hiN x) (loN x) 98).alloc (.cells #[.int .i64 0, .int .u64 0] 98)).below hb1
  have A2 : T2 w1 (w.heap.size + 1) 0 0 := by
    have := (T2.new (w.alloc (.cells #[.int .i64 (hiN x), .int .u64 (loN x)] 98)) 0 0 98).below hb1
    rwa [World.size_alloc] at this
  have hB1 := since_step (since_alloc (since_alloc (Below.refl _ _) _) _) hb1
  clear hb1
  go_wp2_with fail
  refine (wof_any n hn _).mono ?_
  rintro e w2 ⟨rfl, hb2⟩
  have B1 := A1.below hb2
  have B2 := A2.below hb2
  have hB2 := since_step hB1 hb2
  clear hb2 A1 A2 hB1
  go_wp2_with fail
  refine (size_nat n hn128 _).mono ?_
  rintro e w3 ⟨rfl, hb3⟩
  have C1 := B1.below hb3
  have C2 := B2.below hb3
  have hB3 := since_step hB2 hb3
  clear hb3 B1 B2 hB2
  go_wp2_with fail
  refine (hM1.out _).mono ?_
  rintro e w' ⟨rfl, rfl⟩
  go_wp2_with fail
  refine (hM2.out _).mono ?_
  rintro e w' ⟨rfl, rfl⟩
  clear hM1 hM2 hx hn hn128
  obtain ⟨p0, p1, p2, p3, p4⟩ := id C1
  have g12 : w.heap.size + 1 < w3.heap.size := C2.1
  by_cases h1 : x < 0
  · have g1 : hiN x < 0 := hlt.2 h1
    by_cases h2 : n < 0
    · have hY : Y = x * n := by rw [← Hs.out, if_pos (by simp [h1, h2])]
      subst hY
      clear Hs h1 hlt
      go_wp2_with fail
      rw [HP.out.1, HP.out.2.1, HP.out.2.2]
      refine (narrow_any (x * n) h192 _).mono ?_
      rintro e w4 ⟨rfl, hb4⟩
      have D2 := (C2.alloc (.cells #[.int .i64 (hiN (x * n)), .int .u64 (loN (x * n)), .int .i64 (topN (x * n))] 124)).below hb4
      have hB4 := since_step (since_alloc hB3 (.cells #[.int .i64 (hiN (x * n)), .int .u64 (loN (x * n)), .int .i64 (topN (x * n))] 124)) hb4
      obtain ⟨q0, q1, q2, q3, q4⟩ := id D2
      have hcs := @cell_set
      clear hb4 C1 C2 p0 p1 p2 p3 p4 hB3
      go_wp2
      refine bodyPost_ret (v := .tuple #[.agg #[.int .i64 (eH (x * n)), .int .u64 (eL (x * n))], .int .i64 (eE (x * n))]) ?_ rfl ?_
      · simp [results, Try.results67, go_sem, cell_set, q1, q2]
      · refine ⟨by rw [HE.out], ?_⟩
        repeat' (first | with_reducible exact hB4 | with_reducible refine Below.setCell ?_ ?_ _)
        all_goals first | (simp; done) | (simp; omega)
    · have hY : -Y = x * n := by rw [← Hs.out, if_neg (by simp [h1, h2])]
      have hd : (!decide (n < 0)) = true := by simp; omega
      clear Hs h1 hlt
      go_wp2_with fail
      rw [HP.out.1, HP.out.2.1, HP.out.2.2]
      refine (minus_any Y _).mono ?_
      rintro e w4 ⟨rfl, hb4⟩
      have D2 := (C2.alloc (.cells #[.int .i64 (hiN Y), .int .u64 (loN Y), .int .i64 (topN Y)] 124)).below hb4
      have D3 := (T3.new w3 Y 124).below hb4
      have hB4 := since_step (since_alloc hB3 (.cells #[.int .i64 (hiN Y), .int .u64 (loN Y), .int .i64 (topN Y)] 124)) hb4
      obtain ⟨q0, q1, q2, q3, q4⟩ := id D2
      obtain ⟨u0, u1, u2, u3, u4, u5, u6⟩ := id D3
      have E2 := ((D2.far (p := ⟨w3.heap.size, 0, none⟩) (by simp; omega) (.int .i64 (hiN (x * n)))).far (p := ⟨w3.heap.size, 1, none⟩) (by simp; omega) (.int .u64 (loN (x * n)))).far (p := ⟨w3.heap.size, 2, none⟩) (by simp; omega) (.int .i64 (topN (x * n)))
      have hC4 : Below w.heap.size w (((w4.setCell ⟨w3.heap.size, 0, none⟩ (.int .i64 (hiN (x * n)))).setCell ⟨w3.heap.size, 1, none⟩ (.int .u64 (loN (x * n)))).setCell ⟨w3.heap.size, 2, none⟩ (.int .i64 (topN (x * n)))) :=
        ((hB4.setCell (p := ⟨w3.heap.size, 0, none⟩) (by simp; omega) _).setCell (p := ⟨w3.heap.size, 1, none⟩) (by simp; omega) _).setCell (p := ⟨w3.heap.size, 2, none⟩) (by simp; omega) _
      have hcs := @cell_set
      unfold sumV
      rw [hY]
      clear hb4 C1 C2 p0 p1 p2 p3 p4 hB3 q0 q1 q2 q3 q4 hB4
      go_wp2_with fail
      refine (narrow_any (x * n) h192 _).mono ?_
      rintro e w5 ⟨rfl, hb5⟩
      have F2 := E2.below hb5
      have hB5 := since_step hC4 hb5
      obtain ⟨q0, q1, q2, q3, q4⟩ := id F2
      clear hb5
      go_wp2
      refine bodyPost_ret (v := .tuple #[.agg #[.int .i64 (eH (x * n)), .int .u64 (eL (x * n))], .int .i64 (eE (x * n))]) ?_ rfl ?_
      · simp [results, Try.results67, go_sem, cell_set, q1, q2]
      · refine ⟨by rw [HE.out], ?_⟩
        repeat' (first | with_reducible exact hB5 | with_reducible refine Below.setCell ?_ ?_ _)
        all_goals first | (simp; done) | (simp; omega)
  · have g1 : ¬ hiN x < 0 := fun h => h1 (hlt.1 h)
    by_cases h2 : n < 0
    · have hY : -Y = x * n := by rw [← Hs.out, if_neg (by simp [h1, h2])]
      have hd : decide (n < 0) = true := by simp; omega
      have hd2 : decide (hiN x < 0) = false := by simp; omega
      clear Hs h1 hlt
      go_wp2_with fail
      rw [HP.out.1, HP.out.2.1, HP.out.2.2]
      refine (minus_any Y _).mono ?_
      rintro e w4 ⟨rfl, hb4⟩
      have D2 := (C2.alloc (.cells #[.int .i64 (hiN Y), .int .u64 (loN Y), .int .i64 (topN Y)] 124)).below hb4
      have D3 := (T3.new w3 Y 124).below hb4
      have hB4 := since_step (since_alloc hB3 (.cells #[.int .i64 (hiN Y), .int .u64 (loN Y), .int .i64 (topN Y)] 124)) hb4
      obtain ⟨q0, q1, q2, q3, q4⟩ := id D2
      obtain ⟨u0, u1, u2, u3, u4, u5, u6⟩ := id D3
      have E2 := ((D2.far (p := ⟨w3.heap.size, 0, none⟩) (by simp; omega) (.int .i64 (hiN (x * n)))).far (p := ⟨w3.heap.size, 1, none⟩) (by simp; omega) (.int .u64 (loN (x * n)))).far (p := ⟨w3.heap.size, 2, none⟩) (by simp; omega) (.int .i64 (topN (x * n)))
      have hC4 : Below w.heap.size w (((w4.setCell ⟨w3.heap.size, 0, none⟩ (.int .i64 (hiN (x * n)))).setCell ⟨w3.heap.size, 1, none⟩ (.int .u64 (loN (x * n)))).setCell ⟨w3.heap.size, 2, none⟩ (.int .i64 (topN (x * n)))) :=
        ((hB4.setCell (p := ⟨w3.heap.size, 0, none⟩) (by simp; omega) _).setCell (p := ⟨w3.heap.size, 1, none⟩) (by simp; omega) _).setCell (p := ⟨w3.heap.size, 2, none⟩) (by simp; omega) _
      have hcs := @cell_set
      unfold sumV
      rw [hY]
      clear hb4 C1 C2 p0 p1 p2 p3 p4 hB3 q0 q1 q2 q3 q4 hB4
      go_wp2_with fail
      refine (narrow_any (x * n) h192 _).mono ?_
      rintro e w5 ⟨rfl, hb5⟩
      have F2 := E2.below hb5
      have hB5 := since_step hC4 hb5
      obtain ⟨q0, q1, q2, q3, q4⟩ := id F2
      clear hb5
      go_wp2
      refine bodyPost_ret (v := .tuple #[.agg #[.int .i64 (eH (x * n)), .int .u64 (eL (x * n))], .int .i64 (eE (x * n))]) ?_ rfl ?_
      · simp [results, Try.results67, go_sem, cell_set, q1, q2]
      · refine ⟨by rw [HE.out], ?_⟩
        repeat' (first | with_reducible exact hB5 | with_reducible refine Below.setCell ?_ ?_ _)
        all_goals first | (simp; done) | (simp; omega)
    · have hY : Y = x * n := by rw [← Hs.out, if_pos (by simp [h1, h2])]
      subst hY
      have hd : decide (n < 0) = false := by simp; omega
      have hd2 : decide (hiN x < 0) = false := by simp; omega
      clear Hs h1 hlt
      go_wp2_with fail
      rw [HP.out.1, HP.out.2.1, HP.out.2.2]
      refine (narrow_any (x * n) h192 _).mono ?_
      rintro e w4 ⟨rfl, hb4⟩
      have D2 := (C2.alloc (.cells #[.int .i64 (hiN (x * n)), .int .u64 (loN (x * n)), .int .i64 (topN (x * n))] 124)).below hb4
      have hB4 := since_step (since_alloc hB3 (.cells #[.int .i64 (hiN (x * n)), .int .u64 (loN (x * n)), .int .i64 (topN (x * n))] 124)) hb4
      obtain ⟨q0, q1, q2, q3, q4⟩ := id D2
      have hcs := @cell_set
      clear hb4 C1 C2 p0 p1 p2 p3 p4 hB3
      go_wp2
      refine bodyPost_ret (v := .tuple #[.agg #[.int .i64 (eH (x * n)), .int .u64 (eL (x * n))], .int .i64 (eE (x * n))]) ?_ rfl ?_
      · simp [results, Try.results67, go_sem, cell_set, q1, q2]
      · refine ⟨by rw [HE.out], ?_⟩
        repeat' (first | with_reducible exact hB4 | with_reducible refine Below.setCell ?_ ?_ _)
        all_goals first | (simp; done) | (simp; omega)
end Go.Proofs.Ytlbccpiadmcpjaa
end
section
namespace Go.Proofs.Ytlbccpiadmcpjaa
open Go.ChangeShapes Go.WideShapes Go.ChangeAt Go.RowKit
set_option linter.unusedVariables false
set_option linter.unusedSimpArgs false

theorem mul_in128 {a b : Int} (ha : In64 a) (hb : In64 b) : In128 (a * b) := by
  unfold In64 at ha hb
  have h : (a * b).natAbs ≤ 9223372036854775808 * 9223372036854775808 := by
    rw [Int.natAbs_mul]
    exact Nat.mul_le_mul (by omega) (by omega)
  unfold In128
  omega
set_option maxHeartbeats 1000000 in
theorem wmul_any (a b : Int) (ha : In64 a) (hb : In64 b) (w : World) :
    Calls Try.prog 54 #[.int .i64 a, .int .i64 b] w fun e w' => e = .returned (.agg #[.int .i64 (hiN (a * b)), .int .u64 (loN (a * b))]) ∧ Below w.heap.size w w' := by
  have hin := mul_in128 ha hb
  have HE := Lib.hid (wideE_yes hin)
  have ha128 := (of_in a ha).2.2
  go_enter Try.func54, Try.ntmps54
  go_wp2_with fail
  refine (wof_any a ha _).mono ?_
  rintro e w1 ⟨rfl, hb1⟩
  have A1 := (T2.new w 0 0 98).below hb1
  have hB1 := since_step (since_alloc (Below.refl _ _) _) hb1
  clear hb1
  go_wp2_with fail
  refine (wtimes_any a b ha128 hb _).mono ?_
  rintro e w2 ⟨rfl, hb2⟩
  have A2 := A1.below hb2
  have hB2 := since_step hB1 hb2
  rw [HE.out]
  clear hb2 A1 hB1
  obtain ⟨q0, q1, q2, q3, q4⟩ := id A2
  have hcs := @cell_set
  go_wp2_with fail
  refine bodyPost_ret (v := .agg #[.int .i64 (hiN (a * b)), .int .u64 (loN (a * b))]) ?_ rfl ?_
  · simp [results, Try.results54, go_sem, World.cell?_alloc_lt, q0, cell_set, q1, q2]
  · refine ⟨rfl, ?_⟩
    repeat' (first | with_reducible exact hB2 | with_reducible exact since_alloc hB2 _ | with_reducible refine Below.setCell ?_ ?_ _ | with_reducible refine Below.alloc ?_ ?_ _)
    all_goals first | (simp; done) | (simp; omega) | exact hB2.size
def fV (x : Int) : Int := if In64 x then x else 0
def fE (x : Int) : Int := if In64 x then 0 else 7
theorem int_any (x : Int) (h : In128 x) (w : World) :
    Calls Try.prog 53 #[.agg #[.int .i64 (hiN x), .int .u64 (loN x)]] w fun e w' => e = .returned (.tuple #[.int .i64 (fV x), .int .i64 (fE x)]) ∧ Below w.heap.size w w' := by
  by_cases hx : In64 x
  · rw [show fV x = x from if_pos hx, show fE x = 0 from if_pos hx]; exact int_yes x hx w
  · rw [show fV x = 0 from if_neg hx, show fE x = 7 from if_neg hx]; exact int_no x h hx w
end Go.Proofs.Ytlbccpiadmcpjaa
end
