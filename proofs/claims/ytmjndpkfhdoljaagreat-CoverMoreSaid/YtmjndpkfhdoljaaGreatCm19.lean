import Derived.Test.YtmjndpkfhdoljaaGreatCm18
import Derived.Test.YtmjndpkfhdoljaaGreatCm11
set_option maxHeartbeats 16000000
set_option maxRecDepth 100000
set_option linter.unusedVariables false
set_option linter.unusedSimpArgs false
namespace Go.Proofs.YtmjndpkfhdoljaaGreat
open Go.ChangeShapes Go.WideShapes Go.ChangeAt Go.RowKit
section
theorem floor_pos (x : Int) (d : Nat) (h : 0 ≤ x) : x / (d : Int) = ((x.natAbs / d : Nat) : Int) ∧ x % (d : Int) = ((x.natAbs % d : Nat) : Int) := by
  obtain ⟨n, rfl⟩ := Int.eq_ofNat_of_zero_le h
  exact ⟨by simp, by simp⟩
theorem floor_zero (x : Int) (d : Nat) (hd : 0 < d) (h : x < 0) (hr : x.natAbs % d = 0) : x / (d : Int) = -((x.natAbs / d : Nat) : Int) ∧ x % (d : Int) = 0 := by
  have h1 := Nat.div_add_mod x.natAbs d
  rw [hr, Nat.add_zero] at h1
  have hx : x = -((x.natAbs / d : Nat) : Int) * (d : Int) := by
    have : ((d * (x.natAbs / d) : Nat) : Int) = (x.natAbs : Int) := by rw [h1]
    rw [Int.natCast_mul] at this
    rw [Int.neg_mul, Int.mul_comm, this]; omega
  generalize x.natAbs / d = q at *
  refine ⟨?_, ?_⟩
  · rw [hx, Int.mul_ediv_cancel _ (by omega)]
  · rw [hx, Int.mul_emod_left]
theorem floor_neg (x : Int) (d : Nat) (hd : 0 < d) (h : x < 0) (hr : 0 < x.natAbs % d) : x / (d : Int) = -((x.natAbs / d : Nat) : Int) + -1 ∧ x % (d : Int) = (d : Int) - ((x.natAbs % d : Nat) : Int) := by
  have h1 := Nat.div_add_mod x.natAbs d
  have h2 := Nat.mod_lt x.natAbs hd
  have hx : x = ((d : Int) - ((x.natAbs % d : Nat) : Int)) + (-((x.natAbs / d : Nat) : Int) + -1) * (d : Int) := by
    have : ((d * (x.natAbs / d) + x.natAbs % d : Nat) : Int) = (x.natAbs : Int) := by rw [h1]
    rw [Int.natCast_add, Int.natCast_mul] at this
    rw [Int.add_mul, Int.neg_mul, Int.mul_comm ((x.natAbs / d : Nat) : Int)]; omega
  generalize x.natAbs / d = q at *
  generalize x.natAbs % d = r at *
  clear h1
  refine ⟨?_, ?_⟩
  · conv => lhs; rw [hx]
    rw [Int.add_mul_ediv_right _ _ (by omega), Int.ediv_eq_zero_of_lt (by omega) (by omega)]
    omega
  · conv => lhs; rw [hx]
    rw [Int.add_mul_emod_self_right, Int.emod_eq_of_lt (by omega) (by omega)]
theorem wdiv_pos (x : Int) (d : Nat) (hx : In128 x) (hd0 : 0 < d) (hd : d < 9223372036854775808) (w : World) :
    Calls Tryz.prog 110 #[.agg #[.int .i64 (hiN x), .int .u64 (loN x)], .int .i64 (d : Int)] w fun e w' =>
      e = .returned (.tuple #[.agg #[.int .i64 (hiN (x / (d : Int))), .int .u64 (loN (x / (d : Int)))], .int .i64 (x % (d : Int)), .int .i64 0]) ∧ Below w.heap.size w w' := by
  obtain ⟨H, hH⟩ : ∃ H : Nat, H = szH x / d := ⟨_, rfl⟩
  obtain ⟨L, hL⟩ : ∃ L : Nat, L = (szH x % d * 18446744073709551616 + szL x) / d := ⟨_, rfl⟩
  obtain ⟨R, hR⟩ : ∃ R : Nat, R = (szH x % d * 18446744073709551616 + szL x) % d := ⟨_, rfl⟩
  obtain ⟨pH, pL, pT, pR, pRl, pQ⟩ := div_parts x hx d hd0 hd H L R hH hL hR
  have lX : szL x < 18446744073709551616 := by unfold szL; omega
  have lH : szH x < 18446744073709551616 := by unfold szH; unfold In128 at hx; omega
  have HDV := Lib.hid (fun w => divide_any (szH x) (szL x) d H R L 0 hd0 (by omega) lH lX hH hL hR w)
  clear hH hL hR lX lH
  have hlt := hi_neg hx
  have F1 := Lib.hid (fun h => floor_pos x d h)
  have F2 := Lib.hid (fun h r => floor_zero x d hd0 h r)
  have F3 := Lib.hid (fun h r => floor_neg x d hd0 h r)
  rw [← pR] at F1 F2 F3
  generalize hq : ((x.natAbs / d : Nat) : Int) = Q at *
  clear hq pR
  have gd : IntKind.u64.wrap (d : Int) = (d : Int) := by rw [IntKind.wrap_u64]; omega
  have gr : wrap64 (R : Int) = (R : Int) := by unfold wrap64; omega
  have gr' : IntKind.i64.wrap (R : Int) = (R : Int) := by rw [IntKind.wrap_i64]; omega
  have g0 : ¬ (d : Int) = 0 := by omega
  have g1 : ¬ (d : Int) < 0 := by omega
  have g0' : ((d : Int) == 0) = false := by simp; omega
  have g1' : decide ((d : Int) < 0) = false := decide_eq_false g1
  have HMI := Lib.hid (fun w => minus_any Q w)
  have HPL := Lib.hid (fun w => plus_any (-Q) (-1) w)
  have HNW := Lib.hid (fun w => T3.new w Q 166)
  rw [pT] at HMI HNW
  have HQ := Lib.hid pQ
  clear pQ pT
  have hcs := @cell_set
  go_enter Tryz.func110, Tryz.ntmps110
  go_wp2_with fail
  refine (size_nat x hx _).mono ?_
  rintro e w1 ⟨rfl, hb1⟩
  have A1 := ((T2.new w (hiN x) (loN x) 123).alloc (.cells #[.int .i64 0, .int .u64 0] 123)).below hb1
  have A2 : T2 w1 (w.heap.size + 1) 0 0 := by
    have := (T2.new (w.alloc (.cells #[.int .i64 (hiN x), .int .u64 (loN x)] 123)) 0 0 123).below hb1
    rwa [World.size_alloc] at this
  have hB1 := since_step (since_alloc (since_alloc (Below.refl _ _) _) _) hb1
  clear hb1
  go_wp2_with fail
  refine (HDV.out _).mono ?_
  rintro e w2 ⟨rfl, hb2⟩
  have B1 := A1.below hb2
  have B2 := A2.below hb2
  have hB2 := since_step hB1 hb2
  clear hb2 A1 A2 hB1 hx
  obtain ⟨p0, p1, p2, p3, p4⟩ := id B1
  have g12 : w.heap.size + 1 < w2.heap.size := B2.1
  by_cases h1 : x < 0
  · have s1 : hiN x < 0 := hlt.2 h1
    have s1' : decide (hiN x < 0) = true := decide_eq_true s1
    clear hlt
    go_wp2_with fail
    refine (HMI.out _).mono ?_
    rintro e w3 ⟨rfl, hb3⟩
    have D3 := (HNW.out w2).below hb3
    have D2 := (B2.alloc (.cells #[.int .i64 (hiN Q), .int .u64 (loN Q), .int .i64 0] 166)).below hb3
    have hB3 := since_step (since_alloc hB2 (.cells #[.int .i64 (hiN Q), .int .u64 (loN Q), .int .i64 0] 166)) hb3
    clear hb3 HMI HDV HNW B1 B2 p0 p1 p2 p3 p4
    have F := D3.set3 (-Q)
    have E2 := ((D2.far (p := ⟨w2.heap.size, 0, none⟩) (by simp; omega) (.int .i64 (hiN (-Q)))).far (p := ⟨w2.heap.size, 1, none⟩) (by simp; omega) (.int .u64 (loN (-Q)))).far (p := ⟨w2.heap.size, 2, none⟩) (by simp; omega) (.int .i64 (topN (-Q)))
    have hC3 : Below w.heap.size w (((w3.setCell ⟨w2.heap.size, 0, none⟩ (.int .i64 (hiN (-Q)))).setCell ⟨w2.heap.size, 1, none⟩ (.int .u64 (loN (-Q)))).setCell ⟨w2.heap.size, 2, none⟩ (.int .i64 (topN (-Q)))) :=
      ((hB3.setCell (p := ⟨w2.heap.size, 0, none⟩) (by simp; omega) _).setCell (p := ⟨w2.heap.size, 1, none⟩) (by simp; omega) _).setCell (p := ⟨w2.heap.size, 2, none⟩) (by simp; omega) _
    obtain ⟨u0, u1, u2, u3, u4, u5, u6⟩ := id D3
    unfold sumV
    by_cases hr0 : R = 0
    · have r1 : decide (0 < (R : Int)) = false := decide_eq_false (by omega)
      have r1' : decide (0 < R) = false := decide_eq_false (by omega)
      have E := Lib.hid (F2.out h1 hr0)
      have ER := Lib.hid (show (R : Int) = 0 from by omega)
      clear hr0 F1 F2 F3 h1
      go_upto_region 14 with fail
      generalize ((w3.setCell ⟨w2.heap.size, 0, none⟩ (.int .i64 (hiN (-Q)))).setCell ⟨w2.heap.size, 1, none⟩ (.int .u64 (loN (-Q)))).setCell ⟨w2.heap.size, 2, none⟩ (.int .i64 (topN (-Q))) = S at *
      obtain ⟨q0, q1, q2, q3, q4⟩ := id E2
      obtain ⟨v0, v1, v2, v3, v4, v5, v6⟩ := id F
      clear u0 u1 u2 u3 u4 u5 u6 D3 D2 hB3
      go_wp2_with fail
      refine bodyPost_ret (v := .tuple #[.agg #[.int .i64 (hiN (-Q)), .int .u64 (loN (-Q))], .int .i64 (R : Int), .int .i64 0]) ?_ rfl ?_
      · simp [results, Tryz.results110, go_sem, cell_set, World.cell?_alloc_lt, q0, q1, q2]
      · refine ⟨by rw [E.out.1, E.out.2, ER.out], ?_⟩
        repeat' (first | with_reducible exact hC3 | with_reducible refine Below.setCell ?_ ?_ _ | with_reducible refine Below.alloc ?_ ?_ _)
        all_goals first | (simp; done) | (simp; omega) | exact hC3.size
    · have r1 : decide (0 < (R : Int)) = true := decide_eq_true (by omega)
      have r1' : decide (0 < R) = true := decide_eq_true (by omega)
      have gdr : IntKind.i64.wrap ((d : Int) - (R : Int)) = (d : Int) - (R : Int) := by rw [IntKind.wrap_i64]; omega
      have gdr' : wrap64 ((d : Int) - (R : Int)) = (d : Int) - (R : Int) := by unfold wrap64; omega
      have E := Lib.hid (F3.out h1 (by omega))
      clear hr0 F1 F2 F3 h1
      go_upto_region 12 with fail
      generalize ((w3.setCell ⟨w2.heap.size, 0, none⟩ (.int .i64 (hiN (-Q)))).setCell ⟨w2.heap.size, 1, none⟩ (.int .u64 (loN (-Q)))).setCell ⟨w2.heap.size, 2, none⟩ (.int .i64 (topN (-Q))) = S at *
      clear u0 u1 u2 u3 u4 u5 u6 D3 D2 hB3
      obtain ⟨v0, v1, v2, v3, v4, v5, v6⟩ := id F
      go_region_with (first
        | (go_at_call 66; refine (wof_any (-1) (by decide) _).mono ?_; rintro e w4 ⟨rfl, hb4⟩; have G4 := F.drew.below hb4; have R4 := E2.drew.below hb4; have hB4 := since_step hC3.drew hb4; obtain ⟨a0, a1, a2, a3, a4, a5, a6⟩ := id G4; clear hb4)
        | (go_at_call 103; refine (long_any (-1) (by decide) _).mono ?_; rintro e w5 ⟨rfl, hb5⟩; have G5 := G4.below hb5; have R5 := R4.below hb5; have hB5 := since_step hB4 hb5; obtain ⟨b0, b1, b2, b3, b4, b5, b6⟩ := id G5; unfold sumV; clear hb5)
        | (go_at_call 102; refine (HPL.out _).mono ?_; rintro e w6 ⟨rfl, hb6⟩; have G6 := G5.below hb6; have R6 := R5.below hb6; have hB6 := since_step hB5 hb6; obtain ⟨c0, c1, c2, c3, c4, c5, c6⟩ := id G6; unfold sumV; clear hb6))
      all_goals
        have G7 := G6.set3 (-Q + -1)
        have R7 := ((R6.far (p := ⟨w2.heap.size, 0, none⟩) (by simp; omega) (.int .i64 (hiN (-Q + -1)))).far (p := ⟨w2.heap.size, 1, none⟩) (by simp; omega) (.int .u64 (loN (-Q + -1)))).far (p := ⟨w2.heap.size, 2, none⟩) (by simp; omega) (.int .i64 (topN (-Q + -1)))
        have hB7 : Below w.heap.size w (((w6.setCell ⟨w2.heap.size, 0, none⟩ (.int .i64 (hiN (-Q + -1)))).setCell ⟨w2.heap.size, 1, none⟩ (.int .u64 (loN (-Q + -1)))).setCell ⟨w2.heap.size, 2, none⟩ (.int .i64 (topN (-Q + -1)))) :=
          ((hB6.setCell (p := ⟨w2.heap.size, 0, none⟩) (by simp; omega) _).setCell (p := ⟨w2.heap.size, 1, none⟩) (by simp; omega) _).setCell (p := ⟨w2.heap.size, 2, none⟩) (by simp; omega) _
        generalize ((w6.setCell ⟨w2.heap.size, 0, none⟩ (.int .i64 (hiN (-Q + -1)))).setCell ⟨w2.heap.size, 1, none⟩ (.int .u64 (loN (-Q + -1)))).setCell ⟨w2.heap.size, 2, none⟩ (.int .i64 (topN (-Q + -1))) = Z at *
        clear a0 a1 a2 a3 a4 a5 a6 b0 b1 b2 b3 b4 b5 b6 c0 c1 c2 c3 c4 c5 c6 v0 v1 v2 v3 v4 v5 v6 G4 G5 G6 R4 R5 R6 hB4 hB5 hB6 F E2 hC3
        obtain ⟨q0, q1, q2, q3, q4⟩ := id R7
        obtain ⟨v0, v1, v2, v3, v4, v5, v6⟩ := id G7
        go_wp2_with fail
        refine bodyPost_ret (v := .tuple #[.agg #[.int .i64 (hiN (-Q + -1)), .int .u64 (loN (-Q + -1))], .int .i64 ((d : Int) - (R : Int)), .int .i64 0]) ?_ rfl ?_
        · simp [results, Tryz.results110, go_sem, cell_set, World.cell?_alloc_lt, q0, q1, q2]
        · refine ⟨by rw [E.out.1, E.out.2], ?_⟩
          repeat' (first | with_reducible exact hB7 | with_reducible refine Below.setCell ?_ ?_ _ | with_reducible refine Below.alloc ?_ ?_ _)
          all_goals first | (simp; done) | (simp; omega) | exact hB7.size
  · have s1 : ¬ hiN x < 0 := fun h => h1 (hlt.1 h)
    have s1' : decide (hiN x < 0) = false := decide_eq_false s1
    have E := Lib.hid (F1.out (by omega))
    clear hlt F1 F2 F3
    obtain ⟨q0, q1, q2, q3, q4⟩ := id B2
    go_wp2_with fail
    refine bodyPost_ret (v := .tuple #[.agg #[.int .i64 (hiN Q), .int .u64 (loN Q)], .int .i64 (R : Int), .int .i64 0]) ?_ rfl ?_
    · simp [results, Tryz.results110, go_sem, cell_set, World.cell?_alloc_lt, q0, q1, q2]
    · refine ⟨by rw [E.out.1, E.out.2], ?_⟩
      repeat' (first | with_reducible exact hB2 | with_reducible refine Below.setCell ?_ ?_ _ | with_reducible refine Below.alloc ?_ ?_ _)
      all_goals first | (simp; done) | (simp; omega) | exact hB2.size
end
section
theorem wcmp_any (x y : Int) (hx : In128 x) (hy : In128 y) (w : World) :
    Calls Tryz.prog 116 #[.agg #[.int .i64 (hiN x), .int .u64 (loN x)], .agg #[.int .i64 (hiN y), .int .u64 (loN y)]] w fun e w' => e = .returned (.int .i64 (cmpZ x y)) ∧ Below w.heap.size w w' := by
  have hxs := split_in hx
  have hys := split_in hy
  have lx := lo_nn x
  have ly := lo_nn y
  have lx2 := lo_lt x
  have ly2 := lo_lt y
  have hz : cmpZ x y = if hiN x = hiN y ∧ loN x = loN y then 0 else if hiN x < hiN y ∨ (hiN x = hiN y ∧ loN x < loN y) then -1 else 1 := by
    unfold cmpZ
    by_cases h1 : x = y
    · subst h1; simp
    · have hne : ¬ (hiN x = hiN y ∧ loN x = loN y) := fun h => h1 (parts_inj hx hy h.1 h.2)
      rw [if_neg h1, if_neg hne]
      by_cases h2 : x < y
      · rw [if_pos h2, if_pos (show hiN x < hiN y ∨ (hiN x = hiN y ∧ loN x < loN y) by omega)]
      · rw [if_neg h2, if_neg (show ¬ (hiN x < hiN y ∨ (hiN x = hiN y ∧ loN x < loN y)) by omega)]
  have HZ := Lib.hid hz
  clear hz hxs hys lx ly lx2 ly2
  generalize hiN x = a at *
  generalize hiN y = b at *
  generalize loN x = c at *
  generalize loN y = d at *
  have P1 := (T2.new w a c 123).alloc (.cells #[.int .i64 b, .int .u64 d] 123)
  have P2 : T2 ((w.alloc (.cells #[.int .i64 a, .int .u64 c] 123)).alloc (.cells #[.int .i64 b, .int .u64 d] 123)) (w.heap.size + 1) b d := by
    have := T2.new (w.alloc (.cells #[.int .i64 a, .int .u64 c] 123)) b d 123
    rwa [World.size_alloc] at this
  have hB := since_alloc (since_alloc (Below.refl _ w) (.cells #[.int .i64 a, .int .u64 c] 123)) (.cells #[.int .i64 b, .int .u64 d] 123)
  go_enter Tryz.func116, Tryz.ntmps116
  go_upto_region 1 with fail
  generalize (w.alloc (.cells #[.int .i64 a, .int .u64 c] 123)).alloc (.cells #[.int .i64 b, .int .u64 d] 123) = W at *
  obtain ⟨p0, p1, p2, p3, p4⟩ := P1
  obtain ⟨q0, q1, q2, q3, q4⟩ := P2
  by_cases h1 : a = b
  · subst h1
    by_cases h2 : c = d
    · subst h2
      go_wp2
      go_ret
      exact ⟨by rw [HZ.out]; simp, hB⟩
    · have k1 : (c == d) = false := by simp; exact h2
      have k2 : decide (a < a) = false := by simp
      by_cases h3 : c < d
      · have k3 : decide (c < d) = true := decide_eq_true h3
        go_wp2
        go_ret
        exact ⟨by rw [HZ.out]; simp; omega, hB⟩
      · have k3 : decide (c < d) = false := decide_eq_false h3
        go_wp2
        go_ret
        exact ⟨by rw [HZ.out]; simp; omega, hB⟩
  · have k1 : (a == b) = false := by simp; exact h1
    by_cases h3 : a < b
    · have k3 : decide (a < b) = true := decide_eq_true h3
      go_wp2
      go_ret
      exact ⟨by rw [HZ.out]; simp; omega, hB⟩
    · have k3 : decide (a < b) = false := decide_eq_false h3
      go_wp2
      go_ret
      exact ⟨by rw [HZ.out]; simp; omega, hB⟩
end
end Go.Proofs.YtmjndpkfhdoljaaGreat
