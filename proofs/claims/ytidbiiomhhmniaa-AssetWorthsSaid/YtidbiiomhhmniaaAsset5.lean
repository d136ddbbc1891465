/-
  Layer 12, fifth part: AssetCounts (laid by gen_asset5.py).
-/
import Derived.Test.YtidbiiomhhmniaaAsset4
namespace Go.Proofs.Ytidbiiomhhmniaa
open Go.ChangeShapes Go.WideShapes Go.ChangeAt Go.RowKit
set_option linter.unusedVariables false
set_option linter.unusedSimpArgs false

theorem count_le {a : Ast} {q : Int} (h : countE a q = 0) : worthE a q = 0 ∧ 0 ≤ countV a q ∧ countV a q ≤ worthV a q := by
  rcases count_cases a q with ⟨c1, c2, c3, c4, c5⟩ | ⟨c1, c2⟩
  · have hz : 0 ≤ q * a.price := Int.mul_nonneg c3 c2.2.2.1.1
    have hr := count_rng c2 hz
    rw [c5, show worthE a q = fE (q * a.price) from if_pos c2, show worthV a q = fV (q * a.price) from if_pos c2, show fE (q * a.price) = 0 from if_pos c4, show fV (q * a.price) = q * a.price from if_pos c4]
    exact ⟨rfl, hr.1, hr.2⟩
  · omega
theorem count_mono {a : Ast} {q m : Int} (h : countE a q = 0) (h2 : countE a m = 0) (hqm : q ≤ m) : countV a q ≤ countV a m := by
  rcases count_cases a q with ⟨c1, c2, c3, c4, c5⟩ | ⟨c1, c2⟩
  · rcases count_cases a m with ⟨d1, d2, d3, d4, d5⟩ | ⟨d1, d2⟩
    · rw [c5, d5]
      have k1 : q * a.price ≤ m * a.price := Int.mul_le_mul_of_nonneg_right hqm c2.2.2.1.1
      have hh : 0 ≤ a.hc ∧ a.hc ≤ 10000 := c2.2.2.2
      have k2 : q * a.price * (10000 - a.hc) ≤ m * a.price * (10000 - a.hc) := Int.mul_le_mul_of_nonneg_right k1 (by omega)
      omega
    · omega
  · omega
theorem up_ge {m : Int} {P : Nat} (hP : 0 < P) : m ≤ upZ m P * (P : Int) ∧ upZ m P * (P : Int) - (P : Int) < m := by
  have hp : (0 : Int) < (P : Int) := by omega
  have h1 := Int.emod_add_mul_ediv m (P : Int)
  have h2 := Int.emod_lt_of_pos m hp
  have h3 := Int.emod_nonneg m (show (P : Int) ≠ 0 by omega)
  rw [Int.mul_comm] at h1
  unfold upZ
  by_cases hr : 0 < m % (P : Int)
  · rw [if_pos hr, Int.add_mul, Int.one_mul]
    omega
  · rw [if_neg hr]
    omega
theorem sell_cases {a : Ast} {m : Int} : (sellE a m = 0 ∧ 0 < m ∧ In64 (sellV a m) ∧ m ≤ sellV a m * a.price ∧ sellV a m * a.price - a.price < m ∧ 0 ≤ a.price ∧ a.price ≤ 2147483647) ∨ (sellE a m = 0 ∧ m ≤ 0 ∧ sellV a m = 0) ∨ ((sellE a m = 2 ∨ sellE a m = 7 ∨ sellE a m = 8) ∧ sellV a m = 0) := by
  by_cases hok : okA a
  · by_cases hm : m ≤ 0
    · exact Or.inr (Or.inl ⟨(if_pos hok).trans (if_pos hm), hm, if_neg fun h => by omega⟩)
    · have hp := hok.2.2.1
      by_cases hp0 : a.price = 0
      · exact Or.inr (Or.inr ⟨Or.inr (Or.inr ((if_pos hok).trans ((if_neg hm).trans (if_pos hp0)))), if_neg fun h => by omega⟩)
      · have hV : sellV a m = fV (upZ m a.price.toNat) := if_pos ⟨hok, by omega, by omega⟩
        have hE : sellE a m = fE (upZ m a.price.toNat) := (if_pos hok).trans ((if_neg hm).trans (if_neg hp0))
        rw [hV, hE]
        by_cases h6 : In64 (upZ m a.price.toNat)
        · left
          rw [show fE (upZ m a.price.toNat) = 0 from if_pos h6, show fV (upZ m a.price.toNat) = upZ m a.price.toNat from if_pos h6]
          obtain ⟨u1, u2⟩ := up_ge (m := m) (P := a.price.toNat) (by omega)
          rw [Int.toNat_of_nonneg hp.1] at u1 u2
          exact ⟨rfl, by omega, h6, u1, u2, hp.1, hp.2⟩
        · exact Or.inr (Or.inr ⟨Or.inr (Or.inl (if_neg h6)), if_neg h6⟩)
  · exact Or.inr (Or.inr ⟨Or.inl (if_neg hok), if_neg fun h => hok h.1⟩)

set_option maxRecDepth 100000 in
set_option maxHeartbeats 4000000 in
theorem walk_AssetCounts (a0 : Array Value) (a1 : Int) (a2 : Int) (a3 : Int) (w : World) (w0 : Rd w (.cat (.int .i64) (.cat (.int .i64) (.cat (.int .i64) .nil))) a0.toList) (w1 : (Lit.int .i64 a1).wf = true) (w2 : (Lit.int .i64 a2).wf = true) (w3 : (Lit.int .i64 a3).wf = true) :
    Calls Try.prog 4 #[.agg a0, .int .i64 a1, .int .i64 a2, .int .i64 a3] w fun e w' => e = .returned (.bool true) ∧ Below w.heap.size w w' := by
  obtain ⟨a, ha, hid, hpr, hhc⟩ := rd_ast w0
  rw [ha]
  have h1 := bd_i64 w1
  have h2 := bd_i64 w2
  have h3 := bd_i64 w3
  clear w0 ha w1 w2 w3 hid hhc
  have hB0 := since_alloc (Below.refl _ w) (.cells #[.int .i64 a.id, .int .i64 a.price, .int .i64 a.hc] 23)
  have HX0 := Lib.hid (AB.new w a 23)
  have HW := fun W => worth_any a a1 W h1 hpr
  have HN := fun W => count_any a a1 W h1 hpr
  have HM := fun W => count_any a a2 W h2 hpr
  have HS := fun W => sell_any a a3 W h3
  have HRW := fun s (hs : In64 s) W => rworth_any a s W hs hpr
  have K1 := Lib.hid (count_le (a := a) (q := a1))
  have K2 := Lib.hid (count_mono (a := a) (q := a1) (m := a2))
  have K3 := Lib.hid (sell_cases (a := a) (m := a3))
  have HPR := Lib.hid hpr
  have HA3 := Lib.hid h3
  unfold astV at *
  clear h1 h2 h3 hpr
  generalize worthV a a1 = v at *
  generalize worthE a a1 = e0 at *
  generalize countV a a1 = c at *
  generalize countE a a1 = f at *
  generalize countV a a2 = d at *
  generalize countE a a2 = g at *
  generalize sellV a a3 = s at *
  generalize sellE a a3 = h at *
  have HW := Lib.hid HW
  have HN := Lib.hid HN
  have HM := Lib.hid HM
  have HRW := Lib.hid HRW
  go_enter Try.func4, Try.ntmps4
  go_wp2_with fail
  obtain ⟨x0, x1, x2, x3⟩ := _root_.id HX0.out
  go_wp2_with fail
  refine (HW.out _).mono ?_
  rintro e w1 ⟨rfl, hb1⟩
  have X1 := HX0.out.below hb1
  have hB1 := since_step hB0 hb1
  clear hb1 hB0 x0 x1 x2 x3
  obtain ⟨x0, x1, x2, x3⟩ := _root_.id X1
  go_wp2_with fail
  refine (HN.out _).mono ?_
  rintro e w2 ⟨rfl, hb2⟩
  have X2 := X1.below hb2
  have hB2 := since_step hB1 hb2
  clear hb2 hB1 x0 x1 x2 x3 X1
  obtain ⟨x0, x1, x2, x3⟩ := _root_.id X2
  go_wp2_with fail
  refine (HM.out _).mono ?_
  rintro e w3 ⟨rfl, hb3⟩
  have X3 := X2.below hb3
  have hB3 := since_step hB2 hb3
  clear hb3 hB2 x0 x1 x2 x3 X2 HW HN HM
  obtain ⟨x0, x1, x2, x3⟩ := _root_.id X3
  go_upto_region 4 with fail
  go_cut [68] (fun s wx => s = .bool false ∧ wx = w3)
  case first =>
    clear HS HRW K3
    by_cases hf : f = 0
    · have b1 : (f == 0) = true := by rw [hf]; rfl
      obtain ⟨k1, k2, k3⟩ := K1.out hf
      have b2 : (e0 != 0) = false := by rw [k1]; rfl
      have b3 : decide (c < 0) = false := decide_eq_false (by omega)
      have b4 : decide (v < c) = false := decide_eq_false (by omega)
      by_cases hg : g = 0
      · have b5 : (g == 0) = true := by rw [hg]; rfl
        by_cases hq : a1 ≤ a2
        · have k4 := K2.out hf hg hq
          have b6 : decide (a1 ≤ a2) = true := decide_eq_true hq
          have b7 : decide (d < c) = false := decide_eq_false (by omega)
          clear hf hg k1 K1 K2
          go_wp2_with fail
          go_meet
          case rel => exact ⟨rfl, rfl⟩
        · have b6 : decide (a1 ≤ a2) = false := decide_eq_false hq
          clear hf hg k1 K1 K2
          go_wp2_with fail
          go_meet
          case rel => exact ⟨rfl, rfl⟩
      · have b5 : (g == 0) = false := by rw [beq_eq_false_iff_ne]; exact hg
        clear hf hg k1 K1 K2
        go_wp2_with fail
        go_meet
        case rel => exact ⟨rfl, rfl⟩
    · have b1 : (f == 0) = false := by rw [beq_eq_false_iff_ne]; exact hf
      clear hf K1 K2
      go_wp2_with fail
      go_meet
      case rel => exact ⟨rfl, rfl⟩
  case rest =>
    obtain ⟨rfl, rfl⟩ := hcut
    clear K1 K2
    rcases K3.out with ⟨k1, k2, k3, k4, k5, k6, k7⟩ | ⟨k1, k2, k3⟩ | ⟨k1, k2⟩
    · rw [k1] at HS
      have HS := Lib.hid HS
      have HRW := HRW.out s k3
      have hzp : In64 (s * a.price - a.price) := by have := HA3.out; unfold In64 at *; omega
      have hc1 : cmpZ (s * a.price) a3 = 0 ∨ cmpZ (s * a.price) a3 = 1 := by
        unfold cmpZ
        by_cases hh : s * a.price = a3
        · left; rw [if_pos hh]
        · right; rw [if_neg hh, if_neg (by omega)]
      have hc2 : cmpZ (s * a.price - a.price) a3 = -1 := by
        unfold cmpZ
        rw [if_neg (by omega), if_pos (by omega)]
      have HL : ∀ (W : World) (s' : Bool) (A : Option Addr) (n c : Nat), BigAt W s' A n c (s * a.price) → n ≤ 66 := fun W s' A n c h => h.len.2 (by
        have := HA3.out
        unfold In64 at this
        rw [show (2 : Nat) ^ 66 = 73786976294838206464 from by decide]
        omega)
      have hn3 : ¬ a3 ≤ 0 := by omega
      have bn3 : decide (a3 ≤ 0) = false := decide_eq_false hn3
      generalize s * a.price = z at *
      have HRW := Lib.hid HRW
      have HL := Lib.hid HL
      have HZP := Lib.hid hzp
      have HC2 := Lib.hid hc2
      clear k1 k2 k3 k4 k5 k6 k7 K3 hzp hc2
      go_wp2_with fail
      refine (HS.out _).mono ?_
      rintro e w4 ⟨rfl, hb4⟩
      have X4 := X3.below hb4
      have hB4 := since_step hB3 hb4
      clear hb4 hB3 x0 x1 x2 x3 X3
      obtain ⟨x0, x1, x2, x3⟩ := _root_.id X4
      go_wp2_with fail
      refine (bof_any a3 _ HA3.out).mono ?_
      rintro e w5 ⟨⟨s0, B0, m0, d0, rfl, hq0, Y0⟩, hb5⟩
      have M0 := Y0.l64 HA3.out
      have X5 := X4.below hb5
      have hB5 := since_step hB4 hb5
      clear hq0 hb5 hB4 x0 x1 x2 x3 X4
      have hB6 := since_alloc hB5 (.cells #[.bool s0, .slice B0 m0 d0] 32)
      have X6 := X5.below ((Below.refl _ _).alloc (Nat.le_refl _) (.cells #[.bool s0, .slice B0 m0 d0] 32))
      have Y6 := Y0.alloc (.cells #[.bool s0, .slice B0 m0 d0] 32)
      have P6 := BB.new w5 s0 B0 m0 d0 32
      go_upto_region 10 with fail
      generalize w5.alloc (.cells #[.bool s0, .slice B0 m0 d0] 32) = W at *
      generalize w5.heap.size = gb at *
      clear hB5 X5 Y0
      have HX := Lib.hid X6
      have HP := Lib.hid P6
      have HY := Lib.hid Y6
      clear X6 P6 Y6
      rcases hc1 with hc1 | hc1
      all_goals
        have HC1 := Lib.hid hc1
        clear hc1
        refine wp_region_held_drew (S := (fun V => Below W.heap.size W V)) (by kernel_rfl) (by exact (Below.refl _ _).drew) (fun hHeld => ?_)
        refine wpAnyH_take (i := 0) (oi := { dst := some 88, op := _, type := _, pos := _, after := _, guard := _ }) (v := ?_) rfl (by kernel_rfl) (by kernel_rfl) (by kernel_rfl) (fun _ _ _ h => h) (Or.inl ⟨by rfl, ?_⟩) hHeld ?_
        rotate_left
        · (intro w hSw; obtain ⟨o0, o1, o2, o3⟩ := HX.out.below hSw; obtain ⟨r0, r1, r2, r3, r4⟩ := HP.out.below hSw; go_simp <;> with_reducible rfl)
        try simp only [Act.put, List.setIfInBounds_toArray, List.set_cons_zero, List.set_cons_succ]
        refine wpAnyH_take (i := 1) (oi := { dst := some 89, op := _, type := _, pos := _, after := _, guard := _ }) (v := ?_) rfl (by kernel_rfl) (by kernel_rfl) (by kernel_rfl) (fun _ _ _ h => h) (Or.inl ⟨by rfl, ?_⟩) hHeld ?_
        rotate_left
        · (intro w hSw; obtain ⟨o0, o1, o2, o3⟩ := HX.out.below hSw; obtain ⟨r0, r1, r2, r3, r4⟩ := HP.out.below hSw; go_simp <;> with_reducible rfl)
        try simp only [Act.put, List.setIfInBounds_toArray, List.set_cons_zero, List.set_cons_succ]
        refine wpAnyH_take (i := 3) (oi := { dst := some 91, op := _, type := _, pos := _, after := _, guard := _ }) (v := ?_) rfl (by kernel_rfl) (by kernel_rfl) (by kernel_rfl) (fun _ _ _ h => h) (Or.inl ⟨by rfl, ?_⟩) hHeld ?_
        rotate_left
        · (intro w hSw; obtain ⟨o0, o1, o2, o3⟩ := HX.out.below hSw; obtain ⟨r0, r1, r2, r3, r4⟩ := HP.out.below hSw; go_simp <;> with_reducible rfl)
        try simp only [Act.put, List.setIfInBounds_toArray, List.set_cons_zero, List.set_cons_succ]
        refine wpAnyH_ready (rs := [2]) (by kernel_rfl) (by simp) ?_
        refine AllReadyH.cons (o := { dst := some 90, op := _, type := _, pos := _, after := _, guard := _ }) rfl (fun K hK => ?_) AllReadyH.nil
        go_simp
        (refine (HRW.out _).mono ?_; rintro e u1 ⟨⟨t1, B1, m1, d1, rfl, hq1, Y1⟩, hk1⟩; have hKeep := since_step hHeld hk1; have M1 := HL.out _ _ _ _ _ Y1)
        go_wp2_with fail
        refine hK.out _ _ (by (try dsimp only); exact hKeep) (fun hHeld => ?_)
        clear hK K hKeep
        try simp only [Act.put, List.setIfInBounds_toArray, List.set_cons_zero, List.set_cons_succ]
        refine wpAnyH_ready (rs := [4]) (by kernel_rfl) (by simp) ?_
        refine AllReadyH.cons (o := { dst := some 92, op := _, type := _, pos := _, after := _, guard := _ }) rfl (fun K hK => ?_) AllReadyH.nil
        go_simp
        (refine (bcmp_any z a3 _ _ _ _ _ _ _ _ _ (by omega) (by omega) Y1 (HY.out.below hHeld)).mono ?_; rintro e u2 ⟨rfl, hk2⟩; have hKeep := since_step hHeld hk2; rw [HC1.out]; clear Y1 hq1 hk2)
        go_wp2_with fail
        refine hK.out _ _ (by (try dsimp only); exact hKeep) (fun hHeld => ?_)
        clear hK K hKeep
        try simp only [Act.put, List.setIfInBounds_toArray, List.set_cons_zero, List.set_cons_succ]
        refine wpAnyH_take (i := 5) (oi := { dst := some 93, op := _, type := _, pos := _, after := _, guard := _ }) (v := ?_) rfl (by kernel_rfl) (by kernel_rfl) (by kernel_rfl) (fun _ _ _ h => h) (Or.inl ⟨by rfl, ?_⟩) hHeld ?_
        rotate_left
        · (intro w hSw; obtain ⟨o0, o1, o2, o3⟩ := HX.out.below hSw; obtain ⟨r0, r1, r2, r3, r4⟩ := HP.out.below hSw; go_simp <;> with_reducible rfl)
        try simp only [Act.put, List.setIfInBounds_toArray, List.set_cons_zero, List.set_cons_succ]
        refine wpAnyH_take (i := 6) (oi := { dst := some 94, op := _, type := _, pos := _, after := _, guard := _ }) (v := ?_) rfl (by kernel_rfl) (by kernel_rfl) (by kernel_rfl) (fun _ _ _ h => h) (Or.inl ⟨by rfl, ?_⟩) hHeld ?_
        rotate_left
        · (intro w hSw; obtain ⟨o0, o1, o2, o3⟩ := HX.out.below hSw; obtain ⟨r0, r1, r2, r3, r4⟩ := HP.out.below hSw; go_simp <;> with_reducible rfl)
        try simp only [Act.put, List.setIfInBounds_toArray, List.set_cons_zero, List.set_cons_succ]
        refine wpAnyH_take (i := 7) (oi := { dst := some 95, op := _, type := _, pos := _, after := _, guard := _ }) (v := ?_) rfl (by kernel_rfl) (by kernel_rfl) (by kernel_rfl) (fun _ _ _ h => h) (Or.inl ⟨by rfl, ?_⟩) hHeld ?_
        rotate_left
        · (intro w hSw; obtain ⟨o0, o1, o2, o3⟩ := HX.out.below hSw; obtain ⟨r0, r1, r2, r3, r4⟩ := HP.out.below hSw; go_simp <;> with_reducible rfl)
        try simp only [Act.put, List.setIfInBounds_toArray, List.set_cons_zero, List.set_cons_succ]
        refine wpAnyH_take (i := 8) (oi := { dst := some 96, op := _, type := _, pos := _, after := _, guard := _ }) (v := ?_) rfl (by kernel_rfl) (by kernel_rfl) (by kernel_rfl) (fun _ _ _ h => h) (Or.inl ⟨by rfl, ?_⟩) hHeld ?_
        rotate_left
        · (intro w hSw; obtain ⟨o0, o1, o2, o3⟩ := HX.out.below hSw; obtain ⟨r0, r1, r2, r3, r4⟩ := HP.out.below hSw; go_simp <;> with_reducible rfl)
        try simp only [Act.put, List.setIfInBounds_toArray, List.set_cons_zero, List.set_cons_succ]
        refine wpAnyH_take (i := 10) (oi := { dst := some 98, op := _, type := _, pos := _, after := _, guard := _ }) (v := ?_) rfl (by kernel_rfl) (by kernel_rfl) (by kernel_rfl) (fun _ _ _ h => h) (Or.inl ⟨by rfl, ?_⟩) hHeld ?_
        rotate_left
        · (intro w hSw; obtain ⟨o0, o1, o2, o3⟩ := HX.out.below hSw; obtain ⟨r0, r1, r2, r3, r4⟩ := HP.out.below hSw; go_simp <;> with_reducible rfl)
        try simp only [Act.put, List.setIfInBounds_toArray, List.set_cons_zero, List.set_cons_succ]
        refine wpAnyH_take (i := 11) (oi := { dst := some 99, op := _, type := _, pos := _, after := _, guard := _ }) (v := ?_) rfl (by kernel_rfl) (by kernel_rfl) (by kernel_rfl) (fun _ _ _ h => h) (Or.inl ⟨by rfl, ?_⟩) hHeld ?_
        rotate_left
        · (intro w hSw; obtain ⟨o0, o1, o2, o3⟩ := HX.out.below hSw; obtain ⟨r0, r1, r2, r3, r4⟩ := HP.out.below hSw; go_simp <;> with_reducible rfl)
        try simp only [Act.put, List.setIfInBounds_toArray, List.set_cons_zero, List.set_cons_succ]
        refine wpAnyH_take (i := 14) (oi := { dst := some 102, op := _, type := _, pos := _, after := _, guard := _ }) (v := ?_) rfl (by kernel_rfl) (by kernel_rfl) (by kernel_rfl) (fun _ _ _ h => h) (Or.inl ⟨by rfl, ?_⟩) hHeld ?_
        rotate_left
        · (intro w hSw; obtain ⟨o0, o1, o2, o3⟩ := HX.out.below hSw; obtain ⟨r0, r1, r2, r3, r4⟩ := HP.out.below hSw; go_simp <;> with_reducible rfl)
        try simp only [Act.put, List.setIfInBounds_toArray, List.set_cons_zero, List.set_cons_succ]
        refine wpAnyH_ready (rs := [9]) (by kernel_rfl) (by simp) ?_
        refine AllReadyH.cons (o := { dst := some 97, op := _, type := _, pos := _, after := _, guard := _ }) rfl (fun K hK => ?_) AllReadyH.nil
        go_simp
        (refine (HRW.out _).mono ?_; rintro e u3 ⟨⟨t3, B3, m3, d3, rfl, hq3, Y3⟩, hk3⟩; have hKeep := since_step hHeld hk3; have M3 := HL.out _ _ _ _ _ Y3)
        go_wp2_with fail
        refine hK.out _ _ (by (try dsimp only); exact hKeep) (fun hHeld => ?_)
        clear hK K hKeep
        try simp only [Act.put, List.setIfInBounds_toArray, List.set_cons_zero, List.set_cons_succ]
        refine wpAnyH_ready (rs := [12]) (by kernel_rfl) (by simp) ?_
        refine AllReadyH.cons (o := { dst := some 100, op := _, type := _, pos := _, after := _, guard := _ }) rfl (fun K hK => ?_) AllReadyH.nil
        go_simp
        (refine (bof_any a.price _ HPR.out).mono ?_; rintro e u4 ⟨⟨t4, B4, m4, d4, rfl, hq4, Y4⟩, hk4⟩; have hKeep := since_step hHeld hk4; have Y3 := Y3.below hk4; have M4 := Y4.l64 HPR.out)
        go_wp2_with fail
        refine hK.out _ _ (by (try dsimp only); exact hKeep) (fun hHeld => ?_)
        clear hK K hKeep
        try simp only [Act.put, List.setIfInBounds_toArray, List.set_cons_zero, List.set_cons_succ]
        refine wpAnyH_ready (rs := [13]) (by kernel_rfl) (by simp) ?_
        refine AllReadyH.cons (o := { dst := some 101, op := _, type := _, pos := _, after := _, guard := _ }) rfl (fun K hK => ?_) AllReadyH.nil
        go_simp
        (refine (bsub_any z a.price _ _ _ _ _ _ _ _ _ (by omega) (by omega) Y3 Y4).mono ?_; rintro e u5 ⟨⟨t5, B5, m5, d5, rfl, hq5, Y5⟩, hk5⟩; have hKeep := since_step hHeld hk5; have M5 := Y5.l64 HZP.out; clear Y3 Y4 hq3 hq4)
        go_wp2_with fail
        refine hK.out _ _ (by (try dsimp only); exact hKeep) (fun hHeld => ?_)
        clear hK K hKeep
        try simp only [Act.put, List.setIfInBounds_toArray, List.set_cons_zero, List.set_cons_succ]
        refine wpAnyH_ready (rs := [15]) (by kernel_rfl) (by simp) ?_
        refine AllReadyH.cons (o := { dst := some 103, op := _, type := _, pos := _, after := _, guard := _ }) rfl (fun K hK => ?_) AllReadyH.nil
        go_simp
        (refine (bcmp_any (z - a.price) a3 _ _ _ _ _ _ _ _ _ (by omega) (by omega) Y5 (HY.out.below hHeld)).mono ?_; rintro e u6 ⟨rfl, hk6⟩; have hKeep := since_step hHeld hk6; rw [HC2.out]; clear Y5 hq5 hk6)
        go_wp2_with fail
        refine hK.out _ _ (by (try dsimp only); exact hKeep) (fun hHeld => ?_)
        clear hK K hKeep
        try simp only [Act.put, List.setIfInBounds_toArray, List.set_cons_zero, List.set_cons_succ]
        refine wpAnyH_take (i := 16) (oi := { dst := some 104, op := _, type := _, pos := _, after := _, guard := _ }) (v := ?_) rfl (by kernel_rfl) (by kernel_rfl) (by kernel_rfl) (fun _ _ _ h => h) (Or.inl ⟨by rfl, ?_⟩) hHeld ?_
        rotate_left
        · (intro w hSw; obtain ⟨o0, o1, o2, o3⟩ := HX.out.below hSw; obtain ⟨r0, r1, r2, r3, r4⟩ := HP.out.below hSw; go_simp <;> with_reducible rfl)
        try simp only [Act.put, List.setIfInBounds_toArray, List.set_cons_zero, List.set_cons_succ]
        refine wpAnyH_take (i := 17) (oi := { dst := some 105, op := _, type := _, pos := _, after := _, guard := _ }) (v := ?_) rfl (by kernel_rfl) (by kernel_rfl) (by kernel_rfl) (fun _ _ _ h => h) (Or.inl ⟨by rfl, ?_⟩) hHeld ?_
        rotate_left
        · (intro w hSw; obtain ⟨o0, o1, o2, o3⟩ := HX.out.below hSw; obtain ⟨r0, r1, r2, r3, r4⟩ := HP.out.below hSw; go_simp <;> with_reducible rfl)
        try simp only [Act.put, List.setIfInBounds_toArray, List.set_cons_zero, List.set_cons_succ]
        refine wpAnyH_take (i := 18) (oi := { dst := some 106, op := _, type := _, pos := _, after := _, guard := _ }) (v := ?_) rfl (by kernel_rfl) (by kernel_rfl) (by kernel_rfl) (fun _ _ _ h => h) (Or.inl ⟨by rfl, ?_⟩) hHeld ?_
        rotate_left
        · (intro w hSw; obtain ⟨o0, o1, o2, o3⟩ := HX.out.below hSw; obtain ⟨r0, r1, r2, r3, r4⟩ := HP.out.below hSw; go_simp <;> with_reducible rfl)
        try simp only [Act.put, List.setIfInBounds_toArray, List.set_cons_zero, List.set_cons_succ]
        refine wpAnyH_ready (rs := [19]) (by kernel_rfl) (by simp) ?_
        refine AllReadyH.cons (o := { dst := some 107, op := _, type := _, pos := _, after := _, guard := _ }) rfl (fun K hK => ?_) AllReadyH.nil
        go_simp
        (refine (lives12_any _).mono ?_; rintro e u7 ⟨rfl, hk7⟩; have hKeep := since_step hHeld hk7)
        go_wp2_with fail
        refine hK.out _ _ (by (try dsimp only); exact hKeep) (fun hHeld => ?_)
        clear hK K hKeep
        try simp only [Act.put, List.setIfInBounds_toArray, List.set_cons_zero, List.set_cons_succ]
        refine wpAnyH_take (i := 20) (oi := { dst := some 108, op := _, type := _, pos := _, after := _, guard := _ }) (v := ?_) rfl (by kernel_rfl) (by kernel_rfl) (by kernel_rfl) (fun _ _ _ h => h) (Or.inl ⟨by rfl, ?_⟩) hHeld ?_
        rotate_left
        · (intro w hSw; obtain ⟨o0, o1, o2, o3⟩ := HX.out.below hSw; obtain ⟨r0, r1, r2, r3, r4⟩ := HP.out.below hSw; go_simp <;> with_reducible rfl)
        try simp only [Act.put, List.setIfInBounds_toArray, List.set_cons_zero, List.set_cons_succ]
        refine wpAnyH_take (i := 21) (oi := { dst := some 8, op := _, type := _, pos := _, after := _, guard := _ }) (v := ?_) rfl (by kernel_rfl) (by kernel_rfl) (by kernel_rfl) (fun _ _ _ h => h) (Or.inl ⟨by rfl, ?_⟩) hHeld ?_
        rotate_left
        · (intro w hSw; obtain ⟨o0, o1, o2, o3⟩ := HX.out.below hSw; obtain ⟨r0, r1, r2, r3, r4⟩ := HP.out.below hSw; go_simp <;> with_reducible rfl)
        try simp only [Act.put, List.setIfInBounds_toArray, List.set_cons_zero, List.set_cons_succ]
        refine wpAnyH_done (by kernel_rfl) ?_ _
        have hB7 := since_step hB6 hHeld
        clear hHeld hB6
        go_wp2_with fail
        go_ret
        exact ⟨rfl, hB7⟩
    · rw [k1, k3] at HS
      have HS := Lib.hid HS
      clear k1 k3 K3
      go_wp2_with fail
      refine (HS.out _).mono ?_
      rintro e w4 ⟨rfl, hb4⟩
      have hB4 := since_step hB3 hb4
      clear hb4 hB3 x0 x1 x2 x3 X3
      go_wp2_with fail
      refine (lives12_any _).mono ?_
      rintro e w5 ⟨rfl, hb5⟩
      have hB5 := since_step hB4 hb5
      go_wp2_with fail
      go_ret
      exact ⟨rfl, hB5⟩
    · rw [k2] at HS
      clear k2 K3
      rcases k1 with k1 | k1 | k1
      all_goals
        rw [k1] at HS
        have HS := Lib.hid HS
        clear k1
        go_wp2_with fail
        refine (HS.out _).mono ?_
        rintro e w4 ⟨rfl, hb4⟩
        have hB4 := since_step hB3 hb4
        clear hb4 hB3 x0 x1 x2 x3 X3
        go_wp2_with fail
        refine (lives12_any _).mono ?_
        rintro e w5 ⟨rfl, hb5⟩
        have hB5 := since_step hB4 hb5
        go_wp2_with fail
        go_ret
        exact ⟨rfl, hB5⟩
end Go.Proofs.Ytidbiiomhhmniaa
