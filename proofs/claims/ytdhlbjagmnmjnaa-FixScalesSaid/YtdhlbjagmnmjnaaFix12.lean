/-
  The walks of layer 2, twelfth part: FixScales.
-/
import Derived.Test.YtdhlbjagmnmjnaaFix11
namespace Go.Proofs.Ytdhlbjagmnmjnaa
open Go.ChangeShapes Go.WideShapes Go.ChangeAt Go.RowKit
set_option linter.unusedVariables false
set_option linter.unusedSimpArgs false

set_option maxRecDepth 100000 in
set_option maxHeartbeats 8000000 in
theorem walk_FixScales (a0 : Int) (a1 : Int) (a2 : Int) (w : World) (w0 : (Lit.int .i64 a0).wf = true) (w1 : (Lit.int .i64 a1).wf = true) (w2 : (Lit.int .i64 a2).wf = true) :
    Calls Try.prog 4 #[.int .i64 a0, .int .i64 a1, .int .i64 a2] w fun e w' => e = .returned (.bool true) ∧ Below w.heap.size w w' := by
  have ha : In64 a0 := bd_i64 w0
  have hn : In64 a1 := bd_i64 w1
  have hd : In64 a2 := bd_i64 w2
  clear w0 w1 w2
  have hcs := @cell_set
  rcases (show a2 = 0 ∨ a2 < 0 ∨ 0 < a2 by omega) with h0 | h0 | h0
  · have HC := Lib.hid (fscale_zero a0 a1 ha hn)
    have HU := Lib.hid (fup_zero a0 a1 ha hn)
    subst h0
    go_enter Try.func4, Try.ntmps4
    go_wp2_with fail
    refine (HC.out _).mono ?_
    rintro e w1 ⟨rfl, hb1⟩
    have hB1 := since_step (Below.refl w.heap.size w) hb1
    clear hb1
    go_wp2_with fail
    refine (HU.out _).mono ?_
    rintro e w2 ⟨rfl, hb2⟩
    have hB2 := since_step hB1 hb2
    clear hb2
    go_wp2_with fail
    refine (lives02_any _).mono ?_
    rintro e w3 ⟨rfl, hb3⟩
    have hB3 := since_step hB2 hb3
    go_wp2_with fail
    go_ret
    exact ⟨rfl, hB3⟩
  · have HC := Lib.hid (fscale_neg a0 a1 a2 ha hn h0)
    have HU := Lib.hid (fup_neg a0 a1 a2 ha hn h0)
    have k1 : decide (a2 ≤ 0) = true := decide_eq_true (by omega)
    have k2 : (a2 == 0) = false := by simp; omega
    have k3 : ¬ a2 = 0 := by omega
    go_enter Try.func4, Try.ntmps4
    go_wp2_with fail
    refine (HC.out _).mono ?_
    rintro e w1 ⟨rfl, hb1⟩
    have hB1 := since_step (Below.refl w.heap.size w) hb1
    clear hb1
    go_wp2_with fail
    refine (HU.out _).mono ?_
    rintro e w2 ⟨rfl, hb2⟩
    have hB2 := since_step hB1 hb2
    clear hb2
    go_wp2_with fail
    refine (lives02_any _).mono ?_
    rintro e w3 ⟨rfl, hb3⟩
    have hB3 := since_step hB2 hb3
    go_wp2_with fail
    go_ret
    exact ⟨rfl, hB3⟩
  · obtain ⟨d, rfl⟩ := Int.eq_ofNat_of_zero_le (show 0 ≤ a2 by omega)
    have hd0 : 0 < d := by omega
    have hd1 : d < 9223372036854775808 := by unfold In64 at hd; omega
    have HC := Lib.hid (fscale_pos a0 a1 d ha hn hd0 hd1)
    have HU := Lib.hid (fup_pos a0 a1 d ha hn hd0 hd1)
    have HDV := Lib.hid (fun s A n c w la hx => bdiv_any (a0 * a1) s A n c d w la hd0 hd1 hx)
    have HRU := Lib.hid (fun s A n c w la hx => rup_any (a0 * a1) s A n c d w la hd0 hd1 hx)
    have hin := mul_in128 ha hn
    have hqin := div_in128 hin d hd0
    have huin := up_in128 hin d hd0
    have hr1 := Int.emod_nonneg (a0 * a1) (show (d : Int) ≠ 0 by omega)
    have hr2 := Int.emod_lt_of_pos (a0 * a1) (show (0 : Int) < (d : Int) by omega)
    have k1 : decide ((d : Int) ≤ 0) = false := decide_eq_false (by omega)
    have k1' : ¬ (d : Int) ≤ 0 := by omega
    have k2 : IntKind.u64.wrap (d : Int) = (d : Int) := by rw [IntKind.wrap_u64]; omega
    have e1 : sV (a0 * a1) d = fV (a0 * a1 / (d : Int)) := rfl
    have e2 : sE (a0 * a1) d = fE (a0 * a1 / (d : Int)) := rfl
    rw [e1, e2] at HC
    clear e1 e2
    have key : (fE (a0 * a1 / (d : Int)) = 0 ∧ sR (a0 * a1) d = a0 * a1 % (d : Int)) ∨ (fE (a0 * a1 / (d : Int)) = 7 ∧ sR (a0 * a1) d = 0) := by
      by_cases h : In64 (a0 * a1 / (d : Int))
      · exact Or.inl ⟨if_pos h, if_pos h⟩
      · exact Or.inr ⟨if_neg h, if_neg h⟩
    have HIS := Lib.hid (fun s A n c w la hx => is_any (a0 * a1 / (d : Int)) s A n c w la hx)
    have HZ := Lib.hid (show a0 * a1 = a0 * a1 from rfl)
    have HMU := Lib.hid (fun w A B na ca nb cb sx sy la lb hx hy => bmul_any a0 a1 sx sy A B na ca nb cb w la lb hx hy)
    have HOF0 := Lib.hid (fun w => bof_any a0 w ha)
    have HOF1 := Lib.hid (fun w => bof_any a1 w hn)
    have k3 : IntKind.u64.wrap (a0 * a1 % (d : Int)) = a0 * a1 % (d : Int) := by rw [IntKind.wrap_u64]; omega
    have hzl : ∀ {w1 w2 w3 : World} {s1 s2 s3 : Bool} {A1 A2 A3 : Option Addr} {n1 n2 n3 c1 c2 c3 : Nat}, BigAt w1 s1 A1 n1 c1 a0 → BigAt w2 s2 A2 n2 c2 a1 → BigAt w3 s3 A3 n3 c3 (a0 * a1) → n3 ≤ 128 := by
      intro w1 w2 w3 s1 s2 s3 A1 A2 A3 n1 n2 n3 c1 c2 c3 h1 h2 h3
      have l1 : n1 ≤ 64 := (h1.len (k := 64)).2 (by unfold In64 at ha; simp; omega)
      have l2 : n2 ≤ 64 := (h2.len (k := 64)).2 (by unfold In64 at hn; simp; omega)
      have := len_mul h1 h2 h3
      omega
    have HZL := @hzl
    clear hzl
    have hq128 : (a0 * a1 / (d : Int)).natAbs < 2 ^ 128 := by unfold In128 at hqin; rw [show (2 : Nat) ^ 128 = 340282366920938463463374607431768211456 from by decide]; omega
    have hu128 : (upZ (a0 * a1) d).natAbs < 2 ^ 128 := by unfold In128 at huin; rw [show (2 : Nat) ^ 128 = 340282366920938463463374607431768211456 from by decide]; omega
    have HQ128 := Lib.hid hq128
    have HU128 := Lib.hid hu128
    have l0 : ∀ {w1 : World} {s1 : Bool} {A1 : Option Addr} {n1 c1 : Nat}, BigAt w1 s1 A1 n1 c1 a0 → n1 ≤ 64 := fun h1 => (h1.len (k := 64)).2 (by unfold In64 at ha; simp; omega)
    have l1 : ∀ {w1 : World} {s1 : Bool} {A1 : Option Addr} {n1 c1 : Nat}, BigAt w1 s1 A1 n1 c1 a1 → n1 ≤ 64 := fun h1 => (h1.len (k := 64)).2 (by unfold In64 at hn; simp; omega)
    clear hq128 hu128 hin hqin huin h0 hd ha hn HZ
    generalize a0 * a1 = z at *
    generalize z / (d : Int) = q at *
    generalize z % (d : Int) = r at *
    go_enter Try.func4, Try.ntmps4
    go_wp2_with fail
    refine (HC.out _).mono ?_
    rintro e w1 ⟨rfl, hb1⟩
    have hB1 := since_step (Below.refl w.heap.size w) hb1
    clear hb1
    go_wp2_with fail
    refine (HU.out _).mono ?_
    rintro e w2 ⟨rfl, hb2⟩
    have hB2 := since_step hB1 hb2
    clear hb2 hB1 HC HU
    go_wp2_with fail
    refine (HOF0.out _).mono ?_
    rintro e w3 ⟨⟨s3, A3, n3, c3, rfl, hf3, X3⟩, hb3⟩
    have hB3 := since_step hB2 hb3
    clear hb3 hf3
    go_wp2_with fail
    refine (HOF1.out _).mono ?_
    rintro e w4 ⟨⟨s4, A4, n4, c4, rfl, hf4, X4⟩, hb4⟩
    have hB4 := since_step hB3 hb4
    have X3 := X3.below hb4
    clear hb4 hf4
    go_wp2_with fail
    refine (HMU.out _ _ _ _ _ _ _ _ _ (by have := l0 X3; omega) (by have := l1 X4; omega) X3 X4).mono ?_
    rintro e w5 ⟨⟨s5, A5, n5, c5, rfl, hf5, X5⟩, hb5⟩
    have n5l := HZL X3 X4 X5
    have hB5 := since_alloc (since_step hB4 hb5) (.cells #[.bool s5, .slice A5 n5 c5] 30)
    have G5 := BB.new w5 s5 A5 n5 c5 30
    have X6 := X5.alloc (.cells #[.bool s5, .slice A5 n5 c5] 30)
    clear hb5 hf5 X3 X4 X5 HZL l0 l1 hB4 hB3 HOF0 HOF1 HMU
    go_upto_region 9 with fail
    generalize w5.alloc (.cells #[.bool s5, .slice A5 n5 c5] 30) = W5 at *
    obtain ⟨t0, t1, t2, t3, t4⟩ := _root_.id G5
    go_wp2_with fail
    refine (HDV.out _ _ _ _ _ (by omega) X6).mono ?_
    rintro e w7 ⟨⟨s7, A7, n7, c7, rfl, hf7, X7⟩, hb7⟩
    have n7l : n7 ≤ 128 := X7.len.2 HQ128.out
    have hB7 := since_alloc (since_step hB5 hb7) (.cells #[.bool s7, .slice A7 n7 c7] 30)
    have G7 := (G5.below hb7).alloc (.cells #[.bool s7, .slice A7 n7 c7] 30)
    have K7 := BB.new w7 s7 A7 n7 c7 30
    have X8 := X7.alloc (.cells #[.bool s7, .slice A7 n7 c7] 30)
    have X9 := (X6.below hb7).alloc (.cells #[.bool s7, .slice A7 n7 c7] 30)
    clear hb7 hf7 X6 X7 t0 t1 t2 t3 t4 HQ128
    go_upto_region 10 with fail
    generalize w7.alloc (.cells #[.bool s7, .slice A7 n7 c7] 30) = W7 at *
    obtain ⟨t0, t1, t2, t3, t4⟩ := _root_.id K7
    go_wp2_with fail
    refine (HIS.out _ _ _ _ _ (by omega) X8).mono ?_
    rintro e w8 ⟨rfl, hb8⟩
    have hB8 := since_step hB7 hb8
    have G8 := G7.below hb8
    have X10 := X9.below hb8
    clear hb8 X8 X9 G7 K7 t0 t1 t2 t3 t4
    obtain ⟨t0, t1, t2, t3, t4⟩ := _root_.id G8
    rcases key with ⟨y1, y2⟩ | ⟨y1, y2⟩
    all_goals
      rw [y1, y2]
      go_wp2_with fail
      refine (HRU.out _ _ _ _ _ (by omega) X10).mono ?_
      rintro e w9 ⟨⟨s9, A9, n9, c9, rfl, hf9, X11⟩, hb9⟩
      have n9l : n9 ≤ 128 := X11.len.2 HU128.out
      have hB9 := since_step hB8 hb9
      clear hb9 hf9
      go_wp2_with fail
      refine (is_any _ _ _ _ _ _ (by omega) X11).mono ?_
      rintro e w10 ⟨rfl, hb10⟩
      have hB10 := since_step hB9 hb10
      go_wp2_with fail
      refine (lives02_any _).mono ?_
      rintro e w11 ⟨rfl, hb11⟩
      have hB11 := since_step hB10 hb11
      go_wp2_with fail
      go_ret
      exact ⟨rfl, hB11⟩
end Go.Proofs.Ytdhlbjagmnmjnaa
