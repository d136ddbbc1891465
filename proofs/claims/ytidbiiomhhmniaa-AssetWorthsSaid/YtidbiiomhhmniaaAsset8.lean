/-
  Layer 12, eighth part: AssetWorths (laid by asset8_mk.py, gen_asset8.py).
-/
import Derived.Test.YtidbiiomhhmniaaAsset7
import Derived.Test.YtidbiiomhhmniaaFix2
namespace Go.Proofs.Ytidbiiomhhmniaa
open Go.ChangeShapes Go.WideShapes Go.ChangeAt Go.RowKit
set_option linter.unusedVariables false
set_option linter.unusedSimpArgs false

theorem rsell_ok (a : Ast) (m : Int) (w : World) (hm : In64 m) (hok : okA a) (h0 : a.price ≠ 0) :
    Calls Try.prog 15 #[astV a, .int .i64 m] w fun e w' => bigR w w' e (upZ m a.price.toNat) ∧ Below w.heap.size w w' := by
  obtain ⟨id, price, hc⟩ := a
  have hp := hok.2.2.1
  simp only at hp h0 ⊢
  obtain ⟨P, rfl⟩ := Int.eq_ofNat_of_zero_le hp.1
  rw [Int.toNat_natCast]
  exact rsell_any id P hc m w hm (by omega) (by omega)

set_option maxRecDepth 100000 in
set_option maxHeartbeats 4000000 in
theorem walk_AssetWorths (a0 : Array Value) (a1 : Int) (a2 : Int) (w : World) (w0 : Rd w (.cat (.int .i64) (.cat (.int .i64) (.cat (.int .i64) .nil))) a0.toList) (w1 : (Lit.int .i64 a1).wf = true) (w2 : (Lit.int .i64 a2).wf = true) :
    Calls Try.prog 3 #[.agg a0, .int .i64 a1, .int .i64 a2] w fun e w' => e = .returned (.bool true) ∧ Below w.heap.size w w' := by
  obtain ⟨a, ha, hid, hpr, hhc⟩ := rd_ast w0
  rw [ha]
  have h1 := bd_i64 w1
  have h2 := bd_i64 w2
  clear w0 ha w1 w2 hid hhc
  have hB0 := since_alloc (Below.refl _ w) (.cells #[.int .i64 a.id, .int .i64 a.price, .int .i64 a.hc] 23)
  have HX0 := Lib.hid (AB.new w a 23)
  have HW := fun W => worth_any a a1 W h1 hpr
  have HN := fun W => count_any a a1 W h1 hpr
  have HS := fun W => sell_any a a2 W h2
  have HI := fun W => arIs_any a W
  by_cases hok : okA a
  · rw [decide_eq_true hok] at HI
    rw [show worthV a a1 = fV (a1 * a.price) from if_pos hok, show worthE a a1 = fE (a1 * a.price) from if_pos hok] at HW
    have HRW := fun W => rworth_any a a1 W h1 hpr
    have hrc := fun W => rcount_any a a1 W h1 hok
    have hrs := fun (h0 : a.price ≠ 0) W => rsell_ok a a2 W h2 hok h0
    have hl : ∀ (W : World) (s' : Bool) (A : Option Addr) (n c : Nat), BigAt W s' A n c (a1 * a.price) → n ≤ 128 := fun W s' A n c h => h.len.2 (by
      have g1 : a1.natAbs < 2 ^ 64 := by simp; omega
      have g2 : a.price.natAbs < 2 ^ 64 := by unfold In64 at hpr; simp; omega
      rw [Int.natAbs_mul, show (2 : Nat) ^ 128 = 2 ^ 64 * 2 ^ 64 from by decide]
      exact Nat.mul_lt_mul'' g1 g2)
    have hu : a.price ≠ 0 → In64 (upZ a2 a.price.toNat) ∨ True := fun _ => Or.inr trivial
    have hlu : ∀ (W : World) (s' : Bool) (A : Option Addr) (n c : Nat), a.price ≠ 0 → BigAt W s' A n c (upZ a2 a.price.toNat) → n ≤ 128 := fun W s' A n c h0 h => h.len.2 (by
      have hp := hok.2.2.1
      have g := up_in128 (z := a2) (by unfold In128; omega) a.price.toNat (by omega)
      unfold In128 at g
      rw [show (2 : Nat) ^ 128 = 340282366920938463463374607431768211456 from by decide]
      omega)
    have hT : (a2 ≤ 0 ∧ sellV a a2 = 0 ∧ sellE a a2 = 0) ∨ (¬ a2 ≤ 0 ∧ a.price = 0 ∧ sellV a a2 = 0 ∧ sellE a a2 = 8) ∨ (¬ a2 ≤ 0 ∧ a.price ≠ 0 ∧ sellV a a2 = fV (upZ a2 a.price.toNat) ∧ sellE a a2 = fE (upZ a2 a.price.toNat)) := by
      have hp := hok.2.2.1
      by_cases hm : a2 ≤ 0
      · exact Or.inl ⟨hm, if_neg fun h => by omega, (if_pos hok).trans (if_pos hm)⟩
      · by_cases hp0 : a.price = 0
        · exact Or.inr (Or.inl ⟨hm, hp0, if_neg fun h => by omega, (if_pos hok).trans ((if_neg hm).trans (if_pos hp0))⟩)
        · exact Or.inr (Or.inr ⟨hm, hp0, if_pos ⟨hok, by omega, by omega⟩, (if_pos hok).trans ((if_neg hm).trans (if_neg hp0))⟩)
    have hC : (a1 < 0 ∧ countV a a1 = 0 ∧ countE a a1 = 2) ∨ (¬ a1 < 0 ∧ ¬ In64 (a1 * a.price) ∧ countV a a1 = 0 ∧ countE a a1 = 7) ∨ (¬ a1 < 0 ∧ In64 (a1 * a.price) ∧ In64 (a1 * a.price * (10000 - a.hc) / 10000) ∧ countV a a1 = fV (a1 * a.price * (10000 - a.hc) / 10000) ∧ countE a a1 = fE (a1 * a.price * (10000 - a.hc) / 10000)) := by
      by_cases hn : a1 < 0
      · exact Or.inl ⟨hn, if_neg fun h => by omega, if_neg fun h => by omega⟩
      · by_cases h6 : In64 (a1 * a.price)
        · have hz : 0 ≤ a1 * a.price := Int.mul_nonneg (by omega) hok.2.2.1.1
          have hr := count_rng hok hz
          have h6' := h6
          obtain ⟨e1, v1⟩ := count_ok hok (show 0 ≤ a1 by omega) h6
          have hc6 : In64 (a1 * a.price * (10000 - a.hc) / 10000) := by unfold In64 at *; omega
          exact Or.inr (Or.inr ⟨hn, h6, hc6, v1.trans (if_pos hc6).symm, e1.trans (if_pos hc6).symm⟩)
        · exact Or.inr (Or.inl ⟨hn, h6, if_neg fun h => h6 h.2.2, (if_pos ⟨hok, by omega⟩).trans (if_neg h6)⟩)
    unfold astV at *
    clear hok h1 h2 hpr hu
    generalize a1 * a.price = z at *
    generalize z * (10000 - a.hc) / 10000 = cz at *
    generalize upZ a2 a.price.toNat = u at *
    have HW := Lib.hid HW
    have HI := Lib.hid HI
    have HRW := Lib.hid HRW
    have HL := Lib.hid hl
    have HRS := Lib.hid hrs
    have HLU := Lib.hid hlu
    clear hl hrs hlu
    rcases hC with ⟨c1, c2, c3⟩ | ⟨c1, c2, c3, c4⟩ | ⟨c1, c2, c3, c4, c5⟩
    · rw [c2, c3] at HN
      have HN := Lib.hid HN
      clear c2 c3 hrc
      rcases hT with ⟨t1, t2, t3⟩ | ⟨t1, t2, t3, t4⟩ | ⟨t1, t2, t3, t4⟩
      · rw [t2, t3] at HS
        have HS := Lib.hid HS
        clear t2 t3 HRS HLU
        go_enter Try.func3, Try.ntmps3
        go_wp2_with fail
        have X0 := HX0.out
        obtain ⟨x0, x1, x2, x3⟩ := _root_.id X0
        go_wp2_with fail
        refine (HW.out _).mono ?_
        rintro e w1 ⟨rfl, hb1⟩
        have X1 := X0.below hb1
        have hB1 := since_step hB0 hb1
        clear hb1 hB0 x0 x1 x2 x3 X0
        obtain ⟨x0, x1, x2, x3⟩ := _root_.id X1
        go_wp2_with fail
        refine (HN.out _).mono ?_
        rintro e w2 ⟨rfl, hb2⟩
        have X2 := X1.below hb2
        have hB2 := since_step hB1 hb2
        clear hb2 hB1 x0 x1 x2 x3 X1
        obtain ⟨x0, x1, x2, x3⟩ := _root_.id X2
        go_wp2_with fail
        refine (HS.out _).mono ?_
        rintro e w3 ⟨rfl, hb3⟩
        have X3 := X2.below hb3
        have hB3 := since_step hB2 hb3
        clear hb3 hB2 x0 x1 x2 x3 X2
        obtain ⟨x0, x1, x2, x3⟩ := _root_.id X3
        go_wp2_with fail
        refine (HI.out _).mono ?_
        rintro e w4 ⟨rfl, hb4⟩
        have X4 := X3.below hb4
        have hB4 := since_step hB3 hb4
        clear hb4 hB3 x0 x1 x2 x3 X3
        obtain ⟨x0, x1, x2, x3⟩ := _root_.id X4
        go_wp2_with fail
        refine (HRW.out _).mono ?_
        rintro e w5 ⟨⟨s5, A5, n5, c5, rfl, hq5, Y5⟩, hb5⟩
        have M5 := HL.out _ _ _ _ _ Y5
        clear hq5
        have X5 := X4.below hb5
        have hB5 := since_step hB4 hb5
        clear hb5 hB4 x0 x1 x2 x3 X4
        obtain ⟨x0, x1, x2, x3⟩ := _root_.id X5
        go_wp2_with fail
        refine (is_any z _ _ _ _ _ (by omega) Y5).mono ?_
        rintro e w6 ⟨rfl, hb6⟩
        have X6 := X5.below hb6
        have hB6 := since_step hB5 hb6
        clear hb6 hB5 x0 x1 x2 x3 X5
        obtain ⟨x0, x1, x2, x3⟩ := _root_.id X6
        go_wp2_with fail
        refine (lives12_any _).mono ?_
        rintro e w7 ⟨rfl, hb7⟩
        have hB7 := since_step hB6 hb7
        go_wp2_with fail
        go_ret
        exact ⟨rfl, hB7⟩
      · rw [t3, t4] at HS
        have HS := Lib.hid HS
        have bp : (a.price == 0) = true := by rw [t2]; rfl
        clear t2 t3 t4 HRS HLU
        go_enter Try.func3, Try.ntmps3
        go_wp2_with fail
        have X0 := HX0.out
        obtain ⟨x0, x1, x2, x3⟩ := _root_.id X0
        go_wp2_with fail
        refine (HW.out _).mono ?_
        rintro e w1 ⟨rfl, hb1⟩
        have X1 := X0.below hb1
        have hB1 := since_step hB0 hb1
        clear hb1 hB0 x0 x1 x2 x3 X0
        obtain ⟨x0, x1, x2, x3⟩ := _root_.id X1
        go_wp2_with fail
        refine (HN.out _).mono ?_
        rintro e w2 ⟨rfl, hb2⟩
        have X2 := X1.below hb2
        have hB2 := since_step hB1 hb2
        clear hb2 hB1 x0 x1 x2 x3 X1
        obtain ⟨x0, x1, x2, x3⟩ := _root_.id X2
        go_wp2_with fail
        refine (HS.out _).mono ?_
        rintro e w3 ⟨rfl, hb3⟩
        have X3 := X2.below hb3
        have hB3 := since_step hB2 hb3
        clear hb3 hB2 x0 x1 x2 x3 X2
        obtain ⟨x0, x1, x2, x3⟩ := _root_.id X3
        go_wp2_with fail
        refine (HI.out _).mono ?_
        rintro e w4 ⟨rfl, hb4⟩
        have X4 := X3.below hb4
        have hB4 := since_step hB3 hb4
        clear hb4 hB3 x0 x1 x2 x3 X3
        obtain ⟨x0, x1, x2, x3⟩ := _root_.id X4
        go_wp2_with fail
        refine (HRW.out _).mono ?_
        rintro e w5 ⟨⟨s5, A5, n5, c5, rfl, hq5, Y5⟩, hb5⟩
        have M5 := HL.out _ _ _ _ _ Y5
        clear hq5
        have X5 := X4.below hb5
        have hB5 := since_step hB4 hb5
        clear hb5 hB4 x0 x1 x2 x3 X4
        obtain ⟨x0, x1, x2, x3⟩ := _root_.id X5
        go_wp2_with fail
        refine (is_any z _ _ _ _ _ (by omega) Y5).mono ?_
        rintro e w6 ⟨rfl, hb6⟩
        have X6 := X5.below hb6
        have hB6 := since_step hB5 hb6
        clear hb6 hB5 x0 x1 x2 x3 X5
        obtain ⟨x0, x1, x2, x3⟩ := _root_.id X6
        go_wp2_with fail
        refine (lives12_any _).mono ?_
        rintro e w7 ⟨rfl, hb7⟩
        have hB7 := since_step hB6 hb7
        go_wp2_with fail
        go_ret
        exact ⟨rfl, hB7⟩
      · rw [t3, t4] at HS
        have HS := Lib.hid HS
        have HRS := Lib.hid (HRS.out t2)
        have HP0 := Lib.hid t2
        have bp : (a.price == 0) = false := by rw [beq_eq_false_iff_ne]; exact t2
        clear t2 t3 t4
        go_enter Try.func3, Try.ntmps3
        go_wp2_with fail
        have X0 := HX0.out
        obtain ⟨x0, x1, x2, x3⟩ := _root_.id X0
        go_wp2_with fail
        refine (HW.out _).mono ?_
        rintro e w1 ⟨rfl, hb1⟩
        have X1 := X0.below hb1
        have hB1 := since_step hB0 hb1
        clear hb1 hB0 x0 x1 x2 x3 X0
        obtain ⟨x0, x1, x2, x3⟩ := _root_.id X1
        go_wp2_with fail
        refine (HN.out _).mono ?_
        rintro e w2 ⟨rfl, hb2⟩
        have X2 := X1.below hb2
        have hB2 := since_step hB1 hb2
        clear hb2 hB1 x0 x1 x2 x3 X1
        obtain ⟨x0, x1, x2, x3⟩ := _root_.id X2
        go_wp2_with fail
        refine (HS.out _).mono ?_
        rintro e w3 ⟨rfl, hb3⟩
        have X3 := X2.below hb3
        have hB3 := since_step hB2 hb3
        clear hb3 hB2 x0 x1 x2 x3 X2
        obtain ⟨x0, x1, x2, x3⟩ := _root_.id X3
        go_wp2_with fail
        refine (HI.out _).mono ?_
        rintro e w4 ⟨rfl, hb4⟩
        have X4 := X3.below hb4
        have hB4 := since_step hB3 hb4
        clear hb4 hB3 x0 x1 x2 x3 X3
        obtain ⟨x0, x1, x2, x3⟩ := _root_.id X4
        go_wp2_with fail
        refine (HRW.out _).mono ?_
        rintro e w5 ⟨⟨s5, A5, n5, c5, rfl, hq5, Y5⟩, hb5⟩
        have M5 := HL.out _ _ _ _ _ Y5
        clear hq5
        have X5 := X4.below hb5
        have hB5 := since_step hB4 hb5
        clear hb5 hB4 x0 x1 x2 x3 X4
        obtain ⟨x0, x1, x2, x3⟩ := _root_.id X5
        go_wp2_with fail
        refine (is_any z _ _ _ _ _ (by omega) Y5).mono ?_
        rintro e w6 ⟨rfl, hb6⟩
        have X6 := X5.below hb6
        have hB6 := since_step hB5 hb6
        clear hb6 hB5 x0 x1 x2 x3 X5
        obtain ⟨x0, x1, x2, x3⟩ := _root_.id X6
        go_wp2_with fail
        refine (HRS.out _).mono ?_
        rintro e w7 ⟨⟨s7, A7, n7, c7, rfl, hq7, Y7⟩, hb7⟩
        have M7 := HLU.out _ _ _ _ _ HP0.out Y7
        clear hq7
        have X7 := X6.below hb7
        have hB7 := since_step hB6 hb7
        clear hb7 hB6 x0 x1 x2 x3 X6
        obtain ⟨x0, x1, x2, x3⟩ := _root_.id X7
        go_wp2_with fail
        refine (is_any u _ _ _ _ _ (by omega) Y7).mono ?_
        rintro e w8 ⟨rfl, hb8⟩
        have X8 := X7.below hb8
        have hB8 := since_step hB7 hb8
        clear hb8 hB7 x0 x1 x2 x3 X7
        obtain ⟨x0, x1, x2, x3⟩ := _root_.id X8
        go_wp2_with fail
        refine (lives12_any _).mono ?_
        rintro e w9 ⟨rfl, hb9⟩
        have hB9 := since_step hB8 hb9
        go_wp2_with fail
        go_ret
        exact ⟨rfl, hB9⟩
    · rw [c3, c4] at HN
      have HN := Lib.hid HN
      have hft := fun (W : World) (s' : Bool) (A : Option Addr) (n c : Nat) (la : n ≤ 100000) (h : BigAt W s' A n c z) => bfits_any z s' A n c W la h
      rw [show decide (inN z 63) = false from decide_eq_false fun g => c2 ((in64_iff _).1 g)] at hft
      have HFT := Lib.hid hft
      clear c2 c3 c4 hrc hft
      rcases hT with ⟨t1, t2, t3⟩ | ⟨t1, t2, t3, t4⟩ | ⟨t1, t2, t3, t4⟩
      · rw [t2, t3] at HS
        have HS := Lib.hid HS
        clear t2 t3 HRS HLU
        go_enter Try.func3, Try.ntmps3
        go_wp2_with fail
        have X0 := HX0.out
        obtain ⟨x0, x1, x2, x3⟩ := _root_.id X0
        go_wp2_with fail
        refine (HW.out _).mono ?_
        rintro e w1 ⟨rfl, hb1⟩
        have X1 := X0.below hb1
        have hB1 := since_step hB0 hb1
        clear hb1 hB0 x0 x1 x2 x3 X0
        obtain ⟨x0, x1, x2, x3⟩ := _root_.id X1
        go_wp2_with fail
        refine (HN.out _).mono ?_
        rintro e w2 ⟨rfl, hb2⟩
        have X2 := X1.below hb2
        have hB2 := since_step hB1 hb2
        clear hb2 hB1 x0 x1 x2 x3 X1
        obtain ⟨x0, x1, x2, x3⟩ := _root_.id X2
        go_wp2_with fail
        refine (HS.out _).mono ?_
        rintro e w3 ⟨rfl, hb3⟩
        have X3 := X2.below hb3
        have hB3 := since_step hB2 hb3
        clear hb3 hB2 x0 x1 x2 x3 X2
        obtain ⟨x0, x1, x2, x3⟩ := _root_.id X3
        go_wp2_with fail
        refine (HI.out _).mono ?_
        rintro e w4 ⟨rfl, hb4⟩
        have X4 := X3.below hb4
        have hB4 := since_step hB3 hb4
        clear hb4 hB3 x0 x1 x2 x3 X3
        obtain ⟨x0, x1, x2, x3⟩ := _root_.id X4
        go_wp2_with fail
        refine (HRW.out _).mono ?_
        rintro e w5 ⟨⟨s5, A5, n5, c5, rfl, hq5, Y5⟩, hb5⟩
        have M5 := HL.out _ _ _ _ _ Y5
        clear hq5
        have X5 := X4.below hb5
        have hB5 := since_step hB4 hb5
        clear hb5 hB4 x0 x1 x2 x3 X4
        obtain ⟨x0, x1, x2, x3⟩ := _root_.id X5
        go_wp2_with fail
        refine (is_any z _ _ _ _ _ (by omega) Y5).mono ?_
        rintro e w6 ⟨rfl, hb6⟩
        have X6 := X5.below hb6
        have hB6 := since_step hB5 hb6
        clear hb6 hB5 x0 x1 x2 x3 X5
        obtain ⟨x0, x1, x2, x3⟩ := _root_.id X6
        go_wp2_with fail
        refine (HRW.out _).mono ?_
        rintro e w7 ⟨⟨s7, A7, n7, c7, rfl, hq7, Y7⟩, hb7⟩
        have M7 := HL.out _ _ _ _ _ Y7
        clear hq7
        have X7 := X6.below hb7
        have hB7 := since_step hB6 hb7
        clear hb7 hB6 x0 x1 x2 x3 X6
        obtain ⟨x0, x1, x2, x3⟩ := _root_.id X7
        go_wp2_with fail
        have HF := HFT.out _ s7 A7 n7 c7 (by omega) Y7
        clear Y7 Y5
        refine (HF).mono ?_
        rintro e w8 ⟨rfl, hb8⟩
        have X8 := X7.below hb8
        have hB8 := since_step hB7 hb8
        clear hb8 hB7 x0 x1 x2 x3 X7
        obtain ⟨x0, x1, x2, x3⟩ := _root_.id X8
        go_wp2_with fail
        clear HF
        refine (lives12_any _).mono ?_
        rintro e w9 ⟨rfl, hb9⟩
        have hB9 := since_step hB8 hb9
        go_wp2_with fail
        go_ret
        exact ⟨rfl, hB9⟩
      · rw [t3, t4] at HS
        have HS := Lib.hid HS
        have bp : (a.price == 0) = true := by rw [t2]; rfl
        clear t2 t3 t4 HRS HLU
        go_enter Try.func3, Try.ntmps3
        go_wp2_with fail
        have X0 := HX0.out
        obtain ⟨x0, x1, x2, x3⟩ := _root_.id X0
        go_wp2_with fail
        refine (HW.out _).mono ?_
        rintro e w1 ⟨rfl, hb1⟩
        have X1 := X0.below hb1
        have hB1 := since_step hB0 hb1
        clear hb1 hB0 x0 x1 x2 x3 X0
        obtain ⟨x0, x1, x2, x3⟩ := _root_.id X1
        go_wp2_with fail
        refine (HN.out _).mono ?_
        rintro e w2 ⟨rfl, hb2⟩
        have X2 := X1.below hb2
        have hB2 := since_step hB1 hb2
        clear hb2 hB1 x0 x1 x2 x3 X1
        obtain ⟨x0, x1, x2, x3⟩ := _root_.id X2
        go_wp2_with fail
        refine (HS.out _).mono ?_
        rintro e w3 ⟨rfl, hb3⟩
        have X3 := X2.below hb3
        have hB3 := since_step hB2 hb3
        clear hb3 hB2 x0 x1 x2 x3 X2
        obtain ⟨x0, x1, x2, x3⟩ := _root_.id X3
        go_wp2_with fail
        refine (HI.out _).mono ?_
        rintro e w4 ⟨rfl, hb4⟩
        have X4 := X3.below hb4
        have hB4 := since_step hB3 hb4
        clear hb4 hB3 x0 x1 x2 x3 X3
        obtain ⟨x0, x1, x2, x3⟩ := _root_.id X4
        go_wp2_with fail
        refine (HRW.out _).mono ?_
        rintro e w5 ⟨⟨s5, A5, n5, c5, rfl, hq5, Y5⟩, hb5⟩
        have M5 := HL.out _ _ _ _ _ Y5
        clear hq5
        have X5 := X4.below hb5
        have hB5 := since_step hB4 hb5
        clear hb5 hB4 x0 x1 x2 x3 X4
        obtain ⟨x0, x1, x2, x3⟩ := _root_.id X5
        go_wp2_with fail
        refine (is_any z _ _ _ _ _ (by omega) Y5).mono ?_
        rintro e w6 ⟨rfl, hb6⟩
        have X6 := X5.below hb6
        have hB6 := since_step hB5 hb6
        clear hb6 hB5 x0 x1 x2 x3 X5
        obtain ⟨x0, x1, x2, x3⟩ := _root_.id X6
        go_wp2_with fail
        refine (HRW.out _).mono ?_
        rintro e w7 ⟨⟨s7, A7, n7, c7, rfl, hq7, Y7⟩, hb7⟩
        have M7 := HL.out _ _ _ _ _ Y7
        clear hq7
        have X7 := X6.below hb7
        have hB7 := since_step hB6 hb7
        clear hb7 hB6 x0 x1 x2 x3 X6
        obtain ⟨x0, x1, x2, x3⟩ := _root_.id X7
        go_wp2_with fail
        have HF := HFT.out _ s7 A7 n7 c7 (by omega) Y7
        clear Y7 Y5
        refine (HF).mono ?_
        rintro e w8 ⟨rfl, hb8⟩
        have X8 := X7.below hb8
        have hB8 := since_step hB7 hb8
        clear hb8 hB7 x0 x1 x2 x3 X7
        obtain ⟨x0, x1, x2, x3⟩ := _root_.id X8
        go_wp2_with fail
        clear HF
        refine (lives12_any _).mono ?_
        rintro e w9 ⟨rfl, hb9⟩
        have hB9 := since_step hB8 hb9
        go_wp2_with fail
        go_ret
        exact ⟨rfl, hB9⟩
      · rw [t3, t4] at HS
        have HS := Lib.hid HS
        have HRS := Lib.hid (HRS.out t2)
        have HP0 := Lib.hid t2
        have bp : (a.price == 0) = false := by rw [beq_eq_false_iff_ne]; exact t2
        clear t2 t3 t4
        go_enter Try.func3, Try.ntmps3
        go_wp2_with fail
        have X0 := HX0.out
        obtain ⟨x0, x1, x2, x3⟩ := _root_.id X0
        go_wp2_with fail
        refine (HW.out _).mono ?_
        rintro e w1 ⟨rfl, hb1⟩
        have X1 := X0.below hb1
        have hB1 := since_step hB0 hb1
        clear hb1 hB0 x0 x1 x2 x3 X0
        obtain ⟨x0, x1, x2, x3⟩ := _root_.id X1
        go_wp2_with fail
        refine (HN.out _).mono ?_
        rintro e w2 ⟨rfl, hb2⟩
        have X2 := X1.below hb2
        have hB2 := since_step hB1 hb2
        clear hb2 hB1 x0 x1 x2 x3 X1
        obtain ⟨x0, x1, x2, x3⟩ := _root_.id X2
        go_wp2_with fail
        refine (HS.out _).mono ?_
        rintro e w3 ⟨rfl, hb3⟩
        have X3 := X2.below hb3
        have hB3 := since_step hB2 hb3
        clear hb3 hB2 x0 x1 x2 x3 X2
        obtain ⟨x0, x1, x2, x3⟩ := _root_.id X3
        go_wp2_with fail
        refine (HI.out _).mono ?_
        rintro e w4 ⟨rfl, hb4⟩
        have X4 := X3.below hb4
        have hB4 := since_step hB3 hb4
        clear hb4 hB3 x0 x1 x2 x3 X3
        obtain ⟨x0, x1, x2, x3⟩ := _root_.id X4
        go_wp2_with fail
        refine (HRW.out _).mono ?_
        rintro e w5 ⟨⟨s5, A5, n5, c5, rfl, hq5, Y5⟩, hb5⟩
        have M5 := HL.out _ _ _ _ _ Y5
        clear hq5
        have X5 := X4.below hb5
        have hB5 := since_step hB4 hb5
        clear hb5 hB4 x0 x1 x2 x3 X4
        obtain ⟨x0, x1, x2, x3⟩ := _root_.id X5
        go_wp2_with fail
        refine (is_any z _ _ _ _ _ (by omega) Y5).mono ?_
        rintro e w6 ⟨rfl, hb6⟩
        have X6 := X5.below hb6
        have hB6 := since_step hB5 hb6
        clear hb6 hB5 x0 x1 x2 x3 X5
        obtain ⟨x0, x1, x2, x3⟩ := _root_.id X6
        go_wp2_with fail
        refine (HRW.out _).mono ?_
        rintro e w7 ⟨⟨s7, A7, n7, c7, rfl, hq7, Y7⟩, hb7⟩
        have M7 := HL.out _ _ _ _ _ Y7
        clear hq7
        have X7 := X6.below hb7
        have hB7 := since_step hB6 hb7
        clear hb7 hB6 x0 x1 x2 x3 X6
        obtain ⟨x0, x1, x2, x3⟩ := _root_.id X7
        go_wp2_with fail
        have HF := HFT.out _ s7 A7 n7 c7 (by omega) Y7
        clear Y7 Y5
        refine (HF).mono ?_
        rintro e w8 ⟨rfl, hb8⟩
        have X8 := X7.below hb8
        have hB8 := since_step hB7 hb8
        clear hb8 hB7 x0 x1 x2 x3 X7
        obtain ⟨x0, x1, x2, x3⟩ := _root_.id X8
        go_wp2_with fail
        clear HF
        refine (HRS.out _).mono ?_
        rintro e w9 ⟨⟨s9, A9, n9, c9, rfl, hq9, Y9⟩, hb9⟩
        have M9 := HLU.out _ _ _ _ _ HP0.out Y9
        clear hq9
        have X9 := X8.below hb9
        have hB9 := since_step hB8 hb9
        clear hb9 hB8 x0 x1 x2 x3 X8
        obtain ⟨x0, x1, x2, x3⟩ := _root_.id X9
        go_wp2_with fail
        refine (is_any u _ _ _ _ _ (by omega) Y9).mono ?_
        rintro e w10 ⟨rfl, hb10⟩
        have X10 := X9.below hb10
        have hB10 := since_step hB9 hb10
        clear hb10 hB9 x0 x1 x2 x3 X9
        obtain ⟨x0, x1, x2, x3⟩ := _root_.id X10
        go_wp2_with fail
        refine (lives12_any _).mono ?_
        rintro e w11 ⟨rfl, hb11⟩
        have hB11 := since_step hB10 hb11
        go_wp2_with fail
        go_ret
        exact ⟨rfl, hB11⟩
    · rw [c4, c5] at HN
      have HN := Lib.hid HN
      have hft := fun (W : World) (s' : Bool) (A : Option Addr) (n c : Nat) (la : n ≤ 100000) (h : BigAt W s' A n c z) => bfits_any z s' A n c W la h
      rw [show decide (inN z 63) = true from decide_eq_true ((in64_iff _).2 c2)] at hft
      have HFT := Lib.hid hft
      have HRC := Lib.hid hrc
      have HLC := Lib.hid (fun (W : World) (s' : Bool) (A : Option Addr) (n c : Nat) (h : BigAt W s' A n c cz) => h.l64 c3)
      clear c2 c3 c4 c5 hrc hft
      rcases hT with ⟨t1, t2, t3⟩ | ⟨t1, t2, t3, t4⟩ | ⟨t1, t2, t3, t4⟩
      · rw [t2, t3] at HS
        have HS := Lib.hid HS
        clear t2 t3 HRS HLU
        go_enter Try.func3, Try.ntmps3
        go_wp2_with fail
        have X0 := HX0.out
        obtain ⟨x0, x1, x2, x3⟩ := _root_.id X0
        go_wp2_with fail
        refine (HW.out _).mono ?_
        rintro e w1 ⟨rfl, hb1⟩
        have X1 := X0.below hb1
        have hB1 := since_step hB0 hb1
        clear hb1 hB0 x0 x1 x2 x3 X0
        obtain ⟨x0, x1, x2, x3⟩ := _root_.id X1
        go_wp2_with fail
        refine (HN.out _).mono ?_
        rintro e w2 ⟨rfl, hb2⟩
        have X2 := X1.below hb2
        have hB2 := since_step hB1 hb2
        clear hb2 hB1 x0 x1 x2 x3 X1
        obtain ⟨x0, x1, x2, x3⟩ := _root_.id X2
        go_wp2_with fail
        refine (HS.out _).mono ?_
        rintro e w3 ⟨rfl, hb3⟩
        have X3 := X2.below hb3
        have hB3 := since_step hB2 hb3
        clear hb3 hB2 x0 x1 x2 x3 X2
        obtain ⟨x0, x1, x2, x3⟩ := _root_.id X3
        go_wp2_with fail
        refine (HI.out _).mono ?_
        rintro e w4 ⟨rfl, hb4⟩
        have X4 := X3.below hb4
        have hB4 := since_step hB3 hb4
        clear hb4 hB3 x0 x1 x2 x3 X3
        obtain ⟨x0, x1, x2, x3⟩ := _root_.id X4
        go_wp2_with fail
        refine (HRW.out _).mono ?_
        rintro e w5 ⟨⟨s5, A5, n5, c5, rfl, hq5, Y5⟩, hb5⟩
        have M5 := HL.out _ _ _ _ _ Y5
        clear hq5
        have X5 := X4.below hb5
        have hB5 := since_step hB4 hb5
        clear hb5 hB4 x0 x1 x2 x3 X4
        obtain ⟨x0, x1, x2, x3⟩ := _root_.id X5
        go_wp2_with fail
        refine (is_any z _ _ _ _ _ (by omega) Y5).mono ?_
        rintro e w6 ⟨rfl, hb6⟩
        have X6 := X5.below hb6
        have hB6 := since_step hB5 hb6
        clear hb6 hB5 x0 x1 x2 x3 X5
        obtain ⟨x0, x1, x2, x3⟩ := _root_.id X6
        go_wp2_with fail
        refine (HRW.out _).mono ?_
        rintro e w7 ⟨⟨s7, A7, n7, c7, rfl, hq7, Y7⟩, hb7⟩
        have M7 := HL.out _ _ _ _ _ Y7
        clear hq7
        have X7 := X6.below hb7
        have hB7 := since_step hB6 hb7
        clear hb7 hB6 x0 x1 x2 x3 X6
        obtain ⟨x0, x1, x2, x3⟩ := _root_.id X7
        go_wp2_with fail
        have HF := HFT.out _ s7 A7 n7 c7 (by omega) Y7
        clear Y7 Y5
        refine (HF).mono ?_
        rintro e w8 ⟨rfl, hb8⟩
        have X8 := X7.below hb8
        have hB8 := since_step hB7 hb8
        clear hb8 hB7 x0 x1 x2 x3 X7
        obtain ⟨x0, x1, x2, x3⟩ := _root_.id X8
        go_wp2_with fail
        clear HF
        refine (HRC.out _).mono ?_
        rintro e w9 ⟨⟨s9, A9, n9, c9, rfl, hq9, Y9⟩, hb9⟩
        have M9 := HLC.out _ _ _ _ _ Y9
        clear hq9
        have X9 := X8.below hb9
        have hB9 := since_step hB8 hb9
        clear hb9 hB8 x0 x1 x2 x3 X8
        obtain ⟨x0, x1, x2, x3⟩ := _root_.id X9
        go_wp2_with fail
        refine (is_any cz _ _ _ _ _ (by omega) Y9).mono ?_
        rintro e w10 ⟨rfl, hb10⟩
        have X10 := X9.below hb10
        have hB10 := since_step hB9 hb10
        clear hb10 hB9 x0 x1 x2 x3 X9
        obtain ⟨x0, x1, x2, x3⟩ := _root_.id X10
        go_wp2_with fail
        refine (lives12_any _).mono ?_
        rintro e w11 ⟨rfl, hb11⟩
        have hB11 := since_step hB10 hb11
        go_wp2_with fail
        go_ret
        exact ⟨rfl, hB11⟩
      · rw [t3, t4] at HS
        have HS := Lib.hid HS
        have bp : (a.price == 0) = true := by rw [t2]; rfl
        clear t2 t3 t4 HRS HLU
        go_enter Try.func3, Try.ntmps3
        go_wp2_with fail
        have X0 := HX0.out
        obtain ⟨x0, x1, x2, x3⟩ := _root_.id X0
        go_wp2_with fail
        refine (HW.out _).mono ?_
        rintro e w1 ⟨rfl, hb1⟩
        have X1 := X0.below hb1
        have hB1 := since_step hB0 hb1
        clear hb1 hB0 x0 x1 x2 x3 X0
        obtain ⟨x0, x1, x2, x3⟩ := _root_.id X1
        go_wp2_with fail
        refine (HN.out _).mono ?_
        rintro e w2 ⟨rfl, hb2⟩
        have X2 := X1.below hb2
        have hB2 := since_step hB1 hb2
        clear hb2 hB1 x0 x1 x2 x3 X1
        obtain ⟨x0, x1, x2, x3⟩ := _root_.id X2
        go_wp2_with fail
        refine (HS.out _).mono ?_
        rintro e w3 ⟨rfl, hb3⟩
        have X3 := X2.below hb3
        have hB3 := since_step hB2 hb3
        clear hb3 hB2 x0 x1 x2 x3 X2
        obtain ⟨x0, x1, x2, x3⟩ := _root_.id X3
        go_wp2_with fail
        refine (HI.out _).mono ?_
        rintro e w4 ⟨rfl, hb4⟩
        have X4 := X3.below hb4
        have hB4 := since_step hB3 hb4
        clear hb4 hB3 x0 x1 x2 x3 X3
        obtain ⟨x0, x1, x2, x3⟩ := _root_.id X4
        go_wp2_with fail
        refine (HRW.out _).mono ?_
        rintro e w5 ⟨⟨s5, A5, n5, c5, rfl, hq5, Y5⟩, hb5⟩
        have M5 := HL.out _ _ _ _ _ Y5
        clear hq5
        have X5 := X4.below hb5
        have hB5 := since_step hB4 hb5
        clear hb5 hB4 x0 x1 x2 x3 X4
        obtain ⟨x0, x1, x2, x3⟩ := _root_.id X5
        go_wp2_with fail
        refine (is_any z _ _ _ _ _ (by omega) Y5).mono ?_
        rintro e w6 ⟨rfl, hb6⟩
        have X6 := X5.below hb6
        have hB6 := since_step hB5 hb6
        clear hb6 hB5 x0 x1 x2 x3 X5
        obtain ⟨x0, x1, x2, x3⟩ := _root_.id X6
        go_wp2_with fail
        refine (HRW.out _).mono ?_
        rintro e w7 ⟨⟨s7, A7, n7, c7, rfl, hq7, Y7⟩, hb7⟩
        have M7 := HL.out _ _ _ _ _ Y7
        clear hq7
        have X7 := X6.below hb7
        have hB7 := since_step hB6 hb7
        clear hb7 hB6 x0 x1 x2 x3 X6
        obtain ⟨x0, x1, x2, x3⟩ := _root_.id X7
        go_wp2_with fail
        have HF := HFT.out _ s7 A7 n7 c7 (by omega) Y7
        clear Y7 Y5
        refine (HF).mono ?_
        rintro e w8 ⟨rfl, hb8⟩
        have X8 := X7.below hb8
        have hB8 := since_step hB7 hb8
        clear hb8 hB7 x0 x1 x2 x3 X7
        obtain ⟨x0, x1, x2, x3⟩ := _root_.id X8
        go_wp2_with fail
        clear HF
        refine (HRC.out _).mono ?_
        rintro e w9 ⟨⟨s9, A9, n9, c9, rfl, hq9, Y9⟩, hb9⟩
        have M9 := HLC.out _ _ _ _ _ Y9
        clear hq9
        have X9 := X8.below hb9
        have hB9 := since_step hB8 hb9
        clear hb9 hB8 x0 x1 x2 x3 X8
        obtain ⟨x0, x1, x2, x3⟩ := _root_.id X9
        go_wp2_with fail
        refine (is_any cz _ _ _ _ _ (by omega) Y9).mono ?_
        rintro e w10 ⟨rfl, hb10⟩
        have X10 := X9.below hb10
        have hB10 := since_step hB9 hb10
        clear hb10 hB9 x0 x1 x2 x3 X9
        obtain ⟨x0, x1, x2, x3⟩ := _root_.id X10
        go_wp2_with fail
        refine (lives12_any _).mono ?_
        rintro e w11 ⟨rfl, hb11⟩
        have hB11 := since_step hB10 hb11
        go_wp2_with fail
        go_ret
        exact ⟨rfl, hB11⟩
      · rw [t3, t4] at HS
        have HS := Lib.hid HS
        have HRS := Lib.hid (HRS.out t2)
        have HP0 := Lib.hid t2
        have bp : (a.price == 0) = false := by rw [beq_eq_false_iff_ne]; exact t2
        clear t2 t3 t4
        go_enter Try.func3, Try.ntmps3
        go_wp2_with fail
        have X0 := HX0.out
        obtain ⟨x0, x1, x2, x3⟩ := _root_.id X0
        go_wp2_with fail
        refine (HW.out _).mono ?_
        rintro e w1 ⟨rfl, hb1⟩
        have X1 := X0.below hb1
        have hB1 := since_step hB0 hb1
        clear hb1 hB0 x0 x1 x2 x3 X0
        obtain ⟨x0, x1, x2, x3⟩ := _root_.id X1
        go_wp2_with fail
        refine (HN.out _).mono ?_
        rintro e w2 ⟨rfl, hb2⟩
        have X2 := X1.below hb2
        have hB2 := since_step hB1 hb2
        clear hb2 hB1 x0 x1 x2 x3 X1
        obtain ⟨x0, x1, x2, x3⟩ := _root_.id X2
        go_wp2_with fail
        refine (HS.out _).mono ?_
        rintro e w3 ⟨rfl, hb3⟩
        have X3 := X2.below hb3
        have hB3 := since_step hB2 hb3
        clear hb3 hB2 x0 x1 x2 x3 X2
        obtain ⟨x0, x1, x2, x3⟩ := _root_.id X3
        go_wp2_with fail
        refine (HI.out _).mono ?_
        rintro e w4 ⟨rfl, hb4⟩
        have X4 := X3.below hb4
        have hB4 := since_step hB3 hb4
        clear hb4 hB3 x0 x1 x2 x3 X3
        obtain ⟨x0, x1, x2, x3⟩ := _root_.id X4
        go_wp2_with fail
        refine (HRW.out _).mono ?_
        rintro e w5 ⟨⟨s5, A5, n5, c5, rfl, hq5, Y5⟩, hb5⟩
        have M5 := HL.out _ _ _ _ _ Y5
        clear hq5
        have X5 := X4.below hb5
        have hB5 := since_step hB4 hb5
        clear hb5 hB4 x0 x1 x2 x3 X4
        obtain ⟨x0, x1, x2, x3⟩ := _root_.id X5
        go_wp2_with fail
        refine (is_any z _ _ _ _ _ (by omega) Y5).mono ?_
        rintro e w6 ⟨rfl, hb6⟩
        have X6 := X5.below hb6
        have hB6 := since_step hB5 hb6
        clear hb6 hB5 x0 x1 x2 x3 X5
        obtain ⟨x0, x1, x2, x3⟩ := _root_.id X6
        go_wp2_with fail
        refine (HRW.out _).mono ?_
        rintro e w7 ⟨⟨s7, A7, n7, c7, rfl, hq7, Y7⟩, hb7⟩
        have M7 := HL.out _ _ _ _ _ Y7
        clear hq7
        have X7 := X6.below hb7
        have hB7 := since_step hB6 hb7
        clear hb7 hB6 x0 x1 x2 x3 X6
        obtain ⟨x0, x1, x2, x3⟩ := _root_.id X7
        go_wp2_with fail
        have HF := HFT.out _ s7 A7 n7 c7 (by omega) Y7
        clear Y7 Y5
        refine (HF).mono ?_
        rintro e w8 ⟨rfl, hb8⟩
        have X8 := X7.below hb8
        have hB8 := since_step hB7 hb8
        clear hb8 hB7 x0 x1 x2 x3 X7
        obtain ⟨x0, x1, x2, x3⟩ := _root_.id X8
        go_wp2_with fail
        clear HF
        refine (HRC.out _).mono ?_
        rintro e w9 ⟨⟨s9, A9, n9, c9, rfl, hq9, Y9⟩, hb9⟩
        have M9 := HLC.out _ _ _ _ _ Y9
        clear hq9
        have X9 := X8.below hb9
        have hB9 := since_step hB8 hb9
        clear hb9 hB8 x0 x1 x2 x3 X8
        obtain ⟨x0, x1, x2, x3⟩ := _root_.id X9
        go_wp2_with fail
        refine (is_any cz _ _ _ _ _ (by omega) Y9).mono ?_
        rintro e w10 ⟨rfl, hb10⟩
        have X10 := X9.below hb10
        have hB10 := since_step hB9 hb10
        clear hb10 hB9 x0 x1 x2 x3 X9
        obtain ⟨x0, x1, x2, x3⟩ := _root_.id X10
        go_wp2_with fail
        refine (HRS.out _).mono ?_
        rintro e w11 ⟨⟨s11, A11, n11, c11, rfl, hq11, Y11⟩, hb11⟩
        have M11 := HLU.out _ _ _ _ _ HP0.out Y11
        clear hq11
        have X11 := X10.below hb11
        have hB11 := since_step hB10 hb11
        clear hb11 hB10 x0 x1 x2 x3 X10
        obtain ⟨x0, x1, x2, x3⟩ := _root_.id X11
        go_wp2_with fail
        refine (is_any u _ _ _ _ _ (by omega) Y11).mono ?_
        rintro e w12 ⟨rfl, hb12⟩
        have X12 := X11.below hb12
        have hB12 := since_step hB11 hb12
        clear hb12 hB11 x0 x1 x2 x3 X11
        obtain ⟨x0, x1, x2, x3⟩ := _root_.id X12
        go_wp2_with fail
        refine (lives12_any _).mono ?_
        rintro e w13 ⟨rfl, hb13⟩
        have hB13 := since_step hB12 hb13
        go_wp2_with fail
        go_ret
        exact ⟨rfl, hB13⟩
  · rw [decide_eq_false hok] at HI
    rw [show worthV a a1 = 0 from if_neg hok, show worthE a a1 = 2 from if_neg hok] at HW
    rw [show countV a a1 = 0 from if_neg fun h => hok h.1, show countE a a1 = 2 from if_neg fun h => hok h.1] at HN
    rw [show sellV a a2 = 0 from if_neg fun h => hok h.1, show sellE a a2 = 2 from if_neg hok] at HS
    unfold astV at *
    clear hok h1 h2 hpr
    have HW := Lib.hid HW
    have HN := Lib.hid HN
    have HS := Lib.hid HS
    have HI := Lib.hid HI
    go_enter Try.func3, Try.ntmps3
    go_wp2_with fail
    have X0 := HX0.out
    obtain ⟨x0, x1, x2, x3⟩ := _root_.id X0
    go_wp2_with fail
    refine (HW.out _).mono ?_
    rintro e w1 ⟨rfl, hb1⟩
    have X1 := X0.below hb1
    have hB1 := since_step hB0 hb1
    clear hb1 hB0 x0 x1 x2 x3 X0
    obtain ⟨x0, x1, x2, x3⟩ := _root_.id X1
    go_wp2_with fail
    refine (HN.out _).mono ?_
    rintro e w2 ⟨rfl, hb2⟩
    have X2 := X1.below hb2
    have hB2 := since_step hB1 hb2
    clear hb2 hB1 x0 x1 x2 x3 X1
    obtain ⟨x0, x1, x2, x3⟩ := _root_.id X2
    go_wp2_with fail
    refine (HS.out _).mono ?_
    rintro e w3 ⟨rfl, hb3⟩
    have X3 := X2.below hb3
    have hB3 := since_step hB2 hb3
    clear hb3 hB2 x0 x1 x2 x3 X2
    obtain ⟨x0, x1, x2, x3⟩ := _root_.id X3
    go_wp2_with fail
    refine (HI.out _).mono ?_
    rintro e w4 ⟨rfl, hb4⟩
    have X4 := X3.below hb4
    have hB4 := since_step hB3 hb4
    clear hb4 hB3 x0 x1 x2 x3 X3
    obtain ⟨x0, x1, x2, x3⟩ := _root_.id X4
    go_wp2_with fail
    refine (lives12_any _).mono ?_
    rintro e w5 ⟨rfl, hb5⟩
    have hB5 := since_step hB4 hb5
    go_wp2_with fail
    go_ret
    exact ⟨rfl, hB5⟩
end Go.Proofs.Ytidbiiomhhmniaa
