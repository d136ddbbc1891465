/-
  Layer 12, second part: Worth, Count, Sell; lives.
-/
import Derived.Test.YtjhdccnkfnaapaaAsset
import Derived.Test.YtjhdccnkfnaapaaFix9
import Derived.Test.YtjhdccnkfnaapaaFix11
namespace Go.Proofs.Ytjhdccnkfnaapaa
open Go.ChangeShapes Go.WideShapes Go.ChangeAt Go.RowKit
set_option linter.unusedVariables false
set_option linter.unusedSimpArgs false

def worthV (a : Ast) (q : Int) : Int := if okA a then fV (q * a.price) else 0
def worthE (a : Ast) (q : Int) : Int := if okA a then fE (q * a.price) else 2

set_option maxRecDepth 100000 in
set_option maxHeartbeats 4000000 in
theorem worth_any (a : Ast) (q : Int) (w : World) (hq : In64 q) (hp : In64 a.price) :
    Calls Try.prog 20 #[astV a, .int .i64 q] w fun e w' => e = .returned (.tuple #[.int .i64 (worthV a q), .int .i64 (worthE a q)]) ∧ Below w.heap.size w w' := by
  have HC := fun W => acheck_any a W
  have hB0 := since_alloc (Below.refl _ w) (.cells #[.int .i64 a.id, .int .i64 a.price, .int .i64 a.hc] 24)
  have HX0 := Lib.hid (AB.new w a 24)
  unfold astV at HC
  by_cases hok : okA a
  · rw [if_pos hok] at HC
    rw [show worthV a q = fV (q * a.price) from if_pos hok, show worthE a q = fE (q * a.price) from if_pos hok]
    have HC := Lib.hid HC
    have HM := Lib.hid (fun w => wmul_any q a.price hq hp w)
    have HI := Lib.hid (fun w => int_any (q * a.price) (mul_in128 hq hp) w)
    clear hok hq hp
    generalize q * a.price = z at *
    unfold astV
    go_enter Try.func20, Try.ntmps20
    go_wp2_with fail
    refine (HC.out _).mono ?_
    rintro e w1 ⟨rfl, hb1⟩
    have X1 := HX0.out.below hb1
    have hB1 := since_step hB0 hb1
    clear hb1 hB0
    obtain ⟨x0, x1, x2, x3⟩ := _root_.id X1
    go_wp2_with fail
    refine (HM.out _).mono ?_
    rintro e w2 ⟨rfl, hb2⟩
    have hB2 := since_step hB1 hb2
    clear hb2 hB1
    go_wp2_with fail
    refine (HI.out _).mono ?_
    rintro e w3 ⟨rfl, hb3⟩
    have hB3 := since_step hB2 hb3
    go_wp2_with fail
    go_ret2
    exact ⟨rfl, hB3⟩
  · rw [if_neg hok] at HC
    rw [show worthV a q = 0 from if_neg hok, show worthE a q = 2 from if_neg hok]
    have HC := Lib.hid HC
    clear hok
    unfold astV
    go_enter Try.func20, Try.ntmps20
    go_wp2_with fail
    refine (HC.out _).mono ?_
    rintro e w1 ⟨rfl, hb1⟩
    have hB1 := since_step hB0 hb1
    go_wp2_with fail
    go_ret2
    exact ⟨rfl, hB1⟩

def countV (a : Ast) (q : Int) : Int := if okA a ∧ 0 ≤ q ∧ In64 (q * a.price) then q * a.price * (10000 - a.hc) / 10000 else 0
def countE (a : Ast) (q : Int) : Int := if okA a ∧ 0 ≤ q then fE (q * a.price) else 2
/-- what counts lies between 0 and what it is worth -/
theorem count_rng {a : Ast} {z : Int} (h : okA a) (hz : 0 ≤ z) : 0 ≤ z * (10000 - a.hc) / 10000 ∧ z * (10000 - a.hc) / 10000 ≤ z := by
  obtain ⟨_, _, _, h4, h5⟩ := h
  have h1 : 0 ≤ z * (10000 - a.hc) := Int.mul_nonneg hz (by omega)
  have h2 : z * (10000 - a.hc) ≤ z * 10000 := Int.mul_le_mul_of_nonneg_left (by omega) hz
  omega

set_option maxRecDepth 100000 in
set_option maxHeartbeats 4000000 in
theorem count_any (a : Ast) (q : Int) (w : World) (hq : In64 q) (hp : In64 a.price) :
    Calls Try.prog 21 #[astV a, .int .i64 q] w fun e w' => e = .returned (.tuple #[.int .i64 (countV a q), .int .i64 (countE a q)]) ∧ Below w.heap.size w w' := by
  have HC := fun W => acheck_any a W
  have HW := fun W => worth_any a q W hq hp
  have hB0 := since_alloc (Below.refl _ w) (.cells #[.int .i64 a.id, .int .i64 a.price, .int .i64 a.hc] 24)
  have HX0 := Lib.hid (AB.new w a 24)
  unfold astV at HC HW
  by_cases hok : okA a
  · rw [if_pos hok] at HC
    rw [show worthV a q = fV (q * a.price) from if_pos hok, show worthE a q = fE (q * a.price) from if_pos hok] at HW
    have HC := Lib.hid HC
    by_cases hq0 : 0 ≤ q
    · have hz0 : 0 ≤ q * a.price := Int.mul_nonneg hq0 hok.2.2.1.1
      rw [show countE a q = fE (q * a.price) from if_pos ⟨hok, hq0⟩]
      by_cases h64 : In64 (q * a.price)
      · rw [show countV a q = q * a.price * (10000 - a.hc) / 10000 from if_pos ⟨hok, hq0, h64⟩, show fE (q * a.price) = 0 from if_pos h64]
        rw [show fV (q * a.price) = q * a.price from if_pos h64, show fE (q * a.price) = 0 from if_pos h64] at HW
        have hrg := count_rng hok hz0
        have hh : 0 ≤ a.hc ∧ a.hc ≤ 10000 := hok.2.2.2
        have hfin : In64 (10000 - a.hc) := by unfold In64; omega
        have hqn : In64 (q * a.price * (10000 - a.hc) / 10000) := by unfold In64 at *; omega
        have HSC := fun W => fscale_pos (q * a.price) (10000 - a.hc) 10000 h64 hfin (by omega) (by omega) W
        rw [show sV (q * a.price * (10000 - a.hc)) 10000 = q * a.price * (10000 - a.hc) / 10000 from if_pos hqn, show sE (q * a.price * (10000 - a.hc)) 10000 = 0 from if_pos hqn, show ((10000 : Nat) : Int) = 10000 from rfl] at HSC
        have HSC := Lib.hid HSC
        have HW := Lib.hid HW
        unfold In64 at hfin
        clear hok hz0 h64 hrg hqn hq hp
        generalize sR (q * a.price * (10000 - a.hc)) 10000 = rr at *
        generalize q * a.price * (10000 - a.hc) / 10000 = cc at *
        generalize q * a.price = z at *
        unfold astV
        go_enter Try.func21, Try.ntmps21
        go_wp2_with fail
        refine (HC.out _).mono ?_
        rintro e w1 ⟨rfl, hb1⟩
        have X1 := HX0.out.below hb1
        have hB1 := since_step hB0 hb1
        clear hb1 hB0
        obtain ⟨x0, x1, x2, x3⟩ := _root_.id X1
        go_wp2_with fail
        refine (HW.out _).mono ?_
        rintro e w2 ⟨rfl, hb2⟩
        have X2 := X1.below hb2
        have hB2 := since_step hB1 hb2
        clear hb2 hB1 x0 x1 x2 x3 X1
        obtain ⟨x0, x1, x2, x3⟩ := _root_.id X2
        go_wp2_with fail
        refine (HSC.out _).mono ?_
        rintro e w3 ⟨rfl, hb3⟩
        have hB3 := since_step hB2 hb3
        go_wp2_with fail
        go_ret2
        exact ⟨rfl, hB3⟩
      · rw [show countV a q = 0 from if_neg fun h => h64 h.2.2, show fE (q * a.price) = 7 from if_neg h64]
        rw [show fV (q * a.price) = 0 from if_neg h64, show fE (q * a.price) = 7 from if_neg h64] at HW
        have HW := Lib.hid HW
        clear hok hz0 h64 hq hp
        unfold astV
        go_enter Try.func21, Try.ntmps21
        go_wp2_with fail
        refine (HC.out _).mono ?_
        rintro e w1 ⟨rfl, hb1⟩
        have X1 := HX0.out.below hb1
        have hB1 := since_step hB0 hb1
        clear hb1 hB0
        obtain ⟨x0, x1, x2, x3⟩ := _root_.id X1
        go_wp2_with fail
        refine (HW.out _).mono ?_
        rintro e w2 ⟨rfl, hb2⟩
        have hB2 := since_step hB1 hb2
        go_wp2_with fail
        go_ret2
        exact ⟨rfl, hB2⟩
    · rw [show countE a q = 2 from if_neg fun h => hq0 h.2, show countV a q = 0 from if_neg fun h => hq0 h.2.1]
      clear hok hq hp HW
      unfold astV
      go_enter Try.func21, Try.ntmps21
      go_wp2_with fail
      refine (HC.out _).mono ?_
      rintro e w1 ⟨rfl, hb1⟩
      have hB1 := since_step hB0 hb1
      go_wp2_with fail
      go_ret2
      exact ⟨rfl, hB1⟩
  · rw [if_neg hok] at HC
    rw [show countE a q = 2 from if_neg fun h => hok h.1, show countV a q = 0 from if_neg fun h => hok h.1]
    have HC := Lib.hid HC
    clear hok hq hp HW
    unfold astV
    go_enter Try.func21, Try.ntmps21
    go_wp2_with fail
    refine (HC.out _).mono ?_
    rintro e w1 ⟨rfl, hb1⟩
    have hB1 := since_step hB0 hb1
    go_wp2_with fail
    go_ret2
    exact ⟨rfl, hB1⟩

def sellV (a : Ast) (m : Int) : Int := if okA a ∧ 0 < m ∧ 0 < a.price then fV (upZ m a.price.toNat) else 0
def sellE (a : Ast) (m : Int) : Int := if okA a then (if m ≤ 0 then 0 else if a.price = 0 then 8 else fE (upZ m a.price.toNat)) else 2

set_option maxRecDepth 100000 in
set_option maxHeartbeats 4000000 in
theorem sell_any (a : Ast) (m : Int) (w : World) (hm : In64 m) :
    Calls Try.prog 22 #[astV a, .int .i64 m] w fun e w' => e = .returned (.tuple #[.int .i64 (sellV a m), .int .i64 (sellE a m)]) ∧ Below w.heap.size w w' := by
  have HC := fun W => acheck_any a W
  have hB0 := since_alloc (Below.refl _ w) (.cells #[.int .i64 a.id, .int .i64 a.price, .int .i64 a.hc] 24)
  have HX0 := Lib.hid (AB.new w a 24)
  unfold astV at HC
  by_cases hok : okA a
  · rw [if_pos hok] at HC
    have HC := Lib.hid HC
    by_cases hm0 : m ≤ 0
    · rw [show sellV a m = 0 from if_neg fun h => by omega, show sellE a m = 0 from (if_pos hok).trans (if_pos hm0)]
      clear hok
      unfold astV
      go_enter Try.func22, Try.ntmps22
      go_wp2_with fail
      refine (HC.out _).mono ?_
      rintro e w1 ⟨rfl, hb1⟩
      have hB1 := since_step hB0 hb1
      go_wp2_with fail
      go_ret2
      exact ⟨rfl, hB1⟩
    · obtain ⟨id, price, hc⟩ := a
      simp only at *
      have hpp := hok.2.2.1
      simp only at hpp
      obtain ⟨P, rfl⟩ := Int.eq_ofNat_of_zero_le hpp.1
      rcases Nat.eq_zero_or_pos P with hp0 | hp0
      · subst hp0
        rw [show sellV ⟨id, ((0 : Nat) : Int), hc⟩ m = 0 from if_neg fun h => by have := h.2.2; simp at this, show sellE ⟨id, ((0 : Nat) : Int), hc⟩ m = 8 from (if_pos hok).trans ((if_neg hm0).trans (if_pos rfl))]
        have HU := Lib.hid (fun W => fup_zero m 1 hm (by decide) W)
        clear hok hpp
        unfold astV
        go_enter Try.func22, Try.ntmps22
        go_wp2_with fail
        refine (HC.out _).mono ?_
        rintro e w1 ⟨rfl, hb1⟩
        have X1 := HX0.out.below hb1
        have hB1 := since_step hB0 hb1
        clear hb1 hB0
        obtain ⟨x0, x1, x2, x3⟩ := _root_.id X1
        simp only at x1 x2 x3
        go_wp2_with fail
        refine (HU.out _).mono ?_
        rintro e w2 ⟨rfl, hb2⟩
        have hB2 := since_step hB1 hb2
        go_wp2_with fail
        go_ret2
        exact ⟨rfl, hB2⟩
      · have hpn : ¬ ((P : Int) = 0) := by omega
        rw [show sellV ⟨id, (P : Int), hc⟩ m = fV (upZ m P) from if_pos ⟨hok, by omega, by show 0 < (P : Int); omega⟩, show sellE ⟨id, (P : Int), hc⟩ m = fE (upZ m P) from (if_pos hok).trans ((if_neg hm0).trans (if_neg hpn))]
        have HU := fun W => fup_pos m 1 P hm (by decide) hp0 (by omega) W
        rw [Int.mul_one] at HU
        have HU := Lib.hid HU
        clear hok hpp hpn
        generalize upZ m P = z at *
        unfold astV
        go_enter Try.func22, Try.ntmps22
        go_wp2_with fail
        refine (HC.out _).mono ?_
        rintro e w1 ⟨rfl, hb1⟩
        have X1 := HX0.out.below hb1
        have hB1 := since_step hB0 hb1
        clear hb1 hB0
        obtain ⟨x0, x1, x2, x3⟩ := _root_.id X1
        simp only at x1 x2 x3
        go_wp2_with fail
        refine (HU.out _).mono ?_
        rintro e w2 ⟨rfl, hb2⟩
        have hB2 := since_step hB1 hb2
        go_wp2_with fail
        go_ret2
        exact ⟨rfl, hB2⟩
  · rw [if_neg hok] at HC
    rw [show sellV a m = 0 from if_neg fun h => hok h.1, show sellE a m = 2 from if_neg hok]
    have HC := Lib.hid HC
    clear hok
    unfold astV
    go_enter Try.func22, Try.ntmps22
    go_wp2_with fail
    refine (HC.out _).mono ?_
    rintro e w1 ⟨rfl, hb1⟩
    have hB1 := since_step hB0 hb1
    go_wp2_with fail
    go_ret2
    exact ⟨rfl, hB1⟩

set_option maxRecDepth 100000 in
set_option maxHeartbeats 4000000 in
theorem lives12_any (w : World) : Calls Try.prog 14 #[] w fun e w' => e = .returned (.bool true) ∧ Below w.heap.size w w' := by
  have hW := fun W => worth_any ⟨1, 3, 1000⟩ 10 W (by decide) (by decide)
  have hC := fun W => count_any ⟨1, 3, 1000⟩ 10 W (by decide) (by decide)
  have hS := fun W => sell_any ⟨1, 3, 1000⟩ 31 W (by decide)
  rw [show worthV ⟨1, 3, 1000⟩ 10 = 30 by decide, show worthE ⟨1, 3, 1000⟩ 10 = 0 by decide] at hW
  rw [show countV ⟨1, 3, 1000⟩ 10 = 27 by decide, show countE ⟨1, 3, 1000⟩ 10 = 0 by decide] at hC
  rw [show sellV ⟨1, 3, 1000⟩ 31 = 11 by decide, show sellE ⟨1, 3, 1000⟩ 31 = 0 by decide] at hS
  unfold astV at hW hC hS
  have HW := Lib.hid hW
  have HC := Lib.hid hC
  have HS := Lib.hid hS
  have hB := since_alloc (Below.refl _ w) (.cells #[.int .i64 1, .int .i64 3, .int .i64 1000] 24)
  have HX := Lib.hid (AB.new w ⟨1, 3, 1000⟩ 24)
  clear hW hC hS
  go_enter Try.func14, Try.ntmps14
  go_wp2_with fail
  refine (HW.out _).mono ?_
  rintro e w1 ⟨rfl, hb1⟩
  have X1 := HX.out.below hb1
  have hB1 := since_step hB hb1
  clear hb1 hB
  obtain ⟨x0, x1, x2, x3⟩ := _root_.id X1
  go_wp2_with fail
  refine (HC.out _).mono ?_
  rintro e w2 ⟨rfl, hb2⟩
  have X2 := X1.below hb2
  have hB2 := since_step hB1 hb2
  clear hb2 hB1 x0 x1 x2 x3 X1
  obtain ⟨x0, x1, x2, x3⟩ := _root_.id X2
  go_wp2_with fail
  refine (HS.out _).mono ?_
  rintro e w3 ⟨rfl, hb3⟩
  have hB3 := since_step hB2 hb3
  go_wp2_with fail
  go_ret
  exact ⟨rfl, hB3⟩
end Go.Proofs.Ytjhdccnkfnaapaa
