import Derived.Test.YtmjndpkfhdoljaaGreatCm11
import Derived.Test.YtmjndpkfhdoljaaGreatCm19
import Derived.Test.YtmjndpkfhdoljaaGreatCm30
import Derived.Test.YtmjndpkfhdoljaaGreatCm12
import Derived.Deep.DeepCutAuto
import Derived.Test.YtmjndpkfhdoljaaGreatCm07
import Derived.Deep.RegionLaw
import Derived.Lib.SliceRun
import Derived.Test.YtmjndpkfhdoljaaGreatCm01
import Derived.Deep.RegionHeld3
set_option maxHeartbeats 16000000
set_option maxRecDepth 100000
set_option linter.unusedVariables false
set_option linter.unusedSimpArgs false
namespace Go.Proofs.YtmjndpkfhdoljaaGreat
open Go.ChangeShapes Go.WideShapes Go.ChangeAt Go.RowKit
section
def qsL (l : List Lt) (a : Int) : List Int := (l.filter fun x => x.ast == a).map Lt.qty
theorem sum64_128 {l : List Int} (hl : l.length ≤ 1000000) (h : All64 l) : In128 l.sum := by
  have key : ∀ m : List Int, All64 m → -(m.length : Int) * 9223372036854775808 ≤ m.sum ∧ m.sum ≤ (m.length : Int) * 9223372036854775808 := by
    intro m
    induction m with
    | nil => intro _; simp
    | cons a m ih =>
      intro hm
      have h1 := ih (fun x hx => hm x (by simp [hx]))
      have h2 := hm a (by simp)
      unfold In64 at h2
      simp only [List.length_cons, List.sum_cons]
      omega
  have := key l h
  unfold In128
  omega
end
section
theorem few18_any (A : Option Addr) (cap : Nat) (l : List Lt) (w : World) (hc : l.length ≤ cap) (hcm : cap ≤ maxLen) (hs : Sl w A (rc Lt.cells l)) :
    Calls Tryz.prog 44 #[.slice A l.length cap] w fun e w' => e = .returned (.slice A (l.take 20).length cap) ∧ Below w.heap.size w w' := by
  by_cases h : 20 < l.length
  · have hl : (l.take 20).length = 20 := by simp; omega
    rw [hl]
    have h40 : 20 ≤ cap := by omega
    cases A with
    | none => obtain ⟨b, o, e, _⟩ := hs.lt (k := 0) (by omega); cases e
    | some ad =>
      go_enter Tryz.func44, Tryz.ntmps44
      go_wp2
      go_ret
      exact ⟨rfl, Below.refl _ _⟩
  · have hl : (l.take 20).length = l.length := by simp; omega
    rw [hl]
    go_enter Tryz.func44, Tryz.ntmps44
    go_wp2
    go_ret
    exact ⟨rfl, Below.refl _ _⟩
end
section
structure Ast where
  (id price hc : Int)
def astV (a : Ast) : Value := .agg #[.int .i64 a.id, .int .i64 a.price, .int .i64 a.hc]
def apB (p : Int) : Bool := decide (0 ≤ p) && decide (p ≤ 2147483647)
def okA (a : Ast) : Prop := 1 ≤ a.id ∧ a.id ≤ 4 ∧ (0 ≤ a.price ∧ a.price ≤ 2147483647) ∧ 0 ≤ a.hc ∧ a.hc ≤ 10000
instance (a : Ast) : Decidable (okA a) := by unfold okA; exact inferInstance
def AB (w : World) (g : Nat) (a : Ast) : Prop := g < w.heap.size ∧ w.cell? ⟨g, 0, none⟩ = some (.int .i64 a.id) ∧ w.cell? ⟨g, 1, none⟩ = some (.int .i64 a.price) ∧ w.cell? ⟨g, 2, none⟩ = some (.int .i64 a.hc)
theorem AB.new (w : World) (a : Ast) (t : TypeId) : AB (w.alloc (.cells #[.int .i64 a.id, .int .i64 a.price, .int .i64 a.hc] t)) w.heap.size a := by
  refine ⟨?_, ?_, ?_, ?_⟩ <;> simp
theorem AB.below {w w' : World} {g : Nat} {a : Ast} (h : AB w g a) (hb : Below w.heap.size w w') : AB w' g a :=
  ⟨Nat.lt_of_lt_of_le h.1 hb.size, (hb.cell (p := ⟨g, 0, none⟩) h.1).trans h.2.1, (hb.cell (p := ⟨g, 1, none⟩) h.1).trans h.2.2.1, (hb.cell (p := ⟨g, 2, none⟩) h.1).trans h.2.2.2⟩
theorem apriced_any (p : Int) (w : World) : Calls Tryz.prog 109 #[.int .i64 p] w fun e w' => e = .returned (.bool (apB p)) ∧ w' = w := by
  unfold apB
  by_cases h : 0 ≤ p
  · by_cases h2 : p ≤ 2147483647
    · go_enter Tryz.func109, Tryz.ntmps109
      go_wp2
      go_ret
      exact ⟨by simp [h, h2], rfl⟩
    · go_enter Tryz.func109, Tryz.ntmps109
      go_wp2
      go_ret
      exact ⟨by simp [h, h2], rfl⟩
  · go_enter Tryz.func109, Tryz.ntmps109
    go_wp2
    go_ret
    exact ⟨by simp; omega, rfl⟩
theorem acheck_any (a : Ast) (w : World) :
    Calls Tryz.prog 86 #[astV a] w fun e w' => e = .returned (.int .i64 (if okA a then 0 else 2)) ∧ Below w.heap.size w w' := by
  obtain ⟨id, price, hc⟩ := a
  obtain ⟨R, hR⟩ : ∃ R : Int, R = if okA ⟨id, price, hc⟩ then 0 else 2 := ⟨_, rfl⟩
  rw [← hR]
  have hno : ¬ okA ⟨id, price, hc⟩ → R = 2 := fun h => by rw [hR, if_neg h]
  have hyes : okA ⟨id, price, hc⟩ → R = 0 := fun h => by rw [hR, if_pos h]
  have HNO := Lib.hid hno
  have HYES := Lib.hid hyes
  have HP := fun p w => apriced_any p w
  have hB0 := since_alloc (Below.refl _ w) (.cells #[.int .i64 id, .int .i64 price, .int .i64 hc] 63)
  clear hR hno hyes
  by_cases h1 : id < 1
  · have E := Lib.hid (HNO.out (fun h => by unfold okA at h; simp only at h; omega))
    have b1 : decide (id < 1) = true := decide_eq_true h1
    clear HNO HYES
    unfold astV
    go_enter Tryz.func86, Tryz.ntmps86
    go_wp2_with fail
    go_ret
    exact ⟨by rw [E.out]; rfl, hB0⟩
  · have b1 : decide (id < 1) = false := decide_eq_false h1
    by_cases h2 : 4 < id
    · have E := Lib.hid (HNO.out (fun h => by unfold okA at h; simp only at h; omega))
      have b2 : decide (4 < id) = true := decide_eq_true h2
      clear HNO HYES
      unfold astV
      go_enter Tryz.func86, Tryz.ntmps86
      go_wp2_with fail
      go_ret
      exact ⟨by rw [E.out]; rfl, hB0⟩
    · have b2 : decide (4 < id) = false := decide_eq_false h2
      by_cases h3 : apB price = true
      · have H3 := Lib.hid h3
        simp only [apB, Bool.and_eq_true, decide_eq_true_eq] at h3
        by_cases h4 : hc < 0
        · have E := Lib.hid (HNO.out (fun h => by unfold okA at h; simp only at h; omega))
          have b4 : decide (hc < 0) = true := decide_eq_true h4
          clear HNO HYES h3
          unfold astV
          go_enter Tryz.func86, Tryz.ntmps86
          go_wp2_with fail
          refine (HP _ _).mono ?_
          rintro e w1 ⟨rfl, rfl⟩
          rw [H3.out]
          go_wp2_with fail
          go_ret
          exact ⟨by rw [E.out]; rfl, hB0⟩
        · have b4 : decide (hc < 0) = false := decide_eq_false h4
          by_cases h5 : 10000 < hc
          · have E := Lib.hid (HNO.out (fun h => by unfold okA at h; simp only at h; omega))
            have b5 : decide (10000 < hc) = true := decide_eq_true h5
            clear HNO HYES h3
            unfold astV
            go_enter Tryz.func86, Tryz.ntmps86
            go_wp2_with fail
            refine (HP _ _).mono ?_
            rintro e w1 ⟨rfl, rfl⟩
            rw [H3.out]
            go_wp2_with fail
            go_ret
            exact ⟨by rw [E.out]; rfl, hB0⟩
          · have b5 : decide (10000 < hc) = false := decide_eq_false h5
            have E := Lib.hid (HYES.out (by unfold okA; simp only; omega))
            clear HNO HYES h3
            unfold astV
            go_enter Tryz.func86, Tryz.ntmps86
            go_wp2_with fail
            refine (HP _ _).mono ?_
            rintro e w1 ⟨rfl, rfl⟩
            rw [H3.out]
            go_wp2_with fail
            go_ret
            exact ⟨by rw [E.out]; rfl, hB0⟩
      · have H3 := Lib.hid (show apB price = false by simpa using h3)
        have E := Lib.hid (HNO.out (fun h => by
          unfold okA at h; simp only at h
          apply h3
          simp only [apB, Bool.and_eq_true, decide_eq_true_eq]
          exact h.2.2.1))
        clear HNO HYES h3
        unfold astV
        go_enter Tryz.func86, Tryz.ntmps86
        go_wp2_with fail
        refine (HP _ _).mono ?_
        rintro e w1 ⟨rfl, rfl⟩
        rw [H3.out]
        go_wp2_with fail
        go_ret
        exact ⟨by rw [E.out]; rfl, hB0⟩
theorem arIs_any (a : Ast) (w : World) :
    Calls Tryz.prog 82 #[astV a] w fun e w' => e = .returned (.bool (decide (okA a))) ∧ Below w.heap.size w w' := by
  obtain ⟨id, price, hc⟩ := a
  obtain ⟨R, hR⟩ : ∃ R : Bool, R = decide (okA ⟨id, price, hc⟩) := ⟨_, rfl⟩
  rw [← hR]
  have HNO := Lib.hid (fun h : ¬ okA ⟨id, price, hc⟩ => show R = false by rw [hR, decide_eq_false h])
  have HYES := Lib.hid (fun h : okA ⟨id, price, hc⟩ => show R = true by rw [hR, decide_eq_true h])
  have hB0 := since_alloc (Below.refl _ w) (.cells #[.int .i64 id, .int .i64 price, .int .i64 hc] 63)
  clear hR
  have hcase : (¬ 0 < id) ∨ (0 < id ∧ ((¬ id < 5) ∨ (id < 5 ∧ ((¬ 0 ≤ price) ∨ (0 ≤ price ∧ ((¬ price < 2147483648) ∨ (price < 2147483648 ∧ ((¬ 0 ≤ hc) ∨ (0 ≤ hc ∧ ((¬ hc < 10001) ∨ hc < 10001)))))))))) := by omega
  rcases hcase with h1 | ⟨h1, h2 | ⟨h2, h3 | ⟨h3, h4 | ⟨h4, h5 | ⟨h5, h6 | h6⟩⟩⟩⟩⟩
  all_goals
    first
      | (have E := Lib.hid (HYES.out (by unfold okA; simp only; omega)); clear HNO HYES)
      | (have E := Lib.hid (HNO.out (fun h => by unfold okA at h; simp only at h; omega)); clear HNO HYES)
    (first | have b1 : decide (0 < id) = true := decide_eq_true h1 | have b1 : decide (0 < id) = false := decide_eq_false h1)
    (first | have b2 : decide (id < 5) = true := decide_eq_true h2 | have b2 : decide (id < 5) = false := decide_eq_false h2 | skip)
    (first | have b3 : decide (0 ≤ price) = true := decide_eq_true h3 | have b3 : decide (0 ≤ price) = false := decide_eq_false h3 | skip)
    (first | have b4 : decide (price < 2147483648) = true := decide_eq_true h4 | have b4 : decide (price < 2147483648) = false := decide_eq_false h4 | skip)
    (first | have b5 : decide (0 ≤ hc) = true := decide_eq_true h5 | have b5 : decide (0 ≤ hc) = false := decide_eq_false h5 | skip)
    (first | have b6 : decide (hc < 10001) = true := decide_eq_true h6 | have b6 : decide (hc < 10001) = false := decide_eq_false h6 | skip)
    unfold astV
    go_enter Tryz.func82, Tryz.ntmps82
    go_wp2_with fail
    go_ret
    exact ⟨by rw [E.out]; rfl, hB0⟩
end
section
theorem div_in128 {z : Int} (h : In128 z) (d : Nat) (hd : 0 < d) : In128 (z / (d : Int)) := by
  unfold In128 at *
  have h1 := Int.ediv_mul_le z (show (d : Int) ≠ 0 by omega)
  have h2 := Int.lt_ediv_add_one_mul_self z (show (0 : Int) < (d : Int) by omega)
  generalize z / (d : Int) = q at *
  have hd1 : (1 : Int) ≤ (d : Int) := by omega
  constructor
  · rcases Int.lt_or_le q (-170141183460469231731687303715884105728) with h | h
    · exfalso
      have : (q + 1) * (d : Int) ≤ (q + 1) * 1 := Int.mul_le_mul_of_nonpos_left (by omega) hd1
      omega
    · exact h
  · rcases Int.lt_or_le 170141183460469231731687303715884105727 q with h | h
    · exfalso
      have : q * 1 ≤ q * (d : Int) := Int.mul_le_mul_of_nonneg_left hd1 (by omega)
      omega
    · exact h
def sV (z : Int) (d : Nat) : Int := if In64 (z / (d : Int)) then z / (d : Int) else 0
def sR (z : Int) (d : Nat) : Int := if In64 (z / (d : Int)) then z % (d : Int) else 0
def sE (z : Int) (d : Nat) : Int := if In64 (z / (d : Int)) then 0 else 7
theorem fscale_pos (a n : Int) (d : Nat) (ha : In64 a) (hn : In64 n) (hd0 : 0 < d) (hd : d < 9223372036854775808) (w : World) :
    Calls Tryz.prog 87 #[.int .i64 a, .int .i64 n, .int .i64 (d : Int)] w fun e w' =>
      e = .returned (.tuple #[.int .i64 (sV (a * n) d), .int .i64 (sR (a * n) d), .int .i64 (sE (a * n) d)]) ∧ Below w.heap.size w w' := by
  have HM := Lib.hid (fun w => wmul_any a n ha hn w)
  have hin := mul_in128 ha hn
  have hq := div_in128 hin d hd0
  clear ha hn
  generalize a * n = z at *
  have HD := Lib.hid (fun w => wdiv_pos z d hin hd0 hd w)
  have HI := fun w => int_any (z / (d : Int)) hq w
  have e1 : sV z d = fV (z / (d : Int)) := rfl
  have e2 : sE z d = fE (z / (d : Int)) := rfl
  rw [e1, e2]
  by_cases h : In64 (z / (d : Int))
  · rw [show fV (z / (d : Int)) = z / (d : Int) from if_pos h, show fE (z / (d : Int)) = 0 from if_pos h] at *
    rw [show sR z d = z % (d : Int) from if_pos h]
    generalize z / (d : Int) = q at *
    generalize z % (d : Int) = r at *
    have HI := Lib.hid HI
    clear hin hq hd0 hd h e1 e2
    go_enter Tryz.func87, Tryz.ntmps87
    go_wp2_with fail
    refine (HM.out _).mono ?_
    rintro e w1 ⟨rfl, hb1⟩
    have hB1 := since_step (Below.refl w.heap.size w) hb1
    clear hb1
    go_wp2_with fail
    refine (HD.out _).mono ?_
    rintro e w2 ⟨rfl, hb2⟩
    have hB2 := since_step hB1 hb2
    clear hb2
    go_wp2_with fail
    refine (HI.out _).mono ?_
    rintro e w3 ⟨rfl, hb3⟩
    have hB3 := since_step (since_alloc hB2 _) hb3
    clear hb3
    go_wp2_with fail
    go_ret3
    exact ⟨rfl, hB3⟩
  · rw [show fV (z / (d : Int)) = 0 from if_neg h, show fE (z / (d : Int)) = 7 from if_neg h] at *
    rw [show sR z d = 0 from if_neg h]
    generalize z / (d : Int) = q at *
    generalize z % (d : Int) = r at *
    have HI := Lib.hid HI
    clear hin hq hd0 hd h e1 e2
    go_enter Tryz.func87, Tryz.ntmps87
    go_wp2_with fail
    refine (HM.out _).mono ?_
    rintro e w1 ⟨rfl, hb1⟩
    have hB1 := since_step (Below.refl w.heap.size w) hb1
    clear hb1
    go_wp2_with fail
    refine (HD.out _).mono ?_
    rintro e w2 ⟨rfl, hb2⟩
    have hB2 := since_step hB1 hb2
    clear hb2
    go_wp2_with fail
    refine (HI.out _).mono ?_
    rintro e w3 ⟨rfl, hb3⟩
    have hB3 := since_step (since_alloc hB2 _) hb3
    clear hb3
    go_wp2_with fail
    go_ret3
    exact ⟨rfl, hB3⟩
end
section
def worthV (a : Ast) (q : Int) : Int := if okA a then fV (q * a.price) else 0
def worthE (a : Ast) (q : Int) : Int := if okA a then fE (q * a.price) else 2
theorem worth_any (a : Ast) (q : Int) (w : World) (hq : In64 q) (hp : In64 a.price) :
    Calls Tryz.prog 47 #[astV a, .int .i64 q] w fun e w' => e = .returned (.tuple #[.int .i64 (worthV a q), .int .i64 (worthE a q)]) ∧ Below w.heap.size w w' := by
  have HC := fun W => acheck_any a W
  have hB0 := since_alloc (Below.refl _ w) (.cells #[.int .i64 a.id, .int .i64 a.price, .int .i64 a.hc] 63)
  have HX0 := Lib.hid (AB.new w a 63)
  unfold astV at HC
  by_cases hok : okA a
  · rw [if_pos hok] at HC
    rw [show worthV a q = fV (q * a.price) from if_pos hok, show worthE a q = fE (q * a.price) from if_pos hok]
    have HC := Lib.hid HC
    have HM := Lib.hid (fun w => wmul_any q a.price hq hp w)
    have HI := Lib.hid (fun w => int_any (q * a.price) (mul_in128 hq hp) w)
    clear hok hq hp
    generalize q * a.price = z at *
    unfold astV
    go_enter Tryz.func47, Tryz.ntmps47
    go_wp2_with fail
    refine (HC.out _).mono ?_
    rintro e w1 ⟨rfl, hb1⟩
    have X1 := HX0.out.below hb1
    have hB1 := since_step hB0 hb1
    clear hb1 hB0
    obtain ⟨x0, x1, x2, x3⟩ := _root_.id X1
    go_wp2_with fail
    refine (HM.out _).mono ?_
    rintro e w2 ⟨rfl, hb2⟩
    have hB2 := since_step hB1 hb2
    clear hb2 hB1
    go_wp2_with fail
    refine (HI.out _).mono ?_
    rintro e w3 ⟨rfl, hb3⟩
    have hB3 := since_step hB2 hb3
    go_wp2_with fail
    go_ret2
    exact ⟨rfl, hB3⟩
  · rw [if_neg hok] at HC
    rw [show worthV a q = 0 from if_neg hok, show worthE a q = 2 from if_neg hok]
    have HC := Lib.hid HC
    clear hok
    unfold astV
    go_enter Tryz.func47, Tryz.ntmps47
    go_wp2_with fail
    refine (HC.out _).mono ?_
    rintro e w1 ⟨rfl, hb1⟩
    have hB1 := since_step hB0 hb1
    go_wp2_with fail
    go_ret2
    exact ⟨rfl, hB1⟩
def countV (a : Ast) (q : Int) : Int := if okA a ∧ 0 ≤ q ∧ In64 (q * a.price) then q * a.price * (10000 - a.hc) / 10000 else 0
def countE (a : Ast) (q : Int) : Int := if okA a ∧ 0 ≤ q then fE (q * a.price) else 2
theorem count_rng {a : Ast} {z : Int} (h : okA a) (hz : 0 ≤ z) : 0 ≤ z * (10000 - a.hc) / 10000 ∧ z * (10000 - a.hc) / 10000 ≤ z := by
  obtain ⟨_, _, _, h4, h5⟩ := h
  have h1 : 0 ≤ z * (10000 - a.hc) := Int.mul_nonneg hz (by omega)
  have h2 : z * (10000 - a.hc) ≤ z * 10000 := Int.mul_le_mul_of_nonneg_left (by omega) hz
  omega
theorem count_any (a : Ast) (q : Int) (w : World) (hq : In64 q) (hp : In64 a.price) :
    Calls Tryz.prog 46 #[astV a, .int .i64 q] w fun e w' => e = .returned (.tuple #[.int .i64 (countV a q), .int .i64 (countE a q)]) ∧ Below w.heap.size w w' := by
  have HC := fun W => acheck_any a W
  have HW := fun W => worth_any a q W hq hp
  have hB0 := since_alloc (Below.refl _ w) (.cells #[.int .i64 a.id, .int .i64 a.price, .int .i64 a.hc] 63)
  have HX0 := Lib.hid (AB.new w a 63)
  unfold astV at HC HW
  by_cases hok : okA a
  · rw [if_pos hok] at HC
    rw [show worthV a q = fV (q * a.price) from if_pos hok, show worthE a q = fE (q * a.price) from if_pos hok] at HW
    have HC := Lib.hid HC
    by_cases hq0 : 0 ≤ q
    · have hz0 : 0 ≤ q * a.price := Int.mul_nonneg hq0 hok.2.2.1.1
      rw [show countE a q = fE (q * a.price) from if_pos ⟨hok, hq0⟩]
      by_cases h64 : In64 (q * a.price)
      · rw [show countV a q = q * a.price * (10000 - a.hc) / 10000 from if_pos ⟨hok, hq0, h64⟩, show fE (q * a.price) = 0 from if_pos h64]
        rw [show fV (q * a.price) = q * a.price from if_pos h64, show fE (q * a.price) = 0 from if_pos h64] at HW
        have hrg := count_rng hok hz0
        have hh : 0 ≤ a.hc ∧ a.hc ≤ 10000 := hok.2.2.2
        have hfin : In64 (10000 - a.hc) := by unfold In64; omega
        have hqn : In64 (q * a.price * (10000 - a.hc) / 10000) := by unfold In64 at *; omega
        have HSC := fun W => fscale_pos (q * a.price) (10000 - a.hc) 10000 h64 hfin (by omega) (by omega) W
        rw [show sV (q * a.price * (10000 - a.hc)) 10000 = q * a.price * (10000 - a.hc) / 10000 from if_pos hqn, show sE (q * a.price * (10000 - a.hc)) 10000 = 0 from if_pos hqn, show ((10000 : Nat) : Int) = 10000 from rfl] at HSC
        have HSC := Lib.hid HSC
        have HW := Lib.hid HW
        unfold In64 at hfin
        clear hok hz0 h64 hrg hqn hq hp
        generalize sR (q * a.price * (10000 - a.hc)) 10000 = rr at *
        generalize q * a.price * (10000 - a.hc) / 10000 = cc at *
        generalize q * a.price = z at *
        unfold astV
        go_enter Tryz.func46, Tryz.ntmps46
        go_wp2_with fail
        refine (HC.out _).mono ?_
        rintro e w1 ⟨rfl, hb1⟩
        have X1 := HX0.out.below hb1
        have hB1 := since_step hB0 hb1
        clear hb1 hB0
        obtain ⟨x0, x1, x2, x3⟩ := _root_.id X1
        go_wp2_with fail
        refine (HW.out _).mono ?_
        rintro e w2 ⟨rfl, hb2⟩
        have X2 := X1.below hb2
        have hB2 := since_step hB1 hb2
        clear hb2 hB1 x0 x1 x2 x3 X1
        obtain ⟨x0, x1, x2, x3⟩ := _root_.id X2
        go_wp2_with fail
        refine (HSC.out _).mono ?_
        rintro e w3 ⟨rfl, hb3⟩
        have hB3 := since_step hB2 hb3
        go_wp2_with fail
        go_ret2
        exact ⟨rfl, hB3⟩
      · rw [show countV a q = 0 from if_neg fun h => h64 h.2.2, show fE (q * a.price) = 7 from if_neg h64]
        rw [show fV (q * a.price) = 0 from if_neg h64, show fE (q * a.price) = 7 from if_neg h64] at HW
        have HW := Lib.hid HW
        clear hok hz0 h64 hq hp
        unfold astV
        go_enter Tryz.func46, Tryz.ntmps46
        go_wp2_with fail
        refine (HC.out _).mono ?_
        rintro e w1 ⟨rfl, hb1⟩
        have X1 := HX0.out.below hb1
        have hB1 := since_step hB0 hb1
        clear hb1 hB0
        obtain ⟨x0, x1, x2, x3⟩ := _root_.id X1
        go_wp2_with fail
        refine (HW.out _).mono ?_
        rintro e w2 ⟨rfl, hb2⟩
        have hB2 := since_step hB1 hb2
        go_wp2_with fail
        go_ret2
        exact ⟨rfl, hB2⟩
    · rw [show countE a q = 2 from if_neg fun h => hq0 h.2, show countV a q = 0 from if_neg fun h => hq0 h.2.1]
      clear hok hq hp HW
      unfold astV
      go_enter Tryz.func46, Tryz.ntmps46
      go_wp2_with fail
      refine (HC.out _).mono ?_
      rintro e w1 ⟨rfl, hb1⟩
      have hB1 := since_step hB0 hb1
      go_wp2_with fail
      go_ret2
      exact ⟨rfl, hB1⟩
  · rw [if_neg hok] at HC
    rw [show countE a q = 2 from if_neg fun h => hok h.1, show countV a q = 0 from if_neg fun h => hok h.1]
    have HC := Lib.hid HC
    clear hok hq hp HW
    unfold astV
    go_enter Tryz.func46, Tryz.ntmps46
    go_wp2_with fail
    refine (HC.out _).mono ?_
    rintro e w1 ⟨rfl, hb1⟩
    have hB1 := since_step hB0 hb1
    go_wp2_with fail
    go_ret2
    exact ⟨rfl, hB1⟩
end
section
structure HeldA (W V : World) (gi gr : Nat) (a : Ast) : Prop where
  bel : Below gr W V
  le : W.heap.size ≤ V.heap.size
  lt : gr < V.heap.size
  i0 : V.cell? ⟨gi, 0, none⟩ = some (.int .i64 a.id)
  i1 : V.cell? ⟨gi, 1, none⟩ = some (.int .i64 a.price)
  i2 : V.cell? ⟨gi, 2, none⟩ = some (.int .i64 a.hc)
  e0 : ∃ v, V.cell? ⟨gr, 0, none⟩ = some v
  e1 : ∃ v, V.cell? ⟨gr, 1, none⟩ = some v
  f0 : V.frozen? ⟨gr, 0, none⟩ = false
  f1 : V.frozen? ⟨gr, 1, none⟩ = false
section
variable {W V V' : World} {gi gr : Nat} {a : Ast}
theorem HeldA.step (h : HeldA W V gi gr a) (hb : Below V.heap.size V V') : HeldA W V' gi gr a := by
  have hc : ∀ p u, V.cell? p = some u → V'.cell? p = some u := fun p u e => (hb.cell (World.block_lt_of_cell? _ _ e)).trans e
  exact ⟨h.bel.trans (hb.mono (Nat.le_of_lt h.lt)), Nat.le_trans h.le hb.size, Nat.lt_of_lt_of_le h.lt hb.size, hc _ _ h.i0, hc _ _ h.i1, hc _ _ h.i2, h.e0.imp fun v e => hc _ _ e, h.e1.imp fun v e => hc _ _ e,
    (hb.frozen (p := ⟨gr, 0, none⟩) h.lt).trans h.f0, (hb.frozen (p := ⟨gr, 1, none⟩) h.lt).trans h.f1⟩
theorem HeldA.start (hI : AB W gi a) (hB : BB W gr false none 0 0) : HeldA W W.drew gi gr a :=
  ⟨(Below.refl gr W).drew, Nat.le_refl _, hB.1, hI.2.1, hI.2.2.1, hI.2.2.2, ⟨_, hB.2.1⟩, ⟨_, hB.2.2.1⟩, hB.2.2.2.1, hB.2.2.2.2⟩
theorem HeldA.set (h : HeldA W V gi gr a) (hne : gi ≠ gr) (u v : Value) : HeldA W ((V.setCell ⟨gr, 0, none⟩ u).setCell ⟨gr, 1, none⟩ v) gi gr a := by
  obtain ⟨v0, h0⟩ := h.e0
  obtain ⟨v1, h1⟩ := h.e1
  have hne' : ¬ gr = gi := fun e => hne e.symm
  refine ⟨Below.setCell (Below.setCell h.bel (by simp) _) (by simp) _, by simpa using h.le, by simpa using h.lt, ?_, ?_, ?_, ?_, ?_, ?_, ?_⟩
  · simp [cell_set, hne', h.i0]
  · simp [cell_set, hne', h.i1]
  · simp [cell_set, hne', h.i2]
  · exact ⟨u, by simp [cell_set, h0, h1]⟩
  · exact ⟨v, by simp [cell_set, h0, h1]⟩
  · simpa using h.f0
  · simpa using h.f1
theorem HeldA.got (h : HeldA W V gi gr a) (s : Bool) (B : Option Addr) (m d : Nat) :
    ((V.setCell ⟨gr, 0, none⟩ (.bool s)).setCell ⟨gr, 1, none⟩ (.slice B m d)).cell? ⟨gr, 0, none⟩ = some (.bool s) ∧ ((V.setCell ⟨gr, 0, none⟩ (.bool s)).setCell ⟨gr, 1, none⟩ (.slice B m d)).cell? ⟨gr, 1, none⟩ = some (.slice B m d) := by
  obtain ⟨v0, h0⟩ := h.e0
  obtain ⟨v1, h1⟩ := h.e1
  exact ⟨by simp [cell_set, h0, h1], by simp [cell_set, h0, h1]⟩
end
end
section
structure Ax where
  (id : Int) (price : Int) (hc : Int)
deriving DecidableEq
def Ax.cells (g : Ax) : List Value := [.int .i64 g.id, .int .i64 g.price, .int .i64 g.hc]
def Ax.val (g : Ax) : Value := .agg #[.int .i64 g.id, .int .i64 g.price, .int .i64 g.hc]
def Ax.zero : Ax := ⟨0, 0, 0⟩
theorem Ax.len (g : Ax) : g.cells.length = 3 := rfl
theorem Ax.one (g : Ax) : ∀ u ∈ g.cells, u.oneCell' = true := by
  intro u hu
  simp only [Ax.cells, List.mem_cons, List.not_mem_nil, or_false] at hu
  rcases hu with h | h | h <;> subst h <;> rfl
def Ax.at (g : Ax) (w : World) (b o : Nat) : Prop :=
  w.cell? ⟨b, o, none⟩ = some (.int .i64 g.id) ∧ w.cell? ⟨b, o + 1, none⟩ = some (.int .i64 g.price) ∧ w.cell? ⟨b, o + 2, none⟩ = some (.int .i64 g.hc)
theorem Ax.at_of {w : World} {b o : Nat} {g : Ax} (h : ∀ j u, g.cells[j]? = some u → w.cell? ⟨b, o + j, none⟩ = some u) : g.at w b o :=
  ⟨h 0 _ rfl, h 1 _ rfl, h 2 _ rfl⟩
theorem Ax.at_keep {w w' : World} {b o : Nat} {g : Ax} (h : g.at w b o) (k : ∀ i, w'.cell? ⟨b, i, none⟩ = w.cell? ⟨b, i, none⟩) : g.at w' b o := by
  unfold Ax.at at *
  simp only [k]
  exact h
theorem Sl.ax {w : World} {A : Option Addr} {l : List Ax} (h : Sl w A (rc Ax.cells l)) {k : Nat} (hk : k < l.length) : ∃ b o, A = some ⟨b, o, none⟩ ∧ b < w.heap.size ∧ l[k].at w b (o + k * 3) := by
  obtain ⟨b, o, hA, hb, hc⟩ := Sl.elem (m := 3) Ax.len (by decide) h hk
  exact ⟨b, o, hA, hb, Ax.at_of hc⟩
theorem EAx : Elem Tryz.prog 22 63 3 24 := Elem.mk' (z := .agg #[.int .i64 0, .int .i64 0, .int .i64 0]) (by kernel_rfl) (by kernel_rfl) (by decide) (by decide)
def Ax.Tells (F : Nat) (caps : Array Value) (p : Ax → Bool) (B : Nat) (w : World) : Prop :=
  ∀ (g : Ax) (W : World), Below B w W → Calls Tryz.prog F (#[g.val] ++ caps) W fun e w' => e = .returned (.bool (p g)) ∧ Below W.heap.size W w'
theorem Ax.Tells.below {F : Nat} {caps : Array Value} {p : Ax → Bool} {B : Nat} {w w1 : World} (h : Ax.Tells F caps p B w) (hb : Below B w w1) {C : Nat} (hC : B ≤ C) : Ax.Tells F caps p C w1 :=
  fun g W hW => h g W (hb.trans (hW.mono hC))
theorem index_ax (A : Option Addr) (cap : Nat) (l : List Ax) (F : Nat) (caps : Array Value) (p : Ax → Bool) (w : World) (hl : l.length ≤ 1000000) (hs : Sl w A (rc Ax.cells l)) (hF : Ent Tryz.prog F) (hp : Ax.Tells F caps p w.heap.size w) :
    Calls Tryz.prog 119 #[.slice A l.length cap, .func (.func F) #[] caps] w fun e w' => e = .returned (.int .i64 (atL p l)) ∧ Below w.heap.size w w' := by
  go_enter Tryz.func119, Tryz.ntmps119
  go_wp2
  go_loopw [8] (fun i wr => ∃ k : Nat, k ≤ l.length ∧ i = .int .i64 k ∧ (∀ j, (hj : j < l.length) → j < k → p l[j] = false) ∧ Below w.heap.size w wr) (fun i _ => l.length - (intOf i).toNat)
  case atStart => exact ⟨0, by omega, rfl, fun j hj h => absurd h (by omega), Below.refl _ _⟩
  case round =>
    obtain ⟨k, hk, rfl, hno, hB⟩ := hrel
    by_cases hlt2 : k < l.length
    · obtain ⟨b, o, rfl, hbw, hg⟩ := hs.ax hlt2
      have hg1 : l[k].at wr b (o + k * 3) := Ax.at_keep (w := w) hg fun i => hB.cell (p := ⟨b, i, none⟩) hbw
      obtain ⟨g0, g1, g2⟩ := hg1
      have hbr : b < wr.heap.size := Nat.lt_of_lt_of_le hbw hB.size
      have step := hp l[k] wr hB
      cases hq : p l[k] with
      | true =>
        have HQ := Lib.hid hq
        go_wp2_with fail
        rw [hF, Oper.upon_enter]
        refine step.mono ?_
        rintro e w1 ⟨rfl, hb1⟩
        have hB1 := since_step hB hb1
        clear hb1
        rw [HQ.out]
        go_wp2
        go_ret
        exact ⟨retI (atL_some hlt2 (fun j hj => hno j (by omega) hj) HQ.out).symm, hB1⟩
      | false =>
        have HQ := Lib.hid hq
        go_wp2_with fail
        rw [hF, Oper.upon_enter]
        refine step.mono ?_
        rintro e w1 ⟨rfl, hb1⟩
        have hB1 := since_step hB hb1
        clear hb1
        rw [HQ.out]
        go_wp2
        go_roundw
        case rel =>
          refine ⟨k + 1, by omega, by go_num, fun j hj hjk => ?_, hB1⟩
          rcases Nat.lt_or_ge j k with h | h
          · exact hno j hj h
          · obtain rfl : j = k := by omega
            exact HQ.out
        case measure => simp [intOf]; omega
    · go_wp2
      go_ret
      exact ⟨retI (atL_none fun j hj => hno j hj (by omega)).symm, hB⟩
end
section
def Ax.Tells2 (F : Nat) (caps : Array Value) (ah : Ax → Ax → Bool) (B : Nat) (w : World) : Prop :=
  ∀ (a b : Ax) (W : World), Below B w W → Calls Tryz.prog F (#[a.val, b.val] ++ caps) W fun e w' => e = .returned (.bool (ah a b)) ∧ Below W.heap.size W w'
theorem Ax.Tells2.below {F : Nat} {caps : Array Value} {ah : Ax → Ax → Bool} {B : Nat} {w w1 : World} (h : Ax.Tells2 F caps ah B w) (hb : Below B w w1) {C : Nat} (hC : B ≤ C) : Ax.Tells2 F caps ah C w1 :=
  fun a b W hW => h a b W (hb.trans (hW.mono hC))
structure Ax.Bx (w : World) (b : Nat) (g : Ax) : Prop where
  lt : b < w.heap.size
  at_ : g.at w b 0
  hp : w.heap[b]? = some (.cells g.cells.toArray 63 (0, 0))
theorem Ax.Bx.new (w : World) (g : Ax) : Ax.Bx (w.alloc (.cells g.cells.toArray 63)) w.heap.size g := by
  have h := heap_alloc_new w (.cells g.cells.toArray 63 (0, 0))
  refine ⟨by simp, Ax.at_of fun j u hu => ?_, h⟩
  rw [Nat.zero_add, cell_of_row _ _ j g.cells.toArray 63 (0, 0) h]
  simpa using hu
theorem Ax.Bx.below {w w' : World} {b : Nat} {g : Ax} (h : Ax.Bx w b g) (hb : Below w.heap.size w w') : Ax.Bx w' b g :=
  ⟨Nat.lt_of_lt_of_le h.lt hb.size, Ax.at_keep h.at_ fun i => hb.cell (p := ⟨b, i, none⟩) h.lt, (hb.block b h.lt).trans h.hp⟩
theorem Ax.Bx.sl {w : World} {b : Nat} {g : Ax} (h : Ax.Bx w b g) : Sl w (some ⟨b, 0, none⟩) g.cells := by
  intro _
  refine ⟨b, 0, rfl, fun j u hu => ?_⟩
  rw [Nat.zero_add, cell_of_row _ _ j g.cells.toArray 63 (0, 0) h.hp]
  simpa using hu
theorem Ax.Bx.got {w : World} {b : Nat} {g : Ax} (h : Ax.Bx w b g) : w.cell? ⟨b, 0, none⟩ = some (.int .i64 g.id) ∧ w.cell? ⟨b, 1, none⟩ = some (.int .i64 g.price) ∧ w.cell? ⟨b, 2, none⟩ = some (.int .i64 g.hc) := by
  have := h.at_
  unfold Ax.at at this
  simpa only [Nat.zero_add] using this
end
end Go.Proofs.YtmjndpkfhdoljaaGreat
