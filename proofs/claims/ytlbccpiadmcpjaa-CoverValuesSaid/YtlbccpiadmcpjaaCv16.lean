import Derived.Test.YtlbccpiadmcpjaaCv10
import Derived.Test.YtlbccpiadmcpjaaCv11
import Derived.Test.YtlbccpiadmcpjaaCv15
section
namespace Go.Proofs.Ytlbccpiadmcpjaa
open Go.ChangeShapes Go.WideShapes Go.ChangeAt Go.RowKit
set_option linter.unusedVariables false
set_option linter.unusedSimpArgs false

structure Ast where
  (id price hc : Int)
def astV (a : Ast) : Value := .agg #[.int .i64 a.id, .int .i64 a.price, .int .i64 a.hc]
def apB (p : Int) : Bool := decide (0 ≤ p) && decide (p ≤ 2147483647)
def okA (a : Ast) : Prop := 1 ≤ a.id ∧ a.id ≤ 4 ∧ (0 ≤ a.price ∧ a.price ≤ 2147483647) ∧ 0 ≤ a.hc ∧ a.hc ≤ 10000
instance (a : Ast) : Decidable (okA a) := by unfold okA; exact inferInstance
def AB (w : World) (g : Nat) (a : Ast) : Prop := g < w.heap.size ∧ w.cell? ⟨g, 0, none⟩ = some (.int .i64 a.id) ∧ w.cell? ⟨g, 1, none⟩ = some (.int .i64 a.price) ∧ w.cell? ⟨g, 2, none⟩ = some (.int .i64 a.hc)
theorem AB.new (w : World) (a : Ast) (t : TypeId) : AB (w.alloc (.cells #[.int .i64 a.id, .int .i64 a.price, .int .i64 a.hc] t)) w.heap.size a := by
  refine ⟨?_, ?_, ?_, ?_⟩ <;> simp
theorem AB.below {w w' : World} {g : Nat} {a : Ast} (h : AB w g a) (hb : Below w.heap.size w w') : AB w' g a :=
  ⟨Nat.lt_of_lt_of_le h.1 hb.size, (hb.cell (p := ⟨g, 0, none⟩) h.1).trans h.2.1, (hb.cell (p := ⟨g, 1, none⟩) h.1).trans h.2.2.1, (hb.cell (p := ⟨g, 2, none⟩) h.1).trans h.2.2.2⟩
theorem apriced_any (p : Int) (w : World) : Calls Try.prog 64 #[.int .i64 p] w fun e w' => e = .returned (.bool (apB p)) ∧ w' = w := by
  unfold apB
  by_cases h : 0 ≤ p
  · by_cases h2 : p ≤ 2147483647
    · go_enter Try.func64, Try.ntmps64
      go_wp2
      go_ret
      exact ⟨by simp [h, h2], rfl⟩
    · go_enter Try.func64, Try.ntmps64
      go_wp2
      go_ret
      exact ⟨by simp [h, h2], rfl⟩
  · go_enter Try.func64, Try.ntmps64
    go_wp2
    go_ret
    exact ⟨by simp; omega, rfl⟩
set_option maxRecDepth 100000 in
set_option maxHeartbeats 4000000 in
theorem acheck_any (a : Ast) (w : World) :
    Calls Try.prog 41 #[astV a] w fun e w' => e = .returned (.int .i64 (if okA a then 0 else 2)) ∧ Below w.heap.size w w' := by
  obtain ⟨id, price, hc⟩ := a
  obtain ⟨R, hR⟩ : ∃ R : Int, R = if okA ⟨id, price, hc⟩ then 0 else 2 := ⟨_, rfl⟩
  rw [← hR]
  have hno : ¬ okA ⟨id, price, hc⟩ → R = 2 := fun h => by rw [hR, if_neg h]
  have hyes : okA ⟨id, price, hc⟩ → R = 0 := fun h => by rw [hR, if_pos h]
  have HNO := Lib.hid hno
  have HYES := Lib.hid hyes
  have HP := fun p w => apriced_any p w
  have hB0 := since_alloc (Below.refl _ w) (.cells #[.int .i64 id, .int .i64 price, .int .i64 hc] 63)
  clear hR hno hyes
  by_cases h1 : id < 1
  · have E := Lib.hid (HNO.out (fun h => by unfold okA at h; simp only at h; omega))
    have b1 : decide (id < 1) = true := decide_eq_true h1
    clear HNO HYES
    unfold astV
    go_enter Try.func41, Try.ntmps41
    go_wp2_with fail
    go_ret
    exact ⟨by rw [E.out]; rfl, hB0⟩
  · have b1 : decide (id < 1) = false := decide_eq_false h1
    by_cases h2 : 4 < id
    · have E := Lib.hid (HNO.out (fun h => by unfold okA at h; simp only at h; omega))
      have b2 : decide (4 < id) = true := decide_eq_true h2
      clear HNO HYES
      unfold astV
      go_enter Try.func41, Try.ntmps41
      go_wp2_with fail
      go_ret
      exact ⟨by rw [E.out]; rfl, hB0⟩
    · have b2 : decide (4 < id) = false := decide_eq_false h2
      by_cases h3 : apB price = true
      · have H3 := Lib.hid h3
        simp only [apB, Bool.and_eq_true, decide_eq_true_eq] at h3
        by_cases h4 : hc < 0
        · have E := Lib.hid (HNO.out (fun h => by unfold okA at h; simp only at h; omega))
          have b4 : decide (hc < 0) = true := decide_eq_true h4
          clear HNO HYES h3
          unfold astV
          go_enter Try.func41, Try.ntmps41
          go_wp2_with fail
          refine (HP _ _).mono ?_
          rintro e w1 ⟨rfl, rfl⟩
          rw [H3.out]
          go_wp2_with fail
          go_ret
          exact ⟨by rw [E.out]; rfl, hB0⟩
        · have b4 : decide (hc < 0) = false := decide_eq_false h4
          by_cases h5 : 10000 < hc
          · have E := Lib.hid (HNO.out (fun h => by unfold okA at h; simp only at h; omega))
            have b5 : decide (10000 < hc) = true := decide_eq_true h5
            clear HNO HYES h3
            unfold astV
            go_enter Try.func41, Try.ntmps41
            go_wp2_with fail
            refine (HP _ _).mono ?_
            rintro e w1 ⟨rfl, rfl⟩
            rw [H3.out]
            go_wp2_with fail
            go_ret
            exact ⟨by rw [E.out]; rfl, hB0⟩
          · have b5 : decide (10000 < hc) = false := decide_eq_false h5
            have E := Lib.hid (HYES.out (by unfold okA; simp only; omega))
            clear HNO HYES h3
            unfold astV
            go_enter Try.func41, Try.ntmps41
            go_wp2_with fail
            refine (HP _ _).mono ?_
            rintro e w1 ⟨rfl, rfl⟩
            rw [H3.out]
            go_wp2_with fail
            go_ret
            exact ⟨by rw [E.out]; rfl, hB0⟩
      · have H3 := Lib.hid (show apB price = false by simpa using h3)
        have E := Lib.hid (HNO.out (fun h => by
          unfold okA at h; simp only at h
          apply h3
          simp only [apB, Bool.and_eq_true, decide_eq_true_eq]
          exact h.2.2.1))
        clear HNO HYES h3
        unfold astV
        go_enter Try.func41, Try.ntmps41
        go_wp2_with fail
        refine (HP _ _).mono ?_
        rintro e w1 ⟨rfl, rfl⟩
        rw [H3.out]
        go_wp2_with fail
        go_ret
        exact ⟨by rw [E.out]; rfl, hB0⟩
set_option maxRecDepth 100000 in
set_option maxHeartbeats 4000000 in
theorem arIs_any (a : Ast) (w : World) :
    Calls Try.prog 38 #[astV a] w fun e w' => e = .returned (.bool (decide (okA a))) ∧ Below w.heap.size w w' := by
  obtain ⟨id, price, hc⟩ := a
  obtain ⟨R, hR⟩ : ∃ R : Bool, R = decide (okA ⟨id, price, hc⟩) := ⟨_, rfl⟩
  rw [← hR]
  have HNO := Lib.hid (fun h : ¬ okA ⟨id, price, hc⟩ => show R = false by rw [hR, decide_eq_false h])
  have HYES := Lib.hid (fun h : okA ⟨id, price, hc⟩ => show R = true by rw [hR, decide_eq_true h])
  have hB0 := since_alloc (Below.refl _ w) (.cells #[.int .i64 id, .int .i64 price, .int .i64 hc] 63)
  clear hR
  have hcase : (¬ 0 < id) ∨ (0 < id ∧ ((¬ id < 5) ∨ (id < 5 ∧ ((¬ 0 ≤ price) ∨ (0 ≤ price ∧ ((¬ price < 2147483648) ∨ (price < 2147483648 ∧ ((¬ 0 ≤ hc) ∨ (0 ≤ hc ∧ ((¬ hc < 10001) ∨ hc < 10001)))))))))) := by omega
  rcases hcase with h1 | ⟨h1, h2 | ⟨h2, h3 | ⟨h3, h4 | ⟨h4, h5 | ⟨h5, h6 | h6⟩⟩⟩⟩⟩
  all_goals
    first
      | (have E := Lib.hid (HYES.out (by unfold okA; simp only; omega)); clear HNO HYES)
      | (have E := Lib.hid (HNO.out (fun h => by unfold okA at h; simp only at h; omega)); clear HNO HYES)
    (first | have b1 : decide (0 < id) = true := decide_eq_true h1 | have b1 : decide (0 < id) = false := decide_eq_false h1)
    (first | have b2 : decide (id < 5) = true := decide_eq_true h2 | have b2 : decide (id < 5) = false := decide_eq_false h2 | skip)
    (first | have b3 : decide (0 ≤ price) = true := decide_eq_true h3 | have b3 : decide (0 ≤ price) = false := decide_eq_false h3 | skip)
    (first | have b4 : decide (price < 2147483648) = true := decide_eq_true h4 | have b4 : decide (price < 2147483648) = false := decide_eq_false h4 | skip)
    (first | have b5 : decide (0 ≤ hc) = true := decide_eq_true h5 | have b5 : decide (0 ≤ hc) = false := decide_eq_false h5 | skip)
    (first | have b6 : decide (hc < 10001) = true := decide_eq_true h6 | have b6 : decide (hc < 10001) = false := decide_eq_false h6 | skip)
    unfold astV
    go_enter Try.func38, Try.ntmps38
    go_wp2_with fail
    go_ret
    exact ⟨by rw [E.out]; rfl, hB0⟩
end Go.Proofs.Ytlbccpiadmcpjaa
end
section
namespace Go.Proofs.Ytlbccpiadmcpjaa
open Go.ChangeShapes Go.WideShapes Go.ChangeAt Go.RowKit
set_option linter.unusedVariables false
set_option linter.unusedSimpArgs false

theorem div_in128 {z : Int} (h : In128 z) (d : Nat) (hd : 0 < d) : In128 (z / (d : Int)) := by
  unfold In128 at *
  have h1 := Int.ediv_mul_le z (show (d : Int) ≠ 0 by omega)
  have h2 := Int.lt_ediv_add_one_mul_self z (show (0 : Int) < (d : Int) by omega)
  generalize z / (d : Int) = q at *
  have hd1 : (1 : Int) ≤ (d : Int) := by omega
  constructor
  · rcases Int.lt_or_le q (-170141183460469231731687303715884105728) with h | h
    · exfalso
      have : (q + 1) * (d : Int) ≤ (q + 1) * 1 := Int.mul_le_mul_of_nonpos_left (by omega) hd1
      omega
    · exact h
  · rcases Int.lt_or_le 170141183460469231731687303715884105727 q with h | h
    · exfalso
      have : q * 1 ≤ q * (d : Int) := Int.mul_le_mul_of_nonneg_left hd1 (by omega)
      omega
    · exact h
def sV (z : Int) (d : Nat) : Int := if In64 (z / (d : Int)) then z / (d : Int) else 0
def sR (z : Int) (d : Nat) : Int := if In64 (z / (d : Int)) then z % (d : Int) else 0
def sE (z : Int) (d : Nat) : Int := if In64 (z / (d : Int)) then 0 else 7
set_option maxHeartbeats 1000000 in
theorem fscale_pos (a n : Int) (d : Nat) (ha : In64 a) (hn : In64 n) (hd0 : 0 < d) (hd : d < 9223372036854775808) (w : World) :
    Calls Try.prog 42 #[.int .i64 a, .int .i64 n, .int .i64 (d : Int)] w fun e w' =>
      e = .returned (.tuple #[.int .i64 (sV (a * n) d), .int .i64 (sR (a * n) d), .int .i64 (sE (a * n) d)]) ∧ Below w.heap.size w w' := by
  have HM := Lib.hid (fun w => wmul_any a n ha hn w)
  have hin := mul_in128 ha hn
  have hq := div_in128 hin d hd0
  clear ha hn
  generalize a * n = z at *
  have HD := Lib.hid (fun w => wdiv_pos z d hin hd0 hd w)
  have HI := fun w => int_any (z / (d : Int)) hq w
  have e1 : sV z d = fV (z / (d : Int)) := rfl
  have e2 : sE z d = fE (z / (d : Int)) := rfl
  rw [e1, e2]
  by_cases h : In64 (z / (d : Int))
  · rw [show fV (z / (d : Int)) = z / (d : Int) from if_pos h, show fE (z / (d : Int)) = 0 from if_pos h] at *
    rw [show sR z d = z % (d : Int) from if_pos h]
    generalize z / (d : Int) = q at *
    generalize z % (d : Int) = r at *
    have HI := Lib.hid HI
    clear hin hq hd0 hd h e1 e2
    go_enter Try.func42, Try.ntmps42
    go_wp2_with fail
    refine (HM.out _).mono ?_
    rintro e w1 ⟨rfl, hb1⟩
    have hB1 := since_step (Below.refl w.heap.size w) hb1
    clear hb1
    go_wp2_with fail
    refine (HD.out _).mono ?_
    rintro e w2 ⟨rfl, hb2⟩
    have hB2 := since_step hB1 hb2
    clear hb2
    go_wp2_with fail
    refine (HI.out _).mono ?_
    rintro e w3 ⟨rfl, hb3⟩
    have hB3 := since_step (since_alloc hB2 _) hb3
    clear hb3
    go_wp2_with fail
    go_ret3
    exact ⟨rfl, hB3⟩
  · rw [show fV (z / (d : Int)) = 0 from if_neg h, show fE (z / (d : Int)) = 7 from if_neg h] at *
    rw [show sR z d = 0 from if_neg h]
    generalize z / (d : Int) = q at *
    generalize z % (d : Int) = r at *
    have HI := Lib.hid HI
    clear hin hq hd0 hd h e1 e2
    go_enter Try.func42, Try.ntmps42
    go_wp2_with fail
    refine (HM.out _).mono ?_
    rintro e w1 ⟨rfl, hb1⟩
    have hB1 := since_step (Below.refl w.heap.size w) hb1
    clear hb1
    go_wp2_with fail
    refine (HD.out _).mono ?_
    rintro e w2 ⟨rfl, hb2⟩
    have hB2 := since_step hB1 hb2
    clear hb2
    go_wp2_with fail
    refine (HI.out _).mono ?_
    rintro e w3 ⟨rfl, hb3⟩
    have hB3 := since_step (since_alloc hB2 _) hb3
    clear hb3
    go_wp2_with fail
    go_ret3
    exact ⟨rfl, hB3⟩
end Go.Proofs.Ytlbccpiadmcpjaa
end
