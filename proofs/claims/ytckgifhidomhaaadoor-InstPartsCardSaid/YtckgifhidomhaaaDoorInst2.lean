/-
  Layer 13, second part: made, Gain, Shock.
-/
import Derived.Test.YtckgifhidomhaaaDoorInst
namespace Go.Proofs.YtckgifhidomhaaaDoor
open Go.ChangeShapes Go.WideShapes Go.ChangeAt Go.RowKit
set_option linter.unusedVariables false
set_option linter.unusedSimpArgs false

theorem abs_mul_le {a b A B : Int} (ha : -A ≤ a ∧ a ≤ A) (hb : -B ≤ b ∧ b ≤ B) : -(A * B) ≤ a * b ∧ a * b ≤ A * B := by
  have h1 : (a.natAbs : Int) ≤ A := by omega
  have h2 : (b.natAbs : Int) ≤ B := by omega
  have h3 : ((a * b).natAbs : Int) ≤ A * B := by
    rw [Int.natAbs_mul, Int.natCast_mul]
    exact Int.mul_le_mul h1 h2 (by omega) (by omega)
  omega
theorem move_in {q m t : Int} (hq : In64 q) (hm : -2147483647 ≤ m ∧ m ≤ 2147483647) (ht : 1 ≤ t ∧ t ≤ 65536) : In64 m ∧ In64 t ∧ In128 (q * m) ∧ In128 (q * m * t) := by
  unfold In64 at hq
  have h1 := abs_mul_le (A := 9223372036854775808) (B := 2147483647) (a := q) (b := m) (by omega) (by omega)
  have h2 := abs_mul_le (A := 9223372036854775808 * 2147483647) (B := 65536) (a := q * m) (b := t) (by omega) (by omega)
  unfold In64 In128
  generalize q * m * t = z at *
  generalize q * m = y at *
  omega

set_option maxHeartbeats 2000000 in
theorem made_any (q m t : Int) (hq : In64 q) (hm : -2147483647 ≤ m ∧ m ≤ 2147483647) (ht : 1 ≤ t ∧ t ≤ 65536) (w : World) :
    Calls Tryd.prog 43 #[.int .i64 q, .int .i64 m, .int .i64 t] w fun e w' => e = .returned (.agg #[.int .i64 (hiN (q * m * t)), .int .u64 (loN (q * m * t))]) ∧ Below w.heap.size w w' := by
  obtain ⟨hm64, ht64, hin, hin2⟩ := move_in hq hm ht
  have hcs := @cell_set
  have HM := Lib.hid (fun w => wmul_any q m hq hm64 w)
  have HT := fun w => wtimes_any (q * m) t hin ht64 w
  rw [wideE_yes hin2] at HT
  have HT := Lib.hid HT
  generalize q * m * t = z at *
  generalize q * m = y at *
  clear hq hm ht hm64 ht64 hin hin2
  go_enter Tryd.func43, Tryd.ntmps43
  go_wp2_with fail
  refine (HM.out _).mono ?_
  rintro e w1 ⟨rfl, hb1⟩
  have A2 : T2 w1 w.heap.size 0 0 := (T2.new w 0 0 45).below hb1
  have hB1 := since_step (since_alloc (Below.refl _ _) _) hb1
  clear hb1
  go_wp2_with fail
  refine (HT.out _).mono ?_
  rintro e w2 ⟨rfl, hb2⟩
  have B2 := A2.below hb2
  have hB2 := since_step hB1 hb2
  have hsz := B2.1
  have hn1 : ¬ w.heap.size = w2.heap.size := by omega
  have hn2 : ¬ w2.heap.size = w.heap.size := by omega
  obtain ⟨q0, q1, q2, q3, q4⟩ := _root_.id B2
  clear hb2 A2 hB1
  go_wp2_with fail
  refine bodyPost_ret (v := .agg #[.int .i64 (hiN z), .int .u64 (loN z)]) ?_ rfl ?_
  · obtain ⟨f0, f1, f2, f3, f4⟩ := (B2.set2 (hiN z) (loN z)).alloc (.cells #[.int .i64 (hiN z), .int .u64 (loN z)] 45)
    simp [results, Tryd.results43, go_sem, f1, f2]
  · refine ⟨rfl, ?_⟩
    repeat' (first | with_reducible exact hB2 | with_reducible refine Below.setCell ?_ ?_ _ | with_reducible refine since_alloc ?_ _)
    all_goals first | (simp; done) | (simp; omega)

/-- what a move makes -/
def gainZ (i : Ins) (q a b : Int) : Int := q * (b - a) * i.mult
def gainV (i : Ins) (q a b : Int) : Int := if okB i = true ∧ prB a = true ∧ prB b = true then fV (gainZ i q a b) else 0
def gainE (i : Ins) (q a b : Int) : Int := if okB i = true ∧ prB a = true ∧ prB b = true then fE (gainZ i q a b) else 2

theorem ok_mult {i : Ins} (h : okB i = true) : 1 ≤ i.mult ∧ i.mult ≤ 65536 := by
  unfold okB headB at h
  simp only [Bool.and_eq_true, decide_eq_true_eq] at h
  omega
theorem ok_move {i : Ins} (h : okB i = true) {k : Nat} (hk : k < i.mv.length) : -2147483647 ≤ i.mv[k] ∧ i.mv[k] ≤ 2147483647 := by
  unfold okB at h
  simp only [Bool.and_eq_true, List.all_eq_true] at h
  have := h.2 _ (List.getElem_mem hk)
  simp only [mvB, Bool.and_eq_true, decide_eq_true_eq] at this
  exact this
theorem pr_move {a b : Int} (ha : prB a = true) (hb : prB b = true) : -2147483647 ≤ b - a ∧ b - a ≤ 2147483647 ∧ In64 (b - a) := by
  simp only [prB, Bool.and_eq_true, decide_eq_true_eq] at ha hb
  unfold In64
  omega

set_option maxRecDepth 100000 in
set_option maxHeartbeats 4000000 in
theorem gain_any (i : Ins) (A : Option Addr) (c : Nat) (q a b : Int) (w : World) (h : InsAt w i A c) (hq : In64 q) (ha : In64 a) (hb : In64 b) :
    Calls Tryd.prog 27 #[insV i A c, .int .i64 q, .int .i64 a, .int .i64 b] w fun e w' => e = .returned (.tuple #[.int .i64 (gainV i q a b), .int .i64 (gainE i q a b)]) ∧ Below w.heap.size w w' := by
  have HC := fun W (hb : Below w.heap.size w W) => check_any i A c W (h.below hb)
  have hB0 := since_alloc (Below.refl _ w) (.cells #[.int .i64 i.id, .int .i64 i.mult, .int .i64 i.price, .int .i64 i.nxt, .slice A i.mv.length c] 25)
  have hI0 := IB.new w i A c 25
  by_cases hok : okB i = true
  · rw [if_pos hok] at HC
    have HC := Lib.hid HC
    by_cases pa : prB a = true
    · by_cases pb : prB b = true
      · have e1 : gainV i q a b = fV (gainZ i q a b) := if_pos ⟨hok, pa, pb⟩
        have e2 : gainE i q a b = fE (gainZ i q a b) := if_pos ⟨hok, pa, pb⟩
        rw [e1, e2]
        have ht := ok_mult hok
        obtain ⟨hm1, hm2, hm64⟩ := pr_move pa pb
        have HMD := Lib.hid (fun w => made_any q (b - a) i.mult hq ⟨hm1, hm2⟩ ht w)
        have HI := Lib.hid (fun w => int_any (gainZ i q a b) (move_in hq ⟨hm1, hm2⟩ ht).2.2.2 w)
        have ez : q * (b - a) * i.mult = gainZ i q a b := rfl
        rw [ez] at HMD
        have PA := Lib.hid pa
        have PB := Lib.hid pb
        have HI0 := Lib.hid hI0
        unfold In64 at hm64
        clear e1 e2 ez hok pa pb ht hI0 h
        generalize gainZ i q a b = z at *
        unfold insV
        go_enter Tryd.func27, Tryd.ntmps27
        go_wp2_with fail
        refine (HC.out _ hB0).mono ?_
        rintro e w1 ⟨rfl, hb1⟩
        have I1 := HI0.out.below hb1
        have hB1 := since_step hB0 hb1
        clear hb1
        go_wp2_with fail
        refine (priced_any _ _).mono ?_
        rintro e w2 ⟨rfl, rfl⟩
        rw [PA.out]
        go_wp2_with fail
        refine (priced_any _ _).mono ?_
        rintro e w2 ⟨rfl, rfl⟩
        rw [PB.out]
        obtain ⟨i0, i1, i2, i3, i4, i5⟩ := _root_.id I1
        go_wp2_with fail
        refine (HMD.out _).mono ?_
        rintro e w3 ⟨rfl, hb3⟩
        have hB3 := since_step hB1 hb3
        clear hb3
        go_wp2_with fail
        refine (HI.out _).mono ?_
        rintro e w4 ⟨rfl, hb4⟩
        have hB4 := since_step hB3 hb4
        go_wp2_with fail
        go_ret2
        exact ⟨rfl, hB4⟩
      · have e1 : gainV i q a b = 0 := if_neg fun h => pb h.2.2
        have e2 : gainE i q a b = 2 := if_neg fun h => pb h.2.2
        rw [e1, e2]
        have PA := Lib.hid pa
        have PB := Lib.hid (show prB b = false by simpa using pb)
        clear e1 e2 hok pa pb h
        unfold insV
        go_enter Tryd.func27, Tryd.ntmps27
        go_wp2_with fail
        refine (HC.out _ hB0).mono ?_
        rintro e w1 ⟨rfl, hb1⟩
        have hB1 := since_step hB0 hb1
        clear hb1
        go_wp2_with fail
        refine (priced_any _ _).mono ?_
        rintro e w2 ⟨rfl, rfl⟩
        rw [PA.out]
        go_wp2_with fail
        refine (priced_any _ _).mono ?_
        rintro e w2 ⟨rfl, rfl⟩
        rw [PB.out]
        go_wp2_with fail
        go_ret2
        exact ⟨rfl, hB1⟩
    · have e1 : gainV i q a b = 0 := if_neg fun h => pa h.2.1
      have e2 : gainE i q a b = 2 := if_neg fun h => pa h.2.1
      rw [e1, e2]
      have PA := Lib.hid (show prB a = false by simpa using pa)
      clear e1 e2 hok pa h
      unfold insV
      go_enter Tryd.func27, Tryd.ntmps27
      go_wp2_with fail
      refine (HC.out _ hB0).mono ?_
      rintro e w1 ⟨rfl, hb1⟩
      have hB1 := since_step hB0 hb1
      clear hb1
      go_wp2_with fail
      refine (priced_any _ _).mono ?_
      rintro e w2 ⟨rfl, rfl⟩
      rw [PA.out]
      go_wp2_with fail
      go_ret2
      exact ⟨rfl, hB1⟩
  · have e1 : gainV i q a b = 0 := if_neg fun h => hok h.1
    have e2 : gainE i q a b = 2 := if_neg fun h => hok h.1
    rw [e1, e2]
    rw [if_neg hok] at HC
    have HC := Lib.hid HC
    clear e1 e2 hok h
    unfold insV
    go_enter Tryd.func27, Tryd.ntmps27
    go_wp2_with fail
    refine (HC.out _ hB0).mono ?_
    rintro e w1 ⟨rfl, hb1⟩
    have hB1 := since_step hB0 hb1
    go_wp2_with fail
    go_ret2
    exact ⟨rfl, hB1⟩
end Go.Proofs.YtckgifhidomhaaaDoor
