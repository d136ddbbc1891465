import Derived.Test.YtmjndpkfhdoljaaGreatCm20
import Derived.Deep.DeepCutAuto
import Derived.Deep.RegionHeld3
set_option maxHeartbeats 16000000
set_option maxRecDepth 100000
set_option linter.unusedVariables false
set_option linter.unusedSimpArgs false
namespace Go.Proofs.YtmjndpkfhdoljaaGreat
open Go.ChangeShapes Go.WideShapes Go.ChangeAt Go.RowKit
section
theorem abs_mul_le {a b A B : Int} (ha : -A ≤ a ∧ a ≤ A) (hb : -B ≤ b ∧ b ≤ B) : -(A * B) ≤ a * b ∧ a * b ≤ A * B := by
  have h1 : (a.natAbs : Int) ≤ A := by omega
  have h2 : (b.natAbs : Int) ≤ B := by omega
  have h3 : ((a * b).natAbs : Int) ≤ A * B := by
    rw [Int.natAbs_mul, Int.natCast_mul]
    exact Int.mul_le_mul h1 h2 (by omega) (by omega)
  omega
theorem move_in {q m t : Int} (hq : In64 q) (hm : -2147483647 ≤ m ∧ m ≤ 2147483647) (ht : 1 ≤ t ∧ t ≤ 65536) : In64 m ∧ In64 t ∧ In128 (q * m) ∧ In128 (q * m * t) := by
  unfold In64 at hq
  have h1 := abs_mul_le (A := 9223372036854775808) (B := 2147483647) (a := q) (b := m) (by omega) (by omega)
  have h2 := abs_mul_le (A := 9223372036854775808 * 2147483647) (B := 65536) (a := q * m) (b := t) (by omega) (by omega)
  unfold In64 In128
  generalize q * m * t = z at *
  generalize q * m = y at *
  omega
theorem made_any (q m t : Int) (hq : In64 q) (hm : -2147483647 ≤ m ∧ m ≤ 2147483647) (ht : 1 ≤ t ∧ t ≤ 65536) (w : World) :
    Calls Tryz.prog 135 #[.int .i64 q, .int .i64 m, .int .i64 t] w fun e w' => e = .returned (.agg #[.int .i64 (hiN (q * m * t)), .int .u64 (loN (q * m * t))]) ∧ Below w.heap.size w w' := by
  obtain ⟨hm64, ht64, hin, hin2⟩ := move_in hq hm ht
  have hcs := @cell_set
  have HM := Lib.hid (fun w => wmul_any q m hq hm64 w)
  have HT := fun w => wtimes_any (q * m) t hin ht64 w
  rw [wideE_yes hin2] at HT
  have HT := Lib.hid HT
  generalize q * m * t = z at *
  generalize q * m = y at *
  clear hq hm ht hm64 ht64 hin hin2
  go_enter Tryz.func135, Tryz.ntmps135
  go_wp2_with fail
  refine (HM.out _).mono ?_
  rintro e w1 ⟨rfl, hb1⟩
  have A2 : T2 w1 w.heap.size 0 0 := (T2.new w 0 0 123).below hb1
  have hB1 := since_step (since_alloc (Below.refl _ _) _) hb1
  clear hb1
  go_wp2_with fail
  refine (HT.out _).mono ?_
  rintro e w2 ⟨rfl, hb2⟩
  have B2 := A2.below hb2
  have hB2 := since_step hB1 hb2
  have hsz := B2.1
  have hn1 : ¬ w.heap.size = w2.heap.size := by omega
  have hn2 : ¬ w2.heap.size = w.heap.size := by omega
  obtain ⟨q0, q1, q2, q3, q4⟩ := _root_.id B2
  clear hb2 A2 hB1
  go_wp2_with fail
  refine bodyPost_ret (v := .agg #[.int .i64 (hiN z), .int .u64 (loN z)]) ?_ rfl ?_
  · obtain ⟨f0, f1, f2, f3, f4⟩ := (B2.set2 (hiN z) (loN z)).alloc (.cells #[.int .i64 (hiN z), .int .u64 (loN z)] 123)
    simp [results, Tryz.results135, go_sem, f1, f2]
  · refine ⟨rfl, ?_⟩
    repeat' (first | with_reducible exact hB2 | with_reducible refine Below.setCell ?_ ?_ _ | with_reducible refine since_alloc ?_ _)
    all_goals first | (simp; done) | (simp; omega)
theorem ok_mult {i : Ins} (h : okB i = true) : 1 ≤ i.mult ∧ i.mult ≤ 65536 := by
  unfold okB headB at h
  simp only [Bool.and_eq_true, decide_eq_true_eq] at h
  omega
theorem ok_move {i : Ins} (h : okB i = true) {k : Nat} (hk : k < i.mv.length) : -2147483647 ≤ i.mv[k] ∧ i.mv[k] ≤ 2147483647 := by
  unfold okB at h
  simp only [Bool.and_eq_true, List.all_eq_true] at h
  have := h.2 _ (List.getElem_mem hk)
  simp only [mvB, Bool.and_eq_true, decide_eq_true_eq] at this
  exact this
end
section
def shockZ (i : Ins) (q s : Int) : Int := if okB i = true ∧ 0 ≤ s ∧ s < (i.mv.length : Int) then q * i.mv.getD s.toNat 0 * i.mult else 0
theorem shock_any (i : Ins) (A : Option Addr) (c : Nat) (q s : Int) (w : World) (h : InsAt w i A c) (hq : In64 q) (hs64 : In64 s) :
    Calls Tryz.prog 129 #[insV i A c, .int .i64 q, .int .i64 s] w fun e w' => e = .returned (.agg #[.int .i64 (hiN (shockZ i q s)), .int .u64 (loN (shockZ i q s))]) ∧ Below w.heap.size w w' := by
  have HC := fun W (hb : Below w.heap.size w W) => check_any_Inst i A c W (h.below hb)
  have hB0 := since_alloc (Below.refl _ w) (.cells #[.int .i64 i.id, .int .i64 i.mult, .int .i64 i.price, .int .i64 i.nxt, .slice A i.mv.length c] 92)
  have hI0 := IB.new w i A c 92
  have hB1 := since_alloc hB0 (.cells #[.int .i64 0, .int .u64 0] 123)
  have hI1 := hI0.below ((Below.refl _ _).alloc (Nat.le_refl _) (.cells #[.int .i64 0, .int .u64 0] 123))
  have hT1 := T2.new (w.alloc (.cells #[.int .i64 i.id, .int .i64 i.mult, .int .i64 i.price, .int .i64 i.nxt, .slice A i.mv.length c] 92)) 0 0 123
  rw [World.size_alloc] at hT1
  obtain ⟨z1, z2, z3⟩ := zero_parts
  have HI1 := Lib.hid hI1
  have HT1 := Lib.hid hT1
  have HB1 := Lib.hid hB1
  clear hI0 hI1 hT1 hB0 hB1
  by_cases hg : okB i = true ∧ 0 ≤ s ∧ s < (i.mv.length : Int)
  · obtain ⟨hok, hs0, hsl⟩ := hg
    obtain ⟨k, rfl⟩ := Int.eq_ofNat_of_zero_le hs0
    have hk : k < i.mv.length := by omega
    have ez : shockZ i q (k : Int) = q * i.mv[k] * i.mult := by
      unfold shockZ
      rw [if_pos ⟨hok, hs0, hsl⟩, Int.toNat_natCast, List.getD_eq_getElem?_getD, List.getElem?_eq_getElem hk]
      rfl
    rw [ez]
    rw [if_pos hok] at HC
    have HC := Lib.hid HC
    have HMD := Lib.hid (fun w => made_any q i.mv[k] i.mult hq (ok_move hok hk) (ok_mult hok) w)
    obtain ⟨b, o, rfl, hz0⟩ := h.sl.int hk
    have hbw := World.block_lt_of_cell? _ _ hz0
    generalize q * i.mv[k] * i.mult = z at *
    generalize i.mv[k] = m at *
    have HZ0 := Lib.hid hz0
    clear hok hs0 ez h hz0
    unfold insV
    go_enter Tryz.func129, Tryz.ntmps129
    go_wp2_with fail
    refine (HC.out _ HB1.out).mono ?_
    rintro e w1 ⟨rfl, hb1⟩
    have I1 := HI1.out.below hb1
    have T1 := HT1.out.below hb1
    have hB1 := since_step HB1.out hb1
    clear hb1 HI1 HT1 HB1
    obtain ⟨i0, i1, i2, i3, i4, i5⟩ := _root_.id I1
    have hz := (hB1.cell (p := ⟨b, o + k, none⟩) hbw).trans HZ0.out
    have hbr := World.block_lt_of_cell? _ _ hz
    obtain ⟨q0, q1, q2, q3, q4⟩ := _root_.id T1
    go_upto_region 3 with fail
    go_region_with (first
      | (go_at_call 135; refine (HMD.out _).mono ?_; rintro e w2 ⟨rfl, hb2⟩; have T2' := T1.drew.below hb2; have hB2 := since_step hB1.drew hb2; obtain ⟨q0, q1, q2, q3, q4⟩ := _root_.id T2'; clear hb2))
    all_goals
      go_wp2_with fail
      refine bodyPost_ret (v := .agg #[.int .i64 (hiN z), .int .u64 (loN z)]) ?_ rfl ?_
      · obtain ⟨f0, f1, f2, f3, f4⟩ := T2'.set2 (hiN z) (loN z)
        simp [results, Tryz.results129, go_sem, f1, f2]
      · refine ⟨rfl, ?_⟩
        refine Below.setCell (Below.setCell hB2 ?_ _) ?_ _ <;> first | (simp; done) | (simp; omega)
  · have ez : shockZ i q s = 0 := if_neg hg
    rw [ez, z1, z2]
    by_cases hok : okB i = true
    · have hgs : s < 0 ∨ (¬ s < 0 ∧ (i.mv.length : Int) ≤ s) := by
        rcases Int.lt_or_le s 0 with h1 | h1
        · exact Or.inl h1
        · exact Or.inr ⟨by omega, by refine Decidable.byContradiction fun h2 => hg ⟨hok, h1, by omega⟩⟩
      rw [if_pos hok] at HC
      have HC := Lib.hid HC
      clear hg ez hok
      rcases hgs with hs1 | ⟨hs1, hs2⟩
      all_goals
        unfold insV
        go_enter Tryz.func129, Tryz.ntmps129
        go_wp2_with fail
        refine (HC.out _ HB1.out).mono ?_
        rintro e w1 ⟨rfl, hb1⟩
        have I1 := HI1.out.below hb1
        have T1 := HT1.out.below hb1
        have hB1 := since_step HB1.out hb1
        clear hb1 HI1 HT1 HB1
        obtain ⟨i0, i1, i2, i3, i4, i5⟩ := _root_.id I1
        obtain ⟨q0, q1, q2, q3, q4⟩ := _root_.id T1
        go_wp2_with fail
        refine bodyPost_ret (v := .agg #[.int .i64 0, .int .u64 0]) ?_ rfl ?_
        · obtain ⟨f0, f1, f2, f3, f4⟩ := T1.set2 0 0
          simp [results, Tryz.results129, go_sem, f1, f2]
        · refine ⟨rfl, ?_⟩
          refine Below.setCell (Below.setCell hB1 ?_ _) ?_ _ <;> first | (simp; done) | (simp; omega)
    · rw [if_neg hok] at HC
      have HC := Lib.hid HC
      clear hg ez hok
      unfold insV
      go_enter Tryz.func129, Tryz.ntmps129
      go_wp2_with fail
      refine (HC.out _ HB1.out).mono ?_
      rintro e w1 ⟨rfl, hb1⟩
      have I1 := HI1.out.below hb1
      have T1 := HT1.out.below hb1
      have hB1 := since_step HB1.out hb1
      clear hb1 HI1 HT1 HB1
      obtain ⟨i0, i1, i2, i3, i4, i5⟩ := _root_.id I1
      obtain ⟨q0, q1, q2, q3, q4⟩ := _root_.id T1
      go_wp2_with fail
      refine bodyPost_ret (v := .agg #[.int .i64 0, .int .u64 0]) ?_ rfl ?_
      · obtain ⟨f0, f1, f2, f3, f4⟩ := T1.set2 0 0
        simp [results, Tryz.results129, go_sem, f1, f2]
      · refine ⟨rfl, ?_⟩
        refine Below.setCell (Below.setCell hB1 ?_ _) ?_ _ <;> first | (simp; done) | (simp; omega)
end
end Go.Proofs.YtmjndpkfhdoljaaGreat
