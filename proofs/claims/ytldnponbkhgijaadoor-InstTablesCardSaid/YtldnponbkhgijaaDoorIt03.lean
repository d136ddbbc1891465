import Derived.Test.YtldnponbkhgijaaDoorIt02
import Derived.Deep.DeepCutAuto
import Derived.Deep.RegionHeld3
import Derived.Deep.CutBlock
import Derived.Deep.CutRange
import Derived.Test.YtldnponbkhgijaaDoorIt01
section
namespace Go.Proofs.YtldnponbkhgijaaDoor
open Go.ChangeShapes Go.WideShapes Go.ChangeAt Go.RowKit
set_option linter.unusedVariables false
set_option linter.unusedSimpArgs false

theorem abs_mul_le {a b A B : Int} (ha : -A ≤ a ∧ a ≤ A) (hb : -B ≤ b ∧ b ≤ B) : -(A * B) ≤ a * b ∧ a * b ≤ A * B := by
  have h1 : (a.natAbs : Int) ≤ A := by omega
  have h2 : (b.natAbs : Int) ≤ B := by omega
  have h3 : ((a * b).natAbs : Int) ≤ A * B := by
    rw [Int.natAbs_mul, Int.natCast_mul]
    exact Int.mul_le_mul h1 h2 (by omega) (by omega)
  omega
theorem move_in {q m t : Int} (hq : In64 q) (hm : -2147483647 ≤ m ∧ m ≤ 2147483647) (ht : 1 ≤ t ∧ t ≤ 65536) : In64 m ∧ In64 t ∧ In128 (q * m) ∧ In128 (q * m * t) := by
  unfold In64 at hq
  have h1 := abs_mul_le (A := 9223372036854775808) (B := 2147483647) (a := q) (b := m) (by omega) (by omega)
  have h2 := abs_mul_le (A := 9223372036854775808 * 2147483647) (B := 65536) (a := q * m) (b := t) (by omega) (by omega)
  unfold In64 In128
  generalize q * m * t = z at *
  generalize q * m = y at *
  omega
set_option maxHeartbeats 2000000 in
theorem made_any (q m t : Int) (hq : In64 q) (hm : -2147483647 ≤ m ∧ m ≤ 2147483647) (ht : 1 ≤ t ∧ t ≤ 65536) (w : World) :
    Calls Tryd.prog 40 #[.int .i64 q, .int .i64 m, .int .i64 t] w fun e w' => e = .returned (.agg #[.int .i64 (hiN (q * m * t)), .int .u64 (loN (q * m * t))]) ∧ Below w.heap.size w w' := by
  obtain ⟨hm64, ht64, hin, hin2⟩ := move_in hq hm ht
  have hcs := @cell_set
  have HM := Lib.hid (fun w => wmul_any q m hq hm64 w)
  have HT := fun w => wtimes_any (q * m) t hin ht64 w
  rw [wideE_yes hin2] at HT
  have HT := Lib.hid HT
  generalize q * m * t = z at *
  generalize q * m = y at *
  clear hq hm ht hm64 ht64 hin hin2
  go_enter Tryd.func40, Tryd.ntmps40
  go_wp2_with fail
  refine (HM.out _).mono ?_
  rintro e w1 ⟨rfl, hb1⟩
  have A2 : T2 w1 w.heap.size 0 0 := (T2.new w 0 0 52).below hb1
  have hB1 := since_step (since_alloc (Below.refl _ _) _) hb1
  clear hb1
  go_wp2_with fail
  refine (HT.out _).mono ?_
  rintro e w2 ⟨rfl, hb2⟩
  have B2 := A2.below hb2
  have hB2 := since_step hB1 hb2
  have hsz := B2.1
  have hn1 : ¬ w.heap.size = w2.heap.size := by omega
  have hn2 : ¬ w2.heap.size = w.heap.size := by omega
  obtain ⟨q0, q1, q2, q3, q4⟩ := _root_.id B2
  clear hb2 A2 hB1
  go_wp2_with fail
  refine bodyPost_ret (v := .agg #[.int .i64 (hiN z), .int .u64 (loN z)]) ?_ rfl ?_
  · obtain ⟨f0, f1, f2, f3, f4⟩ := (B2.set2 (hiN z) (loN z)).alloc (.cells #[.int .i64 (hiN z), .int .u64 (loN z)] 52)
    simp [results, Tryd.results40, go_sem, f1, f2]
  · refine ⟨rfl, ?_⟩
    repeat' (first | with_reducible exact hB2 | with_reducible refine Below.setCell ?_ ?_ _ | with_reducible refine since_alloc ?_ _)
    all_goals first | (simp; done) | (simp; omega)
def gainZ (i : Ins) (q a b : Int) : Int := q * (b - a) * i.mult
def gainV (i : Ins) (q a b : Int) : Int := if okB i = true ∧ prB a = true ∧ prB b = true then fV (gainZ i q a b) else 0
def gainE (i : Ins) (q a b : Int) : Int := if okB i = true ∧ prB a = true ∧ prB b = true then fE (gainZ i q a b) else 2
theorem ok_mult {i : Ins} (h : okB i = true) : 1 ≤ i.mult ∧ i.mult ≤ 65536 := by
  unfold okB headB at h
  simp only [Bool.and_eq_true, decide_eq_true_eq] at h
  omega
theorem ok_move {i : Ins} (h : okB i = true) {k : Nat} (hk : k < i.mv.length) : -2147483647 ≤ i.mv[k] ∧ i.mv[k] ≤ 2147483647 := by
  unfold okB at h
  simp only [Bool.and_eq_true, List.all_eq_true] at h
  have := h.2 _ (List.getElem_mem hk)
  simp only [mvB, Bool.and_eq_true, decide_eq_true_eq] at this
  exact this
theorem pr_move {a b : Int} (ha : prB a = true) (hb : prB b = true) : -2147483647 ≤ b - a ∧ b - a ≤ 2147483647 ∧ In64 (b - a) := by
  simp only [prB, Bool.and_eq_true, decide_eq_true_eq] at ha hb
  unfold In64
  omega
set_option maxRecDepth 100000 in
set_option maxHeartbeats 4000000 in
theorem gain_any (i : Ins) (A : Option Addr) (c : Nat) (q a b : Int) (w : World) (h : InsAt w i A c) (hq : In64 q) (ha : In64 a) (hb : In64 b) :
    Calls Tryd.prog 28 #[insV i A c, .int .i64 q, .int .i64 a, .int .i64 b] w fun e w' => e = .returned (.tuple #[.int .i64 (gainV i q a b), .int .i64 (gainE i q a b)]) ∧ Below w.heap.size w w' := by
  have HC := fun W (hb : Below w.heap.size w W) => check_any i A c W (h.below hb)
  have hB0 := since_alloc (Below.refl _ w) (.cells #[.int .i64 i.id, .int .i64 i.mult, .int .i64 i.price, .int .i64 i.nxt, .slice A i.mv.length c] 25)
  have hI0 := IB.new w i A c 25
  by_cases hok : okB i = true
  · rw [if_pos hok] at HC
    have HC := Lib.hid HC
    by_cases pa : prB a = true
    · by_cases pb : prB b = true
      · have e1 : gainV i q a b = fV (gainZ i q a b) := if_pos ⟨hok, pa, pb⟩
        have e2 : gainE i q a b = fE (gainZ i q a b) := if_pos ⟨hok, pa, pb⟩
        rw [e1, e2]
        have ht := ok_mult hok
        obtain ⟨hm1, hm2, hm64⟩ := pr_move pa pb
        have HMD := Lib.hid (fun w => made_any q (b - a) i.mult hq ⟨hm1, hm2⟩ ht w)
        have HI := Lib.hid (fun w => int_any (gainZ i q a b) (move_in hq ⟨hm1, hm2⟩ ht).2.2.2 w)
        have ez : q * (b - a) * i.mult = gainZ i q a b := rfl
        rw [ez] at HMD
        have PA := Lib.hid pa
        have PB := Lib.hid pb
        have HI0 := Lib.hid hI0
        unfold In64 at hm64
        clear e1 e2 ez hok pa pb ht hI0 h
        generalize gainZ i q a b = z at *
        unfold insV
        go_enter Tryd.func28, Tryd.ntmps28
        go_wp2_with fail
        refine (HC.out _ hB0).mono ?_
        rintro e w1 ⟨rfl, hb1⟩
        have I1 := HI0.out.below hb1
        have hB1 := since_step hB0 hb1
        clear hb1
        go_wp2_with fail
        refine (priced_any _ _).mono ?_
        rintro e w2 ⟨rfl, rfl⟩
        rw [PA.out]
        go_wp2_with fail
        refine (priced_any _ _).mono ?_
        rintro e w2 ⟨rfl, rfl⟩
        rw [PB.out]
        obtain ⟨i0, i1, i2, i3, i4, i5⟩ := _root_.id I1
        go_wp2_with fail
        refine (HMD.out _).mono ?_
        rintro e w3 ⟨rfl, hb3⟩
        have hB3 := since_step hB1 hb3
        clear hb3
        go_wp2_with fail
        refine (HI.out _).mono ?_
        rintro e w4 ⟨rfl, hb4⟩
        have hB4 := since_step hB3 hb4
        go_wp2_with fail
        go_ret2
        exact ⟨rfl, hB4⟩
      · have e1 : gainV i q a b = 0 := if_neg fun h => pb h.2.2
        have e2 : gainE i q a b = 2 := if_neg fun h => pb h.2.2
        rw [e1, e2]
        have PA := Lib.hid pa
        have PB := Lib.hid (show prB b = false by simpa using pb)
        clear e1 e2 hok pa pb h
        unfold insV
        go_enter Tryd.func28, Tryd.ntmps28
        go_wp2_with fail
        refine (HC.out _ hB0).mono ?_
        rintro e w1 ⟨rfl, hb1⟩
        have hB1 := since_step hB0 hb1
        clear hb1
        go_wp2_with fail
        refine (priced_any _ _).mono ?_
        rintro e w2 ⟨rfl, rfl⟩
        rw [PA.out]
        go_wp2_with fail
        refine (priced_any _ _).mono ?_
        rintro e w2 ⟨rfl, rfl⟩
        rw [PB.out]
        go_wp2_with fail
        go_ret2
        exact ⟨rfl, hB1⟩
    · have e1 : gainV i q a b = 0 := if_neg fun h => pa h.2.1
      have e2 : gainE i q a b = 2 := if_neg fun h => pa h.2.1
      rw [e1, e2]
      have PA := Lib.hid (show prB a = false by simpa using pa)
      clear e1 e2 hok pa h
      unfold insV
      go_enter Tryd.func28, Tryd.ntmps28
      go_wp2_with fail
      refine (HC.out _ hB0).mono ?_
      rintro e w1 ⟨rfl, hb1⟩
      have hB1 := since_step hB0 hb1
      clear hb1
      go_wp2_with fail
      refine (priced_any _ _).mono ?_
      rintro e w2 ⟨rfl, rfl⟩
      rw [PA.out]
      go_wp2_with fail
      go_ret2
      exact ⟨rfl, hB1⟩
  · have e1 : gainV i q a b = 0 := if_neg fun h => hok h.1
    have e2 : gainE i q a b = 2 := if_neg fun h => hok h.1
    rw [e1, e2]
    rw [if_neg hok] at HC
    have HC := Lib.hid HC
    clear e1 e2 hok h
    unfold insV
    go_enter Tryd.func28, Tryd.ntmps28
    go_wp2_with fail
    refine (HC.out _ hB0).mono ?_
    rintro e w1 ⟨rfl, hb1⟩
    have hB1 := since_step hB0 hb1
    go_wp2_with fail
    go_ret2
    exact ⟨rfl, hB1⟩
end Go.Proofs.YtldnponbkhgijaaDoor
end
section
namespace Go.Proofs.YtldnponbkhgijaaDoor
open Go.ChangeShapes Go.WideShapes Go.ChangeAt Go.RowKit
set_option linter.unusedVariables false
set_option linter.unusedSimpArgs false

def shockZ (i : Ins) (q s : Int) : Int := if okB i = true ∧ 0 ≤ s ∧ s < (i.mv.length : Int) then q * i.mv.getD s.toNat 0 * i.mult else 0
set_option maxRecDepth 100000 in
set_option maxHeartbeats 4000000 in
theorem shock_any (i : Ins) (A : Option Addr) (c : Nat) (q s : Int) (w : World) (h : InsAt w i A c) (hq : In64 q) (hs64 : In64 s) :
    Calls Tryd.prog 30 #[insV i A c, .int .i64 q, .int .i64 s] w fun e w' => e = .returned (.agg #[.int .i64 (hiN (shockZ i q s)), .int .u64 (loN (shockZ i q s))]) ∧ Below w.heap.size w w' := by
  have HC := fun W (hb : Below w.heap.size w W) => check_any i A c W (h.below hb)
  have hB0 := since_alloc (Below.refl _ w) (.cells #[.int .i64 i.id, .int .i64 i.mult, .int .i64 i.price, .int .i64 i.nxt, .slice A i.mv.length c] 25)
  have hI0 := IB.new w i A c 25
  have hB1 := since_alloc hB0 (.cells #[.int .i64 0, .int .u64 0] 52)
  have hI1 := hI0.below ((Below.refl _ _).alloc (Nat.le_refl _) (.cells #[.int .i64 0, .int .u64 0] 52))
  have hT1 := T2.new (w.alloc (.cells #[.int .i64 i.id, .int .i64 i.mult, .int .i64 i.price, .int .i64 i.nxt, .slice A i.mv.length c] 25)) 0 0 52
  rw [World.size_alloc] at hT1
  obtain ⟨z1, z2, z3⟩ := zero_parts
  have HI1 := Lib.hid hI1
  have HT1 := Lib.hid hT1
  have HB1 := Lib.hid hB1
  clear hI0 hI1 hT1 hB0 hB1
  by_cases hg : okB i = true ∧ 0 ≤ s ∧ s < (i.mv.length : Int)
  · obtain ⟨hok, hs0, hsl⟩ := hg
    obtain ⟨k, rfl⟩ := Int.eq_ofNat_of_zero_le hs0
    have hk : k < i.mv.length := by omega
    have ez : shockZ i q (k : Int) = q * i.mv[k] * i.mult := by
      unfold shockZ
      rw [if_pos ⟨hok, hs0, hsl⟩, Int.toNat_natCast, List.getD_eq_getElem?_getD, List.getElem?_eq_getElem hk]
      rfl
    rw [ez]
    rw [if_pos hok] at HC
    have HC := Lib.hid HC
    have HMD := Lib.hid (fun w => made_any q i.mv[k] i.mult hq (ok_move hok hk) (ok_mult hok) w)
    obtain ⟨b, o, rfl, hz0⟩ := h.sl.int hk
    have hbw := World.block_lt_of_cell? _ _ hz0
    generalize q * i.mv[k] * i.mult = z at *
    generalize i.mv[k] = m at *
    have HZ0 := Lib.hid hz0
    clear hok hs0 ez h hz0
    unfold insV
    go_enter Tryd.func30, Tryd.ntmps30
    go_wp2_with fail
    refine (HC.out _ HB1.out).mono ?_
    rintro e w1 ⟨rfl, hb1⟩
    have I1 := HI1.out.below hb1
    have T1 := HT1.out.below hb1
    have hB1 := since_step HB1.out hb1
    clear hb1 HI1 HT1 HB1
    obtain ⟨i0, i1, i2, i3, i4, i5⟩ := _root_.id I1
    have hz := (hB1.cell (p := ⟨b, o + k, none⟩) hbw).trans HZ0.out
    have hbr := World.block_lt_of_cell? _ _ hz
    obtain ⟨q0, q1, q2, q3, q4⟩ := _root_.id T1
    go_upto_region 3 with fail
    go_region_with (first
      | (go_at_call 40; refine (HMD.out _).mono ?_; rintro e w2 ⟨rfl, hb2⟩; have T2' := T1.drew.below hb2; have hB2 := since_step hB1.drew hb2; obtain ⟨q0, q1, q2, q3, q4⟩ := _root_.id T2'; clear hb2))
    all_goals
      go_wp2_with fail
      refine bodyPost_ret (v := .agg #[.int .i64 (hiN z), .int .u64 (loN z)]) ?_ rfl ?_
      · obtain ⟨f0, f1, f2, f3, f4⟩ := T2'.set2 (hiN z) (loN z)
        simp [results, Tryd.results30, go_sem, f1, f2]
      · refine ⟨rfl, ?_⟩
        refine Below.setCell (Below.setCell hB2 ?_ _) ?_ _ <;> first | (simp; done) | (simp; omega)
  · have ez : shockZ i q s = 0 := if_neg hg
    rw [ez, z1, z2]
    by_cases hok : okB i = true
    · have hgs : s < 0 ∨ (¬ s < 0 ∧ (i.mv.length : Int) ≤ s) := by
        rcases Int.lt_or_le s 0 with h1 | h1
        · exact Or.inl h1
        · exact Or.inr ⟨by omega, by refine Decidable.byContradiction fun h2 => hg ⟨hok, h1, by omega⟩⟩
      rw [if_pos hok] at HC
      have HC := Lib.hid HC
      clear hg ez hok
      rcases hgs with hs1 | ⟨hs1, hs2⟩
      all_goals
        unfold insV
        go_enter Tryd.func30, Tryd.ntmps30
        go_wp2_with fail
        refine (HC.out _ HB1.out).mono ?_
        rintro e w1 ⟨rfl, hb1⟩
        have I1 := HI1.out.below hb1
        have T1 := HT1.out.below hb1
        have hB1 := since_step HB1.out hb1
        clear hb1 HI1 HT1 HB1
        obtain ⟨i0, i1, i2, i3, i4, i5⟩ := _root_.id I1
        obtain ⟨q0, q1, q2, q3, q4⟩ := _root_.id T1
        go_wp2_with fail
        refine bodyPost_ret (v := .agg #[.int .i64 0, .int .u64 0]) ?_ rfl ?_
        · obtain ⟨f0, f1, f2, f3, f4⟩ := T1.set2 0 0
          simp [results, Tryd.results30, go_sem, f1, f2]
        · refine ⟨rfl, ?_⟩
          refine Below.setCell (Below.setCell hB1 ?_ _) ?_ _ <;> first | (simp; done) | (simp; omega)
    · rw [if_neg hok] at HC
      have HC := Lib.hid HC
      clear hg ez hok
      unfold insV
      go_enter Tryd.func30, Tryd.ntmps30
      go_wp2_with fail
      refine (HC.out _ HB1.out).mono ?_
      rintro e w1 ⟨rfl, hb1⟩
      have I1 := HI1.out.below hb1
      have T1 := HT1.out.below hb1
      have hB1 := since_step HB1.out hb1
      clear hb1 HI1 HT1 HB1
      obtain ⟨i0, i1, i2, i3, i4, i5⟩ := _root_.id I1
      obtain ⟨q0, q1, q2, q3, q4⟩ := _root_.id T1
      go_wp2_with fail
      refine bodyPost_ret (v := .agg #[.int .i64 0, .int .u64 0]) ?_ rfl ?_
      · obtain ⟨f0, f1, f2, f3, f4⟩ := T1.set2 0 0
        simp [results, Tryd.results30, go_sem, f1, f2]
      · refine ⟨rfl, ?_⟩
        refine Below.setCell (Below.setCell hB1 ?_ _) ?_ _ <;> first | (simp; done) | (simp; omega)
end Go.Proofs.YtldnponbkhgijaaDoor
end
section
namespace Go.Proofs.YtldnponbkhgijaaDoor
open Go.ChangeShapes Go.WideShapes Go.ChangeAt Go.RowKit
set_option linter.unusedVariables false
set_option linter.unusedSimpArgs false

structure HeldI (W V : World) (gi gr : Nat) (i : Ins) (A : Option Addr) (c : Nat) : Prop where
  bel : Below gr W V
  le : W.heap.size ≤ V.heap.size
  lt : gr < V.heap.size
  i0 : V.cell? ⟨gi, 0, none⟩ = some (.int .i64 i.id)
  i1 : V.cell? ⟨gi, 1, none⟩ = some (.int .i64 i.mult)
  i2 : V.cell? ⟨gi, 2, none⟩ = some (.int .i64 i.price)
  i3 : V.cell? ⟨gi, 3, none⟩ = some (.int .i64 i.nxt)
  i4 : V.cell? ⟨gi, 4, none⟩ = some (.slice A i.mv.length c)
  e0 : ∃ v, V.cell? ⟨gr, 0, none⟩ = some v
  e1 : ∃ v, V.cell? ⟨gr, 1, none⟩ = some v
  f0 : V.frozen? ⟨gr, 0, none⟩ = false
  f1 : V.frozen? ⟨gr, 1, none⟩ = false
section
variable {W V V' : World} {gi gr : Nat} {i : Ins} {A : Option Addr} {c : Nat}
theorem HeldI.step (h : HeldI W V gi gr i A c) (hb : Below V.heap.size V V') : HeldI W V' gi gr i A c := by
  have hc : ∀ p u, V.cell? p = some u → V'.cell? p = some u := fun p u e => (hb.cell (World.block_lt_of_cell? _ _ e)).trans e
  exact ⟨h.bel.trans (hb.mono (Nat.le_of_lt h.lt)), Nat.le_trans h.le hb.size, Nat.lt_of_lt_of_le h.lt hb.size, hc _ _ h.i0, hc _ _ h.i1, hc _ _ h.i2, hc _ _ h.i3, hc _ _ h.i4, h.e0.imp fun v e => hc _ _ e, h.e1.imp fun v e => hc _ _ e,
    (hb.frozen (p := ⟨gr, 0, none⟩) h.lt).trans h.f0, (hb.frozen (p := ⟨gr, 1, none⟩) h.lt).trans h.f1⟩
theorem HeldI.set (h : HeldI W V gi gr i A c) (hne : gi ≠ gr) (u v : Value) : HeldI W ((V.setCell ⟨gr, 0, none⟩ u).setCell ⟨gr, 1, none⟩ v) gi gr i A c := by
  obtain ⟨v0, h0⟩ := h.e0
  obtain ⟨v1, h1⟩ := h.e1
  have hne' : ¬ gr = gi := fun e => hne e.symm
  refine ⟨Below.setCell (Below.setCell h.bel (by simp) _) (by simp) _, by simpa using h.le, by simpa using h.lt, ?_, ?_, ?_, ?_, ?_, ?_, ?_, ?_, ?_⟩
  · simp [cell_set, hne', h.i0]
  · simp [cell_set, hne', h.i1]
  · simp [cell_set, hne', h.i2]
  · simp [cell_set, hne', h.i3]
  · simp [cell_set, hne', h.i4]
  · exact ⟨u, by simp [cell_set, h0, h1]⟩
  · exact ⟨v, by simp [cell_set, h0, h1]⟩
  · simpa using h.f0
  · simpa using h.f1
theorem HeldI.got (h : HeldI W V gi gr i A c) (s : Bool) (B : Option Addr) (m d : Nat) :
    ((V.setCell ⟨gr, 0, none⟩ (.bool s)).setCell ⟨gr, 1, none⟩ (.slice B m d)).cell? ⟨gr, 0, none⟩ = some (.bool s) ∧ ((V.setCell ⟨gr, 0, none⟩ (.bool s)).setCell ⟨gr, 1, none⟩ (.slice B m d)).cell? ⟨gr, 1, none⟩ = some (.slice B m d) := by
  obtain ⟨v0, h0⟩ := h.e0
  obtain ⟨v1, h1⟩ := h.e1
  exact ⟨by simp [cell_set, h0, h1], by simp [cell_set, h0, h1]⟩
end
end Go.Proofs.YtldnponbkhgijaaDoor
end
section
namespace Go.Proofs.YtldnponbkhgijaaDoor
open Go.ChangeShapes Go.WideShapes Go.ChangeAt Go.RowKit
set_option linter.unusedVariables false
set_option linter.unusedSimpArgs false

set_option maxHeartbeats 1000000 in
theorem samen_any (A B : Option Addr) (ca cb : Nat) (l : List Int) (w : World) (hl : l.length ≤ 1000000) (ha : Sl w A (ints .i64 l)) (hb : Sl w B (ints .i64 l)) :
    Calls Tryd.prog 27 #[.slice A l.length ca, .slice B l.length cb] w fun e w' => e = .returned (.bool true) ∧ Below w.heap.size w w' := by
  go_enter Tryd.func27, Tryd.ntmps27
  go_wp2
  go_loopw [5] (fun i wr => ∃ k : Nat, k ≤ l.length ∧ i = .int .i64 k ∧ Below w.heap.size w wr) (fun i _ => l.length - (intOf i).toNat)
  case atStart => exact ⟨0, by omega, rfl, Below.refl _ _⟩
  case round =>
    obtain ⟨k, hk, rfl, hB⟩ := hrel
    by_cases hlt : k < l.length
    · obtain ⟨b, o, rfl, hz⟩ := (ha.below hB).int hlt
      obtain ⟨b2, o2, rfl, hz2⟩ := (hb.below hB).int hlt
      have hbr := World.block_lt_of_cell? _ _ hz
      have hbr2 := World.block_lt_of_cell? _ _ hz2
      generalize l[k] = x at *
      go_wp2
      go_quiet (fail)
      go_wp2
      go_roundw
      case rel => exact ⟨k + 1, by omega, by go_num, below_drewN hB _⟩
      case measure => simp [intOf]; omega
    · obtain rfl : k = l.length := by omega
      go_wp2
      go_ret
      exact ⟨rfl, hB⟩
set_option maxHeartbeats 4000000 in
set_option maxRecDepth 100000 in
theorem same1_self (i : Ins) (A A2 : Option Addr) (c c2 : Nat) (w : World) (hl : i.mv.length ≤ 900000) (h : Sl w A (ints .i64 i.mv)) (h2 : Sl w A2 (ints .i64 i.mv)) :
    Calls Tryd.prog 16 #[insV i A c, insV i A2 c2] w fun e w' => e = .returned (.bool true) ∧ Below w.heap.size w w' := by
  have hB0 := since_alloc (since_alloc (Below.refl _ w) (.cells #[.int .i64 i.id, .int .i64 i.mult, .int .i64 i.price, .int .i64 i.nxt, .slice A i.mv.length c] 25)) (.cells #[.int .i64 i.id, .int .i64 i.mult, .int .i64 i.price, .int .i64 i.nxt, .slice A2 i.mv.length c2] 25)
  have HS := Lib.hid (samen_any A A2 c c2 i.mv _ (by omega) ((h.alloc (.cells #[.int .i64 i.id, .int .i64 i.mult, .int .i64 i.price, .int .i64 i.nxt, .slice A i.mv.length c] 25)).alloc (.cells #[.int .i64 i.id, .int .i64 i.mult, .int .i64 i.price, .int .i64 i.nxt, .slice A2 i.mv.length c2] 25)) ((h2.alloc (.cells #[.int .i64 i.id, .int .i64 i.mult, .int .i64 i.price, .int .i64 i.nxt, .slice A i.mv.length c] 25)).alloc (.cells #[.int .i64 i.id, .int .i64 i.mult, .int .i64 i.price, .int .i64 i.nxt, .slice A2 i.mv.length c2] 25)))
  clear h h2
  unfold insV
  generalize i.mv.length = n at *
  go_enter Tryd.func16, Tryd.ntmps16
  go_wp2_with fail
  refine HS.out.mono ?_
  rintro e w1 ⟨rfl, hb⟩
  have hB1 := since_step hB0 hb
  go_wp2_with fail
  go_ret
  exact ⟨rfl, hB1⟩
set_option maxHeartbeats 8000000 in
set_option maxRecDepth 100000 in
theorem rsamei_self (A : Option Addr) (cap : Nat) (l : List Iq) (A2 : Option Addr) (cap2 : Nat) (m : List Iq) (is : List Ins) (w : World) (hl : l.length ≤ 900000) (hcl : ∀ i ∈ is, i.mv.length ≤ 900000) (hs : Sl w A (rc Iq.cells l)) (ht : InTab w l is) (hs2 : Sl w A2 (rc Iq.cells m)) (ht2 : InTab w m is) :
    Calls Tryd.prog 15 #[.slice A l.length cap, .slice A2 m.length cap2] w fun e w' => e = .returned (.bool true) ∧ Below w.heap.size w w' := by
  have hml : m.length = l.length := ht2.1.trans ht.1.symm
  rw [hml]
  have HML := Lib.hid hml
  have HLC := Lib.hid ht.1
  have HT := Lib.hid (And.intro ht ht2)
  have hne : ((l.length : Int) != (l.length : Int)) = false := by simp
  clear hml ht ht2
  go_enter Tryd.func15, Tryd.ntmps15
  go_wp2_with fail
  go_loopw [5] (fun i wr => ∃ k : Nat, k ≤ l.length ∧ i = .int .i64 k ∧ Below w.heap.size w wr) (fun i _ => l.length - (intOf i).toNat)
  case atStart => exact ⟨0, by omega, rfl, Below.refl _ _⟩
  case round =>
    obtain ⟨k, hk, rfl, hB⟩ := hrel
    by_cases hlt : k < l.length
    · have hlc : k < is.length := HLC.out ▸ hlt
      have hlm : k < m.length := HML.out.symm ▸ hlt
      obtain ⟨b, o, hA, hbw, hg⟩ := (hs.below hB).iq hlt
      obtain ⟨b2, o2, hA2, hbw2, hg2⟩ := (hs2.below hB).iq hlm
      have hlk : (k : Int) < (l.length : Int) := by omega
      have hgk : (0 : Int) ≤ (k : Int) := by omega
      have hI := (HT.out.1.below hB).2 k hlt hlc
      have hI2 := (HT.out.2.below hB).2 k hlm hlc
      have hm := hcl _ (List.getElem_mem hlc)
      have HG : Hid (∀ V, Below wr.heap.size wr V → l[k].at V b (o + k * 5) ∧ m[k].at V b2 (o2 + k * 5)) := Lib.hid fun V hV => ⟨Iq.at_keep hg fun i => hV.cell (p := ⟨b, i, none⟩) hbw, Iq.at_keep hg2 fun i => hV.cell (p := ⟨b2, i, none⟩) hbw2⟩
      clear hg hg2
      generalize l[k] = v at *
      generalize m[k] = u at *
      generalize is[k] = i at *
      obtain ⟨va, vb, vc, vd, vt, vL, vC⟩ := v
      obtain ⟨ua, ub, uc, ud, ut, uL, uC⟩ := u
      obtain ⟨i0, i1, i2, i3, i4, i5⟩ := hI
      obtain ⟨k0, k1, k2, k3, k4, k5⟩ := hI2
      simp only at i0 i1 i2 i3 i4 i5 k0 k1 k2 k3 k4 k5
      subst i0; subst i1; subst i2; subst i3; subst i4
      subst k0; subst k1; subst k2; subst k3; subst k4
      unfold Iq.at at HG
      simp only at HG
      have HSA : Hid (∀ V, Below wr.heap.size wr V → Calls Tryd.prog 16 #[insV i vt vC, insV i ut uC] V fun e w' => e = .returned (.bool true) ∧ Below V.heap.size V w') := Lib.hid fun V hV => same1_self i vt ut vC uC V hm (i5.sl.below hV) (k5.sl.below hV)
      unfold insV at HSA
      clear i5 k5 hm
      subst hA
      subst hA2
      go_wp2_with fail
      refine wp_region_held_drew (S := (fun V => Below wr.heap.size wr V)) (by kernel_rfl) (by exact (Below.refl _ _).drew) (fun hHeld => ?_)
      refine wpAnyH_take (i := 0) (oi := { dst := some 17, op := _, type := _, pos := _, after := _, guard := _ }) (v := ?_) rfl (by kernel_rfl) (by kernel_rfl) (by kernel_rfl) (fun _ _ _ h => h) (Or.inl ⟨by rfl, ?_⟩) hHeld ?_
      rotate_left
      · (intro w hSw; clear hSw; go_simp <;> with_reducible rfl)
      try simp only [Act.put, List.setIfInBounds_toArray, List.set_cons_zero, List.set_cons_succ]
      refine wpAnyH_take (i := 1) (oi := { dst := some 18, op := _, type := _, pos := _, after := _, guard := _ }) (v := ?_) rfl (by kernel_rfl) (by kernel_rfl) (by kernel_rfl) (fun _ _ _ h => h) (Or.inl ⟨by rfl, ?_⟩) hHeld ?_
      rotate_left
      · (intro w hSw; clear hSw; go_simp <;> with_reducible rfl)
      try simp only [Act.put, List.setIfInBounds_toArray, List.set_cons_zero, List.set_cons_succ]
      refine wpAnyH_take (i := 2) (oi := { dst := some 19, op := _, type := _, pos := _, after := _, guard := _ }) (v := ?_) rfl (by kernel_rfl) (by kernel_rfl) (by kernel_rfl) (fun _ _ _ h => h) (Or.inl ⟨by rfl, ?_⟩) hHeld ?_
      rotate_left
      · (intro w hSw; clear hSw; go_simp <;> with_reducible rfl)
      try simp only [Act.put, List.setIfInBounds_toArray, List.set_cons_zero, List.set_cons_succ]
      refine wpAnyH_take (i := 3) (oi := { dst := some 20, op := _, type := _, pos := _, after := _, guard := _ }) (v := ?_) rfl (by kernel_rfl) (by kernel_rfl) (by kernel_rfl) (fun _ _ _ h => h) (Or.inl ⟨by rfl, ?_⟩) hHeld ?_
      rotate_left
      · (intro w hSw; obtain ⟨⟨g0, g1, g2, g3, g4⟩, h0, h1, h2, h3, h4⟩ := HG.out _ hSw; go_simp <;> with_reducible rfl)
      try simp only [Act.put, List.setIfInBounds_toArray, List.set_cons_zero, List.set_cons_succ]
      refine wpAnyH_take (i := 4) (oi := { dst := some 21, op := _, type := _, pos := _, after := _, guard := _ }) (v := ?_) rfl (by kernel_rfl) (by kernel_rfl) (by kernel_rfl) (fun _ _ _ h => h) (Or.inl ⟨by rfl, ?_⟩) hHeld ?_
      rotate_left
      · (intro w hSw; clear hSw; go_simp <;> with_reducible rfl)
      try simp only [Act.put, List.setIfInBounds_toArray, List.set_cons_zero, List.set_cons_succ]
      refine wpAnyH_take (i := 5) (oi := { dst := some 22, op := _, type := _, pos := _, after := _, guard := _ }) (v := ?_) rfl (by kernel_rfl) (by kernel_rfl) (by kernel_rfl) (fun _ _ _ h => h) (Or.inl ⟨by rfl, ?_⟩) hHeld ?_
      rotate_left
      · (intro w hSw; clear hSw; go_simp <;> with_reducible rfl)
      try simp only [Act.put, List.setIfInBounds_toArray, List.set_cons_zero, List.set_cons_succ]
      refine wpAnyH_take (i := 6) (oi := { dst := some 23, op := _, type := _, pos := _, after := _, guard := _ }) (v := ?_) rfl (by kernel_rfl) (by kernel_rfl) (by kernel_rfl) (fun _ _ _ h => h) (Or.inl ⟨by rfl, ?_⟩) hHeld ?_
      rotate_left
      · (intro w hSw; clear hSw; go_simp <;> with_reducible rfl)
      try simp only [Act.put, List.setIfInBounds_toArray, List.set_cons_zero, List.set_cons_succ]
      refine wpAnyH_take (i := 7) (oi := { dst := some 24, op := _, type := _, pos := _, after := _, guard := _ }) (v := ?_) rfl (by kernel_rfl) (by kernel_rfl) (by kernel_rfl) (fun _ _ _ h => h) (Or.inl ⟨by rfl, ?_⟩) hHeld ?_
      rotate_left
      · (intro w hSw; obtain ⟨⟨g0, g1, g2, g3, g4⟩, h0, h1, h2, h3, h4⟩ := HG.out _ hSw; go_simp <;> with_reducible rfl)
      try simp only [Act.put, List.setIfInBounds_toArray, List.set_cons_zero, List.set_cons_succ]
      refine wpAnyH_ready (rs := [8]) (by kernel_rfl) (by simp) ?_
      refine AllReadyH.cons (o := { dst := some 25, op := _, type := _, pos := _, after := _, guard := _ }) rfl (fun K hK => ?_) AllReadyH.nil
      go_simp
      refine (HSA.out _ hHeld).mono ?_
      rintro e u1 ⟨rfl, hk1⟩
      have hKeep := since_step hHeld hk1
      go_wp2_with fail
      refine hK.out _ _ (by (try dsimp only); exact hKeep) (fun hHeld => ?_)
      clear hK K hKeep
      try simp only [Act.put, List.setIfInBounds_toArray, List.set_cons_zero, List.set_cons_succ]
      refine wpAnyH_take (i := 9) (oi := { dst := some 26, op := _, type := _, pos := _, after := _, guard := _ }) (v := ?_) rfl (by kernel_rfl) (by kernel_rfl) (by kernel_rfl) (fun _ _ _ h => h) (Or.inl ⟨by rfl, ?_⟩) hHeld ?_
      rotate_left
      · (intro w hSw; clear hSw; go_simp <;> with_reducible rfl)
      try simp only [Act.put, List.setIfInBounds_toArray, List.set_cons_zero, List.set_cons_succ]
      refine wpAnyH_done (by kernel_rfl) ?_ _
      have hB2 := hB.trans (hHeld.mono hB.size)
      go_wp2_with fail
      go_roundw
      case rel => exact ⟨k + 1, by omega, by go_num, hB2⟩
      case measure => simp [intOf]; omega
    · obtain rfl : k = l.length := by omega
      go_wp2_with fail
      go_ret
      exact ⟨rfl, hB⟩
def icOf (i : Ins) : Ic := ⟨i.id, i.mult, i.price, i.nxt, i.mv.map Sx.mk⟩
theorem InTab.iq {w : World} {l : List Iq} {is : List Ins} (h : InTab w l is) : IqTab w l (is.map icOf) := by
  refine ⟨by simp [h.1], fun k h1 h2 => ?_⟩
  have h3 : k < is.length := by simpa using h2
  obtain ⟨a, b, c, d, e, f⟩ := h.2 k h1 h3
  rw [List.getElem_map]
  exact ⟨a, b, c, d, by rw [e]; simp [icOf], by show Sl w _ (rc Sx.cells ((is[k]).mv.map Sx.mk)); rw [sx_ints]; exact f.sl⟩
def In64I (i : Ins) : Prop := All64 i.mv ∧ In64 i.id ∧ In64 i.mult ∧ In64 i.price ∧ In64 i.nxt
theorem IqOTab.ins {B : Nat} {w : World} {l : List Iq} {is : List Ins} (h : IqOTab B w l (is.map icOf)) (h6 : ∀ i ∈ is, In64I i) : InTab w l is := by
  have hlen : l.length = is.length := by have := h.1; simpa using this
  refine ⟨hlen, fun k h1 h3 => ?_⟩
  have h2 : k < (is.map icOf).length := by simpa using h3
  have ho := h.2 k h1 h2
  have h6 := h6 _ (List.getElem_mem h3)
  have hc := own_capI ho.own
  have e : (is.map icOf)[k] = icOf is[k] := by rw [List.getElem_map]
  obtain ⟨a, b, c, d, e1, f⟩ := ho.is
  rw [e] at a b c d e1 f hc
  refine ⟨a, b, c, d, by rw [e1]; simp [icOf], ⟨?_, ?_, h6.1, h6.2⟩⟩
  · simpa [icOf] using hc
  · have f2 : Sl w l[k].mv (rc Sx.cells ((is[k]).mv.map Sx.mk)) := f
    rw [sx_ints] at f2; exact f2
end Go.Proofs.YtldnponbkhgijaaDoor
end
section
namespace Go.Proofs.YtldnponbkhgijaaDoor
open Go.ChangeShapes Go.WideShapes Go.ChangeAt Go.RowKit
set_option linter.unusedVariables false
set_option linter.unusedSimpArgs false

def ahN (a b : Ins) : Bool := decide (a.id < b.id)
theorem ah_gi {w : World} {g g' : Iq} {i i' : Ins} (h : GI w g i) (h' : GI w g' i') : ahI g g' = ahN i i' := by unfold ahI ahN; rw [h.id, h'.id]
theorem InTab.put {w : World} {g : Iq} {i : Ins} (hg : GI w g i) : ∀ {l : List Iq} {is : List Ins}, InTab w l is → InTab w (putR ahI l g) (putR ahN is i)
  | [], [], h => InTab.cons hg (InTab.nil w)
  | [], _ :: _, h => by have := h.1; simp at this
  | _ :: _, [], h => by have := h.1; simp at this
  | a :: l, b :: is, h => by
    have h0 : GI w a b := h.2 0 (by simp) (by simp)
    have ht : InTab w l is := ⟨by simpa using h.1, fun k h1 h2 => h.2 (k + 1) (by simpa using h1) (by simpa using h2)⟩
    rw [putR, putR, ah_gi h0 hg, ah_gi hg h0]
    split
    · exact InTab.cons h0 (InTab.put hg ht)
    · split
      · exact InTab.cons hg h
      · exact InTab.cons hg ht
def putN (is : List Ins) (i : Ins) : Int × List Ins := if okB i = false then (2, []) else if (fndI is i.id).isSome = true then (12, []) else (0, putR ahN is i)
def ITR (w' : World) (e : Ending) (R : Int × List Ins) : Prop := ∃ (l : List Iq) (A' : Option Addr) (c' : Nat), e = .returned (.tuple #[.slice A' l.length c', .int .i64 R.1]) ∧ Sl w' A' (rc Iq.cells l) ∧ InTab w' l R.2
theorem ITR.nil (w' : World) (n : Int) : ITR w' (.returned (.tuple #[.slice none 0 0, .int .i64 n])) (n, []) := ⟨[], none, 0, rfl, Sl.nil, InTab.nil _⟩
theorem has_fnd {w : World} {l : List Iq} {is : List Ins} (h : InTab w l is) (id : Int) : hasI l id = (fndI is id).isSome := by
  unfold hasI
  rcases h.find id with ⟨h1, h2⟩ | ⟨g, i, h1, h2, _⟩ <;> rw [h1, h2] <;> rfl
theorem rputN_any (B0 : Nat) (A : Option Addr) (cap : Nat) (l : List Iq) (is : List Ins) (i : Ins) (IA : Option Addr) (IC : Nat) (w : World) (hl : l.length ≤ 900000) (hown : w.ownsRow B0 25 5 (.slice A l.length cap) l.length (rc Iq.cells l)) (hsd : SortedI l) (ht : InTab w l is) (hi : InsAt w i IA IC) :
    Calls Tryd.prog 10 #[.slice A l.length cap, insV i IA IC] w fun e w' => ITR w' e (putN is i) ∧ Below w.heap.size w w' := by
  have h := rputi_any B0 A cap l ⟨i.id, i.mult, i.price, i.nxt, IA, i.mv.length, IC⟩ (okB i) w (fun W hW => ris_any i IA IC W (hi.below hW)) hl hown hsd
  refine h.mono fun e w' ⟨⟨A', c', he, ho⟩, hb⟩ => ⟨?_, hb⟩
  have hh := has_fnd ht i.id
  unfold putIR at he ho
  unfold putN
  simp only at he ho
  cases hk : okB i with
  | false =>
    rw [hk] at he ho
    rw [if_pos rfl]
    rw [if_pos (by simp)] at he ho
    exact ⟨[], A', c', he, Sl.of_own ho, InTab.nil _⟩
  | true =>
    rw [hk] at he ho
    rw [if_neg (by simp)]
    rw [if_neg (by simp), hh] at he ho
    cases hq : (fndI is i.id).isSome with
    | true =>
      rw [hq] at he ho
      rw [if_pos rfl] at he ho
      rw [if_pos rfl]
      exact ⟨[], A', c', he, Sl.of_own ho, InTab.nil _⟩
    | false =>
      rw [hq] at he ho
      rw [if_neg (by simp)] at he ho
      rw [if_neg (by simp)]
      exact ⟨_, A', c', he, Sl.of_own ho, (InTab.put (w := w) (g := ⟨i.id, i.mult, i.price, i.nxt, IA, i.mv.length, IC⟩) ⟨rfl, rfl, rfl, rfl, rfl, hi⟩ ht).below hb⟩
end Go.Proofs.YtldnponbkhgijaaDoor
end
section
namespace Go.Proofs.YtldnponbkhgijaaDoor
open Go.ChangeShapes Go.WideShapes Go.ChangeAt Go.RowKit
set_option linter.unusedVariables false
set_option linter.unusedSimpArgs false

set_option maxHeartbeats 1000000 in
set_option maxRecDepth 100000 in
theorem iahead_any (x y : Iq) (w : World) :
    Calls Tryd.prog 26 #[x.val, y.val] w fun e w' => e = .returned (.bool (ahI x y)) ∧ Below w.heap.size w w' := by
  have hB := since_alloc (since_alloc (Below.refl _ w) (.cells x.cells.toArray 25)) (.cells y.cells.toArray 25)
  unfold Iq.val
  go_enter Tryd.func26, Tryd.ntmps26
  go_wp2_with fail
  go_ret
  exact ⟨rfl, hB⟩
theorem ent_iahead : Ent Tryd.prog 26 := Ent.of (by kernel_rfl)
theorem tells_iahead (B : Nat) (w : World) : Iq.Tells2 26 #[] ahI B w := fun a b W _ => iahead_any a b W
set_option maxHeartbeats 8000000 in
set_option maxRecDepth 100000 in
theorem iput_any (A : Option Addr) (cap : Nat) (l : List Iq) (is : List Ins) (i : Ins) (IA : Option Addr) (IC : Nat) (w : World) (hl : l.length ≤ 900000) (hcl : ∀ i ∈ is, i.mv.length ≤ 900000) (h6 : ∀ i ∈ is, In64I i) (him : i.mv.length ≤ 900000) (hs : Sl w A (rc Iq.cells l)) (ht : InTab w l is) (hi : InsAt w i IA IC) :
    Calls Tryd.prog 9 #[.slice A l.length cap, insV i IA IC] w fun e w' => ITR w' e (putN is i) ∧ Below w.heap.size w w' := by
  have hB0 := since_alloc (Below.refl _ w) (.cells #[.int .i64 i.id, .int .i64 i.mult, .int .i64 i.price, .int .i64 i.nxt, .slice IA i.mv.length IC] 25)
  have hK := Bk.new w #[.int .i64 i.id, .int .i64 i.mult, .int .i64 i.price, .int .i64 i.nxt, .slice IA i.mv.length IC] 25
  have HLL : Hid (is.length ≤ 1000000) := Lib.hid (by have := ht.1; omega)
  have HSL : Hid (∀ V, Below w.heap.size w V → Sl V A (rc Iq.cells l)) := Lib.hid fun V hV => hs.below hV
  have HTB : Hid (∀ V, Below w.heap.size w V → IqTab V l (is.map icOf)) := Lib.hid fun V hV => (ht.below hV).iq
  have HIS : Hid (∀ V, Below w.heap.size w V → Sl V IA (rc Sx.cells (i.mv.map Sx.mk))) := Lib.hid fun V hV => by rw [sx_ints]; exact hi.sl.below hV
  have HCH := Lib.hid (check_any i IA IC _ (hi.below hB0))
  have HPL := Lib.hid (fun V h => iplace_any A cap l i.id V (by omega) h)
  have H6 := Lib.hid h6
  have HI6 : Hid (All64 i.mv ∧ In64 i.id ∧ In64 i.mult ∧ In64 i.price ∧ In64 i.nxt) := Lib.hid ⟨hi.mv64, hi.n64⟩
  have HD := Lib.hid (fun V h1 h2 => dups_iq A cap l (is.map icOf) V hl (fun c hc => by obtain ⟨x, hx, rfl⟩ := List.mem_map.1 hc; show (x.mv.map Sx.mk).length ≤ 900000; rw [List.length_map]; exact hcl x hx) h1 h2)
  have hdl : (i.mv.map Sx.mk).length = i.mv.length := by simp
  have hD1 := fun V h => dup1_iq i.id i.mult i.price i.nxt IA IC (i.mv.map Sx.mk) V (by rw [hdl]; exact him) h
  rw [hdl] at hD1
  have HD1 := Lib.hid hD1
  have HPU := Lib.hid (fun A1 c1 l1 A2 c2 V hl1 h1 => put_iq A1 c1 l1 ⟨i.id, i.mult, i.price, i.nxt, A2, i.mv.length, c2⟩ 26 #[] ahI V hl1 h1 ent_iahead (tells_iahead _ _))
  unfold Iq.val at HPU
  simp only at HPU
  have hhf := has_fnd ht i.id
  unfold insV at HCH ⊢
  clear hs ht hi hdl hD1
  cases hk : okB i with
  | false =>
    have HR : Hid (putN is i = (2, [])) := Lib.hid (by unfold putN; rw [if_pos hk])
    rw [hk] at HCH
    rw [if_neg (by simp)] at HCH
    clear hk hhf
    go_enter Tryd.func9, Tryd.ntmps9
    go_wp2_with fail
    refine HCH.out.mono ?_
    rintro e w1 ⟨rfl, hb⟩
    have hB1 := since_step hB0 hb
    have hK := hK.below hb
    have ck := hK.2; have k0 := ck 0; have k1 := ck 1; have k2 := ck 2; have k3 := ck 3; have k4 := ck 4; simp at k0 k1 k2 k3 k4; clear ck
    clear hb
    go_wp2_with fail
    go_ret2
    rw [HR.out]
    exact ⟨ITR.nil _ _, hB1⟩
  | true =>
    rw [hk] at HCH
    rw [if_pos rfl] at HCH
    rcases casesI l i.id with ⟨h0, hat, _, hn⟩ | ⟨k, hkl, h0, hat, hx1, hx2, hx3⟩
    rotate_left
    · have HR : Hid (putN is i = (12, [])) := Lib.hid (by unfold putN; rw [if_neg (by simp [hk]), if_pos (by rw [← hhf]; exact h0)])
      have HAT := Lib.hid hat
      have hk1 : (0 : Int) ≤ (k : Int) := by omega
      clear hx1 hx2 hx3
      clear hk hhf h0 hat hkl
      go_enter Tryd.func9, Tryd.ntmps9
      go_wp2_with fail
      refine HCH.out.mono ?_
      rintro e w1 ⟨rfl, hb⟩
      have hB1 := since_step hB0 hb
      have hK := hK.below hb
      have ck := hK.2; have k0 := ck 0; have k1 := ck 1; have k2 := ck 2; have k3 := ck 3; have k4 := ck 4; simp at k0 k1 k2 k3 k4; clear ck
      clear hb
      go_wp2_with fail
      refine (HPL.out _ (HSL.out _ hB1)).mono ?_
      rw [HAT.out]
      rintro e w2 ⟨rfl, hb⟩
      have hB2 := since_step hB1 hb
      have hK := hK.below hb
      clear hb k0 k1 k2 k3 k4
      go_wp2_with fail
      go_ret2
      rw [HR.out]
      exact ⟨ITR.nil _ _, hB2⟩
    · have HR : Hid (putN is i = (0, putR ahN is i)) := Lib.hid (by unfold putN; rw [if_neg (by simp [hk]), if_neg (by rw [← hhf, h0]; simp)])
      have HAT := Lib.hid hat
      have hk1 : ¬ (0 : Int) ≤ (-1 : Int) := by omega
      clear hk hhf h0 hat hn
      go_enter Tryd.func9, Tryd.ntmps9
      go_wp2_with fail
      refine HCH.out.mono ?_
      rintro e w1 ⟨rfl, hb⟩
      have hB1 := since_step hB0 hb
      have hK := hK.below hb
      have ck := hK.2; have k0 := ck 0; have k1 := ck 1; have k2 := ck 2; have k3 := ck 3; have k4 := ck 4; simp at k0 k1 k2 k3 k4; clear ck
      clear hb
      go_wp2_with fail
      refine (HPL.out _ (HSL.out _ hB1)).mono ?_
      rw [HAT.out]
      rintro e w2 ⟨rfl, hb⟩
      have hB2 := since_step hB1 hb
      have hK := hK.below hb
      clear hb k0 k1 k2 k3 k4
      have HK : Hid (∀ V, Below w2.heap.size w2 V → Bk V w.heap.size #[.int .i64 i.id, .int .i64 i.mult, .int .i64 i.price, .int .i64 i.nxt, .slice IA i.mv.length IC]) := Lib.hid fun V hV => hK.below hV
      clear hK
      go_wp2_with fail
      refine wp_region_held_drew (S := (fun V => Below w.heap.size w V ∧ Below w2.heap.size w2 V)) (by kernel_rfl) (by exact ⟨hB2.drew, (Below.refl _ _).drew⟩) (fun hHeld => ?_)
      refine wpAnyH_take (i := 0) (oi := { dst := some 17, op := _, type := _, pos := _, after := _, guard := _ }) (v := ?_) rfl (by kernel_rfl) (by kernel_rfl) (by kernel_rfl) (fun _ _ _ h => h) (Or.inl ⟨by rfl, ?_⟩) hHeld ?_
      rotate_left
      · (intro w hSw; clear hSw; go_simp <;> with_reducible rfl)
      try simp only [Act.put, List.setIfInBounds_toArray, List.set_cons_zero, List.set_cons_succ]
      refine wpAnyH_take (i := 2) (oi := { dst := some 19, op := _, type := _, pos := _, after := _, guard := _ }) (v := ?_) rfl (by kernel_rfl) (by kernel_rfl) (by kernel_rfl) (fun _ _ _ h => h) (Or.inl ⟨by rfl, ?_⟩) hHeld ?_
      rotate_left
      · (intro w hSw; have ck := (HK.out _ (hSw).2).2; have k0 := ck 0; have k1 := ck 1; have k2 := ck 2; have k3 := ck 3; have k4 := ck 4; simp at k0 k1 k2 k3 k4; clear ck; go_simp <;> with_reducible rfl)
      try simp only [Act.put, List.setIfInBounds_toArray, List.set_cons_zero, List.set_cons_succ]
      refine wpAnyH_ready (rs := [1]) (by kernel_rfl) (by simp) ?_
      refine AllReadyH.cons (o := { dst := some 18, op := _, type := _, pos := _, after := _, guard := _ }) rfl (fun K hK => ?_) AllReadyH.nil
      go_simp
      refine (HD.out _ (HSL.out _ hHeld.1) (HTB.out _ hHeld.1)).mono ?_
      rintro e u1 ⟨⟨l1, A1, c1, rfl, ho1, hot1⟩, hk1⟩
      have hKeep := And.intro (since_step hHeld.1 hk1) (since_step hHeld.2 hk1)
      have hs1 := Sl.of_own ho1
      have ht1 := hot1.ins H6.out
      have hl1 : l1.length ≤ 1000000 := by rw [ht1.1]; exact HLL.out
      clear ho1 hot1
      have HQ1 := Lib.hid (And.intro hs1 (And.intro ht1 hl1))
      clear hs1 ht1 hl1
      go_wp2_with fail
      refine hK.out _ _ (by (try dsimp only); exact hKeep) (fun hHeld => ?_)
      clear hK K hKeep
      try simp only [Act.put, List.setIfInBounds_toArray, List.set_cons_zero, List.set_cons_succ]
      refine wpAnyH_ready (rs := [3]) (by kernel_rfl) (by simp) ?_
      refine AllReadyH.cons (o := { dst := some 20, op := _, type := _, pos := _, after := _, guard := _ }) rfl (fun K hK => ?_) AllReadyH.nil
      go_simp
      refine (HD1.out _ (HIS.out _ hHeld.1)).mono ?_
      rintro e u2 ⟨⟨A2, c2, rfl, ho2⟩, hk2⟩
      have hKeep := And.intro (since_step hHeld.1 hk2) (since_step hHeld.2 hk2)
      have HQ1 := Lib.hid (And.intro (HQ1.out.1.below hk2) (And.intro (HQ1.out.2.1.below hk2) HQ1.out.2.2))
      have hs2 := Sl.of_own ho2
      have hc2 := own_capI ho2
      have HQ2 := Lib.hid (And.intro hs2 hc2)
      clear ho2 hs2 hc2
      go_wp2_with fail
      refine hK.out _ _ (by (try dsimp only); exact hKeep) (fun hHeld => ?_)
      clear hK K hKeep
      try simp only [Act.put, List.setIfInBounds_toArray, List.set_cons_zero, List.set_cons_succ]
      refine wpAnyH_ready (rs := [4]) (by kernel_rfl) (by simp) ?_
      refine AllReadyH.cons (o := { dst := some 21, op := _, type := _, pos := _, after := _, guard := _ }) rfl (fun K hK => ?_) AllReadyH.nil
      go_simp
      refine (HPU.out A1 c1 l1 A2 c2 _ HQ1.out.2.2 HQ1.out.1).mono ?_
      rintro e u3 ⟨⟨A3, c3, rfl, ho3⟩, hk3⟩
      have hKeep := And.intro (since_step hHeld.1 hk3) (since_step hHeld.2 hk3)
      have HQ1 := Lib.hid (And.intro (HQ1.out.2.1.below hk3) (HQ2.out.1.below hk3))
      go_wp2_with fail
      refine hK.out _ _ (by (try dsimp only); exact hKeep) (fun hHeld => ?_)
      clear hK K hKeep
      try simp only [Act.put, List.setIfInBounds_toArray, List.set_cons_zero, List.set_cons_succ]
      refine wpAnyH_take (i := 5) (oi := { dst := some 4, op := _, type := _, pos := _, after := _, guard := _ }) (v := ?_) rfl (by kernel_rfl) (by kernel_rfl) (by kernel_rfl) (fun _ _ _ h => h) (Or.inl ⟨by rfl, ?_⟩) hHeld ?_
      rotate_left
      · (intro w hSw; clear hSw; go_simp <;> with_reducible rfl)
      try simp only [Act.put, List.setIfInBounds_toArray, List.set_cons_zero, List.set_cons_succ]
      refine wpAnyH_take (i := 6) (oi := { dst := some 5, op := _, type := _, pos := _, after := _, guard := _ }) (v := ?_) rfl (by kernel_rfl) (by kernel_rfl) (by kernel_rfl) (fun _ _ _ h => h) (Or.inl ⟨by rfl, ?_⟩) hHeld ?_
      rotate_left
      · (intro w hSw; clear hSw; go_simp <;> with_reducible rfl)
      try simp only [Act.put, List.setIfInBounds_toArray, List.set_cons_zero, List.set_cons_succ]
      refine wpAnyH_done (by kernel_rfl) ?_ _
      have hBz := hHeld.1
      have hsz := Sl.of_own ho3
      have htz := InTab.put (w := u3) (g := ⟨i.id, i.mult, i.price, i.nxt, A2, i.mv.length, c2⟩) (i := i) ⟨rfl, rfl, rfl, rfl, rfl, ⟨HQ2.out.2, (by have h := HQ1.out.2; rw [sx_ints] at h; exact h), HI6.out.1, HI6.out.2⟩⟩ HQ1.out.1
      rw [← putL_eq] at htz
      go_wp2_with fail
      go_ret2
      rw [HR.out]
      exact ⟨⟨_, A3, c3, rfl, hsz, htz⟩, hBz⟩
end Go.Proofs.YtldnponbkhgijaaDoor
end
section
namespace Go.Proofs.YtldnponbkhgijaaDoor
open Go.ChangeShapes Go.WideShapes Go.ChangeAt Go.RowKit
set_option linter.unusedVariables false
set_option linter.unusedSimpArgs false

def setPr (i : Ins) : Ins := ⟨i.id, i.mult, i.nxt, i.nxt, i.mv⟩
def setNx (p : Int) (i : Ins) : Ins := ⟨i.id, i.mult, i.price, p, i.mv⟩
def qPr (g : Iq) : Iq := ⟨g.id, g.mult, g.nxt, g.nxt, g.mv, g.mvL, g.mvC⟩
def qNx (p : Int) (g : Iq) : Iq := ⟨g.id, g.mult, g.price, p, g.mv, g.mvL, g.mvC⟩
theorem GI.pr {w : World} {g : Iq} {i : Ins} (h : GI w g i) : GI w (qPr g) (setPr i) := ⟨h.id, h.mult, h.nxt, h.nxt, h.len, ⟨h.at_.cap, h.at_.sl, h.at_.mv64, h.at_.n64.1, h.at_.n64.2.1, h.at_.n64.2.2.2, h.at_.n64.2.2.2⟩⟩
theorem GI.nx {w : World} {g : Iq} {i : Ins} (h : GI w g i) {p : Int} (hp : In64 p) : GI w (qNx p g) (setNx p i) := ⟨h.id, h.mult, h.price, rfl, h.len, ⟨h.at_.cap, h.at_.sl, h.at_.mv64, h.at_.n64.1, h.at_.n64.2.1, h.at_.n64.2.2.1, hp⟩⟩
theorem rc_set2 : ∀ (l : List Iq) (k : Nat) (h : k < l.length), (rc Iq.cells l).set (k * 5 + 2) (.int .i64 l[k].nxt) = rc Iq.cells (l.set k (qPr l[k]))
  | a :: l, 0, _ => by rw [rc_cons, List.set_cons_zero, rc_cons]; rfl
  | a :: l, k + 1, h => by
    have ih := rc_set2 l k (by simpa using h)
    have e : (k + 1) * 5 + 2 = a.cells.length + (k * 5 + 2) := by rw [Iq.len]; omega
    rw [rc_cons, List.set_cons_succ, rc_cons, e, List.set_append_right _ _ (by omega), Nat.add_sub_cancel_left]
    simp only [List.getElem_cons_succ]
    rw [ih]
theorem rc_set3 (p : Int) : ∀ (l : List Iq) (k : Nat) (h : k < l.length), (rc Iq.cells l).set (k * 5 + 3) (.int .i64 p) = rc Iq.cells (l.set k (qNx p l[k]))
  | a :: l, 0, _ => by rw [rc_cons, List.set_cons_zero, rc_cons]; rfl
  | a :: l, k + 1, h => by
    have ih := rc_set3 p l k (by simpa using h)
    have e : (k + 1) * 5 + 3 = a.cells.length + (k * 5 + 3) := by rw [Iq.len]; omega
    rw [rc_cons, List.set_cons_succ, rc_cons, e, List.set_append_right _ _ (by omega), Nat.add_sub_cancel_left]
    simp only [List.getElem_cons_succ]
    rw [ih]
theorem pr_step (l : List Iq) (k : Nat) (h : k < l.length) : ((l.take k).map qPr ++ l.drop k).set k (qPr l[k]) = (l.take (k + 1)).map qPr ++ l.drop (k + 1) := by
  have hl : ((l.take k).map qPr).length = k := by simp; omega
  rw [List.set_append_right _ _ (by omega), hl, Nat.sub_self, List.drop_eq_getElem_cons h, List.set_cons_zero, take_snoc l k h, List.map_append]
  simp
theorem InTab.map {w : World} {l : List Iq} {is : List Ins} (h : InTab w l is) {f : Iq → Iq} {f' : Ins → Ins} (hf : ∀ g i, GI w g i → GI w (f g) (f' i)) : InTab w (l.map f) (is.map f') := by
  refine ⟨by simp [h.1], fun k h1 h2 => ?_⟩
  rw [List.getElem_map, List.getElem_map]
  exact hf _ _ (h.2 k (by simpa using h1) (by simpa using h2))
def ITW (w' : World) (e : Ending) (R : List Ins) : Prop := ∃ (l : List Iq) (A' : Option Addr) (c' : Nat), e = .returned (.slice A' l.length c') ∧ Sl w' A' (rc Iq.cells l) ∧ InTab w' l R
set_option maxHeartbeats 4000000 in
set_option maxRecDepth 100000 in
theorem rsettle_any (A : Option Addr) (cap : Nat) (l : List Iq) (is : List Ins) (w : World) (hl : l.length ≤ 900000) (hs : Sl w A (rc Iq.cells l)) (ht : InTab w l is) :
    Calls Tryd.prog 18 #[.slice A l.length cap] w fun e w' => ITW w' e (is.map setPr) ∧ Below w.heap.size w w' := by
  have HT := Lib.hid (ht.map (f := qPr) (f' := setPr) fun g i h => h.pr)
  clear ht
  go_enter Tryd.func18, Tryd.ntmps18
  go_wp2_with fail
  go_loopw [3, 4] (fun out i wr => ∃ (k : Nat) (A' : Option Addr) (c' : Nat), k ≤ l.length ∧ i = .int .i64 k ∧ out = .slice A' k c' ∧ wr.ownsRow w.heap.size 25 5 (.slice A' k c') k (rc Iq.cells ((l.take k).map qPr)) ∧ Below w.heap.size w wr) (fun _ i _ => l.length - (intOf i).toNat)
  case atStart => exact ⟨0, none, 0, by omega, rfl, rfl, own_nil _ _ _, Below.refl _ _⟩
  case round =>
    obtain ⟨k, A', c', hk, rfl, rfl, hown, hB⟩ := hrel
    by_cases hlt : k < l.length
    · obtain ⟨b, o, rfl, hbw, hg⟩ := (hs.below hB).iq hlt
      have hlk : (k : Int) < (l.length : Int) := by omega
      have hge : (0 : Int) ≤ (k : Int) := by omega
      have hsz := hB.size
      have HN : Hid ((l.take (k + 1)).map qPr = (l.take k).map qPr ++ [qPr l[k]]) := Lib.hid (by rw [take_snoc l k hlt, List.map_append]; rfl)
      generalize l[k] = v at *
      obtain ⟨vid, vm, vp, vx, vc, vcL, vcC⟩ := v
      obtain ⟨g0, g1, g2, g3, g4⟩ := hg
      simp only at g0 g1 g2 g3 g4
      go_wp2_with (first
        | (at_builtin; refine wpList_app rfl (.tmp 19) (.tmp 21) rfl EIq rfl rfl ((hown.alloc _).alloc _) (m := 1) (news := [.int .i64 vid, .int .i64 vm, .int .i64 vx, .int .i64 vx, .slice vc vcL vcC]) rfl (Sl.new1 _ _ _ _) (Iq.one ⟨vid, vm, vx, vx, vc, vcL, vcC⟩) (by unfold maxLen; omega) (by omega) (by simp only [World.size_alloc]; omega) ?_; intro A2 c2 w3 hown3 hg3 hb3)
        | fail)
      go_roundw
      case rel =>
        refine ⟨k + 1, A2, c2, by omega, by go_num, rfl, ?_, (since_alloc (since_alloc hB _) _).trans hb3⟩
        rw [HN.out, rc_append]; simpa [rc, Iq.cells, qPr] using hown3
      case measure => simp [intOf]; omega
    · obtain rfl : k = l.length := by omega
      rw [List.take_length] at hown
      have hml : (l.map qPr).length = l.length := by simp
      go_wp2_with fail
      go_ret
      exact ⟨⟨l.map qPr, A', c', by rw [hml]; rfl, Sl.of_own hown, HT.out.below hB⟩, hB⟩
end Go.Proofs.YtldnponbkhgijaaDoor
end
section
namespace Go.Proofs.YtldnponbkhgijaaDoor
open Go.ChangeShapes Go.WideShapes Go.ChangeAt Go.RowKit
set_option linter.unusedVariables false
set_option linter.unusedSimpArgs false

theorem grow_set (w : World) (b j : Nat) (v : Value) : w.grownBy (w.setCell ⟨b, j, none⟩ v) (some b) := by
  have hb : Below b w (w.setCell ⟨b, j, none⟩ v) := Below.setCell (Below.refl b w) (p := ⟨b, j, none⟩) (Nat.le_refl b) v
  refine ⟨hb.os, hb.tape, hb.output, hb.size, fun k hk hne => ?_⟩
  exact Below.heap_setCell _ _ _ _ (fun e => hne (congrArg some e))
theorem prl_get (l : List Iq) (k : Nat) (h : k < l.length) (h2 : k < ((l.take k).map qPr ++ l.drop k).length) : ((l.take k).map qPr ++ l.drop k)[k] = l[k] := by
  have hl : ((l.take k).map qPr).length = k := by simp; omega
  rw [List.getElem_append_right (by omega)]
  simp only [List.getElem_drop, hl, Nat.sub_self, Nat.add_zero]
theorem prl_len (l : List Iq) (k : Nat) (h : k ≤ l.length) : ((l.take k).map qPr ++ l.drop k).length = l.length := by simp; omega
set_option maxHeartbeats 4000000 in
set_option maxRecDepth 100000 in
theorem isettle_any (A : Option Addr) (cap : Nat) (l : List Iq) (is : List Ins) (w : World) (hl : l.length ≤ 900000) (hcl : ∀ i ∈ is, i.mv.length ≤ 900000) (h6 : ∀ i ∈ is, In64I i) (hs : Sl w A (rc Iq.cells l)) (ht : InTab w l is) :
    Calls Tryd.prog 17 #[.slice A l.length cap] w fun e w' => ITW w' e (is.map setPr) ∧ Below w.heap.size w w' := by
  have HD := Lib.hid (dups_iq A cap l (is.map icOf) w hl (fun c hc => by obtain ⟨x, hx, rfl⟩ := List.mem_map.1 hc; show (x.mv.map Sx.mk).length ≤ 900000; rw [List.length_map]; exact hcl x hx) hs ht.iq)
  have HLN : Hid (is.length = l.length) := Lib.hid ht.1.symm
  have H6 := Lib.hid h6
  clear hs ht h6 hcl
  go_enter Tryd.func17, Tryd.ntmps17
  go_wp2_with fail
  refine HD.out.mono ?_
  rintro e w1 ⟨⟨l1, A1, c1, rfl, ho, hot⟩, hb⟩
  have hB1 := hb
  have hl1 : l1.length ≤ 900000 := by have := hot.1; rw [List.length_map] at this; have := HLN.out; omega
  clear hb HD
  go_wp2_with fail
  go_loopw [9] (fun iv wr => ∃ k : Nat, k ≤ l1.length ∧ iv = .int .i64 k ∧ wr.ownsRow w.heap.size 25 5 (.slice A1 l1.length c1) l1.length (rc Iq.cells ((l1.take k).map qPr ++ l1.drop k)) ∧ IqOTab w.heap.size wr l1 (is.map icOf) ∧ Below w.heap.size w wr) (fun iv _ => l1.length - (intOf iv).toNat)
  case atStart => exact ⟨0, by omega, rfl, by simpa using ho, hot, hB1⟩
  case round =>
    obtain ⟨k, hk, rfl, hown, hot2, hB⟩ := hrel
    by_cases hlt : k < l1.length
    · obtain ⟨g, rfl, hgB, hgw, hfz⟩ := own_at hown (by omega)
      have hlen := prl_len l1 k hk
      have hk2 : k < ((l1.take k).map qPr ++ l1.drop k).length := by omega
      obtain ⟨b, o, eb, hbw, hg⟩ := (Sl.of_own hown).iq hk2
      injection eb with eb
      injection eb with e1 e2 e3
      subst e1; subst e2
      rw [prl_get l1 k hlt hk2] at hg
      simp only [Nat.zero_add] at hg
      have hlk : (k : Int) < (l1.length : Int) := by omega
      have hge : (0 : Int) ≤ (k : Int) := by omega
      have hrl := rc_length Iq.len ((l1.take k).map qPr ++ l1.drop k)
      have hS := rc_set2 ((l1.take k).map qPr ++ l1.drop k) k hk2
      rw [prl_get l1 k hlt hk2, pr_step l1 k hlt] at hS
      have hkk : k * 5 + 2 < (rc Iq.cells ((l1.take k).map qPr ++ l1.drop k)).length := by rw [hrl, hlen]; omega
      have HOW := Lib.hid (own_set1 hown hkk (.int .i64 l1[k].nxt))
      rw [hS] at HOW
      have HOT := Lib.hid (hot2.kept hown (grow_set wr g (k * 5 + 2) (.int .i64 l1[k].nxt)))
      have hBn := Below.setCell hB (p := ⟨g, k * 5 + 2, none⟩) hgB (.int .i64 l1[k].nxt)
      have f2 := hfz (k * 5 + 2)
      clear hS hrl hkk hown hot2 hlen hk2 hfz
      generalize l1[k] = v at *
      obtain ⟨vid, vm, vp, vx, vc, vcL, vcC⟩ := v
      obtain ⟨g0, g1, g2, g3, g4⟩ := hg
      simp only at g0 g1 g2 g3 g4 HOW HOT hBn
      go_wp2_with fail
      go_roundw
      case rel => exact ⟨k + 1, by omega, by go_num, HOW.out, HOT.out, hBn⟩
      case measure => simp [intOf]; omega
    · obtain rfl : k = l1.length := by omega
      rw [List.take_length, List.drop_length, List.append_nil] at hown
      have hml : (l1.map qPr).length = l1.length := by simp
      have HT := Lib.hid ((hot2.ins H6.out).map (f := qPr) (f' := setPr) fun g i h => h.pr)
      clear hot2
      go_wp2_with fail
      go_ret
      exact ⟨⟨l1.map qPr, A1, c1, by rw [hml]; rfl, Sl.of_own hown, HT.out⟩, hB⟩
end Go.Proofs.YtldnponbkhgijaaDoor
end
section
namespace Go.Proofs.YtldnponbkhgijaaDoor
open Go.ChangeShapes Go.WideShapes Go.ChangeAt Go.RowKit
set_option linter.unusedVariables false
set_option linter.unusedSimpArgs false

abbrev SoN (is : List Ins) : Prop := is.Pairwise fun a b => a.id < b.id
def ifNx (id p : Int) (i : Ins) : Ins := if i.id = id then setNx p i else i
def ifQx (id p : Int) (g : Iq) : Iq := if g.id = id then qNx p g else g
theorem GI.ifx {w : World} {g : Iq} {i : Ins} (h : GI w g i) {id p : Int} (hp : In64 p) : GI w (ifQx id p g) (ifNx id p i) := by
  unfold ifQx ifNx
  rw [h.id]
  split
  · exact h.nx hp
  · exact h
theorem set_ifx {is : List Ins} (hs : SoN is) {k : Nat} (hk : k < is.length) {id p : Int} (he : is[k].id = id) : is.set k (setNx p is[k]) = is.map (ifNx id p) := by
  refine List.ext_getElem (by simp) fun j h1 h2 => ?_
  rw [List.getElem_set, List.getElem_map]
  have hj : j < is.length := by simpa using h1
  unfold ifNx
  split
  · rename_i e; subst e; rw [if_pos he]
  · rename_i e
    rw [if_neg]
    intro h
    have hp := List.pairwise_iff_getElem.1 hs
    rcases Nat.lt_or_ge j k with h3 | h3
    · have := hp j k hj hk h3; omega
    · have := hp k j hk hj (by omega); omega
theorem InTab.set {w : World} {l : List Iq} {is : List Ins} (h : InTab w l is) {k : Nat} {g : Iq} {i : Ins} (hg : GI w g i) : InTab w (l.set k g) (is.set k i) := by
  refine ⟨by simp [h.1], fun j h1 h2 => ?_⟩
  rw [List.getElem_set, List.getElem_set]
  split
  · exact hg
  · exact h.2 j (by simpa using h1) (by simpa using h2)
def nextN (is : List Ins) (id p : Int) : Int × List Ins := if (fndI is id).isSome = false then (11, []) else if prB p = false then (2, []) else (0, is.map (ifNx id p))
set_option maxHeartbeats 8000000 in
set_option maxRecDepth 100000 in
theorem inext_any (A : Option Addr) (cap : Nat) (l : List Iq) (is : List Ins) (id p : Int) (w : World) (hl : l.length ≤ 900000) (hcl : ∀ i ∈ is, i.mv.length ≤ 900000) (h6 : ∀ i ∈ is, In64I i) (hp6 : In64 p) (hso : SoN is) (hs : Sl w A (rc Iq.cells l)) (ht : InTab w l is) :
    Calls Tryd.prog 11 #[.slice A l.length cap, .int .i64 id, .int .i64 p] w fun e w' => ITR w' e (nextN is id p) ∧ Below w.heap.size w w' := by
  have HD := Lib.hid (fun V h1 h2 => dups_iq A cap l (is.map icOf) V hl (fun c hc => by obtain ⟨x, hx, rfl⟩ := List.mem_map.1 hc; show (x.mv.map Sx.mk).length ≤ 900000; rw [List.length_map]; exact hcl x hx) h1 h2)
  have HPL := Lib.hid (iplace_any A cap l id w (by omega) hs)
  have HH : Hid (∀ V, Below w.heap.size w V → Sl V A (rc Iq.cells l) ∧ IqTab V l (is.map icOf)) := Lib.hid fun V hV => ⟨hs.below hV, (ht.below hV).iq⟩
  have HLN : Hid (is.length = l.length) := Lib.hid ht.1.symm
  have H6 := Lib.hid h6
  have HPR := Lib.hid (fun V => priced_any p V)
  have hhf := has_fnd ht id
  rcases casesI l id with ⟨h0, hat, _, _⟩ | ⟨k, hk, h0, hat, _, hid, _⟩
  · have HR : Hid (nextN is id p = (11, [])) := Lib.hid (by unfold nextN; rw [if_pos (by rw [← hhf]; exact h0)])
    have HAT := Lib.hid hat
    clear hs ht h6 hcl hhf h0 hat hso
    go_enter Tryd.func11, Tryd.ntmps11
    go_wp2_with fail
    refine HPL.out.mono ?_
    rw [HAT.out]
    rintro e w1 ⟨rfl, hb⟩
    go_wp2_with fail
    go_ret2
    rw [HR.out]
    exact ⟨ITR.nil _ _, hb⟩
  · have hki : k < is.length := by have := ht.1; omega
    have hei : is[k].id = id := by have h1 := (ht.2 k hk hki).id; have h2 : l[k].id = id := by simpa [idI] using hid
                                   rw [← h1]; exact h2
    have hsx := set_ifx (p := p) hso hki hei
    have hf1 : (fndI is id).isSome = true := by rw [← hhf]; exact h0
    have HAT := Lib.hid hat
    have hk0 : ¬ ((k : Int) < 0) := by omega
    have hk1 : (0 : Int) ≤ (k : Int) := by omega
    clear hs ht h6 hcl hhf h0 hat hso hid
    cases hp : prB p with
    | false =>
      have HR : Hid (nextN is id p = (2, [])) := Lib.hid (by unfold nextN; rw [if_neg (by rw [hf1]; simp), if_pos hp])
      rw [hp] at HPR
      clear hp hf1 hsx hei
      go_enter Tryd.func11, Tryd.ntmps11
      go_wp2_with fail
      refine HPL.out.mono ?_
      rw [HAT.out]
      rintro e w1 ⟨rfl, hb⟩
      go_wp2_with fail
      refine (HPR.out _).mono ?_
      rintro e w2 ⟨rfl, rfl⟩
      go_wp2_with fail
      go_ret2
      rw [HR.out]
      exact ⟨ITR.nil _ _, hb⟩
    | true =>
      have HR : Hid (nextN is id p = (0, is.set k (setNx p is[k]))) := Lib.hid (by unfold nextN; rw [if_neg (by rw [hf1]; simp), if_neg (by rw [hp]; simp), hsx])
      rw [hp] at HPR
      clear hp hf1 hsx hei
      go_enter Tryd.func11, Tryd.ntmps11
      go_wp2_with fail
      refine HPL.out.mono ?_
      rw [HAT.out]
      rintro e w1 ⟨rfl, hb⟩
      go_wp2_with fail
      refine (HPR.out _).mono ?_
      rintro e w2 ⟨rfl, rfl⟩
      obtain ⟨h1, h2⟩ := HH.out _ hb
      have HD1 := Lib.hid (HD.out _ h1 h2)
      clear h1 h2
      go_wp2_with fail
      refine HD1.out.mono ?_
      rintro e w3 ⟨⟨l1, A1, c1, rfl, ho, hot⟩, hb3⟩
      have hB3 := since_step hb hb3
      have hll : l1.length = is.length := by have := hot.1; rwa [List.length_map] at this
      have hlt : k < l1.length := by omega
      obtain ⟨g, rfl, hgB, hgw, hfz⟩ := own_at ho (by omega)
      have hlk : (k : Int) < (l1.length : Int) := by omega
      have hS := rc_set3 p l1 k hlt
      have hkk : k * 5 + 3 < (rc Iq.cells l1).length := by rw [rc_length Iq.len]; omega
      have HOW := own_set1 ho hkk (.int .i64 p)
      rw [hS] at HOW
      have HSL := Lib.hid (Sl.of_own HOW)
      have hot2 := hot.kept ho (grow_set w3 g (k * 5 + 3) (.int .i64 p))
      have hti := hot2.ins H6.out
      have HTI := Lib.hid (hti.set (k := k) ((hti.2 k hlt hki).nx hp6))
      have hml : (l1.set k (qNx p l1[k])).length = l1.length := by simp
      obtain ⟨b, o, eb, hbw, hg⟩ := (Sl.of_own ho).iq hlt
      injection eb with eb
      injection eb with e1 e2 e3
      subst e1; subst e2
      simp only [Nat.zero_add] at hg
      have f3 := hfz (k * 5 + 3)
      have hw1 := hb.size
      have hBn := Below.setCell hB3 (p := ⟨g, k * 5 + 3, none⟩) (Nat.le_trans hw1 hgB) (.int .i64 p)
      have HLL := Lib.hid hml
      clear hS hkk HOW hot2 hti hot ho hfz hll hml
      generalize hq : l1.set k (qNx p l1[k]) = l2 at *
      clear hq
      generalize l1[k] = v at *
      obtain ⟨vid, vm, vp, vx, vc, vcL, vcC⟩ := v
      obtain ⟨g0, g1, g2, g3, g4⟩ := hg
      simp only at g0 g1 g2 g3 g4
      go_wp2_with fail
      go_ret2
      rw [HR.out]
      exact ⟨⟨l2, some ⟨g, 0, none⟩, c1, by rw [HLL.out]; rfl, HSL.out, HTI.out⟩, hBn⟩
set_option maxHeartbeats 8000000 in
set_option maxRecDepth 100000 in
theorem rnext_any (A : Option Addr) (cap : Nat) (l : List Iq) (is : List Ins) (id p : Int) (w : World) (hl : l.length ≤ 900000) (hp6 : In64 p) (hs : Sl w A (rc Iq.cells l)) (ht : InTab w l is) :
    Calls Tryd.prog 12 #[.slice A l.length cap, .int .i64 id, .int .i64 p] w fun e w' => ITR w' e (nextN is id p) ∧ Below w.heap.size w w' := by
  have HFD := rfindI_any A cap l is id w hl hs ht
  have HPR := Lib.hid (fun V => rprice_any p V)
  have HT := Lib.hid (ht.map (f := ifQx id p) (f' := ifNx id p) fun g i h => h.ifx hp6)
  have HS := Lib.hid hs
  clear hs ht
  cases hf : fndI is id with
  | none =>
    have HR : Hid (nextN is id p = (11, [])) := Lib.hid (by unfold nextN; rw [if_pos (by rw [hf]; rfl)])
    rw [hf] at HFD
    unfold FIns at HFD
    simp only at HFD
    have HFD := Lib.hid HFD
    clear hf
    go_enter Tryd.func12, Tryd.ntmps12
    go_wp2_with fail
    refine HFD.out.mono ?_
    rintro e w1 ⟨rfl, hb⟩
    have hB1 := since_alloc hb (.cells #[.int .i64 0, .int .i64 0, .int .i64 0, .int .i64 0, .slice none 0 0] 25)
    clear hb
    go_wp2_with fail
    go_ret2
    rw [HR.out]
    exact ⟨ITR.nil _ _, hB1⟩
  | some i =>
    rw [hf] at HFD
    unfold FIns at HFD
    simp only at HFD
    have HFD := Lib.hid HFD
    cases hp : prB p with
    | false =>
      have HR : Hid (nextN is id p = (2, [])) := Lib.hid (by unfold nextN; rw [if_neg (by rw [hf]; simp), if_pos hp])
      rw [hp] at HPR
      clear hf hp
      go_enter Tryd.func12, Tryd.ntmps12
      go_wp2_with fail
      refine HFD.out.mono ?_
      rintro e w1 ⟨⟨IA, IC, rfl, hia⟩, hb⟩
      unfold insV
      have hB1 := since_alloc hb (.cells #[.int .i64 i.id, .int .i64 i.mult, .int .i64 i.price, .int .i64 i.nxt, .slice IA i.mv.length IC] 25)
      clear hb hia
      go_wp2_with fail
      refine (HPR.out _).mono ?_
      rintro e w2 ⟨rfl, rfl⟩
      go_wp2_with fail
      go_ret2
      rw [HR.out]
      exact ⟨ITR.nil _ _, hB1⟩
    | true =>
      have HR : Hid (nextN is id p = (0, is.map (ifNx id p))) := Lib.hid (by unfold nextN; rw [if_neg (by rw [hf]; simp), if_neg (by rw [hp]; simp)])
      rw [hp] at HPR
      clear hf hp
      go_enter Tryd.func12, Tryd.ntmps12
      go_wp2_with fail
      refine HFD.out.mono ?_
      rintro e w1 ⟨⟨IA, IC, rfl, hia⟩, hb⟩
      unfold insV
      have hB1 := since_alloc hb (.cells #[.int .i64 i.id, .int .i64 i.mult, .int .i64 i.price, .int .i64 i.nxt, .slice IA i.mv.length IC] 25)
      clear hb hia
      go_wp2_with fail
      refine (HPR.out _).mono ?_
      rintro e w2 ⟨rfl, rfl⟩
      go_upto_region 7 with fail
      generalize hWW : w1.alloc (.cells #[.int .i64 i.id, .int .i64 i.mult, .int .i64 i.price, .int .i64 i.nxt, .slice IA i.mv.length IC] 25) = W at *
      clear hWW
      go_wp2_with fail
      go_loopw [10, 11] (fun out iv wr => ∃ (k : Nat) (A' : Option Addr) (c' : Nat), k ≤ l.length ∧ iv = .int .i64 k ∧ out = .slice A' k c' ∧ wr.ownsRow w.heap.size 25 5 (.slice A' k c') k (rc Iq.cells ((l.take k).map (ifQx id p))) ∧ Below w.heap.size w wr) (fun _ iv _ => l.length - (intOf iv).toNat)
      case atStart => exact ⟨0, none, 0, by omega, rfl, rfl, own_nil _ _ _, hB1⟩
      case round =>
        obtain ⟨k, A', c', hk, rfl, rfl, hown, hB⟩ := hrel
        by_cases hlt : k < l.length
        · obtain ⟨b, o, rfl, hbw, hg⟩ := (HS.out.below hB).iq hlt
          have hlk : (k : Int) < (l.length : Int) := by omega
          have hge : (0 : Int) ≤ (k : Int) := by omega
          have hsz := hB.size
          have HN : Hid ((l.take (k + 1)).map (ifQx id p) = (l.take k).map (ifQx id p) ++ [ifQx id p l[k]]) := Lib.hid (by rw [take_snoc l k hlt, List.map_append]; rfl)
          generalize l[k] = v at *
          by_cases hv : v.id = id
          · have HV : Hid (ifQx id p v = qNx p v) := Lib.hid (if_pos hv)
            obtain ⟨vid, vm, vp, vx, vc, vcL, vcC⟩ := v
            simp only at hv
            subst hv
            obtain ⟨g0, g1, g2, g3, g4⟩ := hg
            simp only at g0 g1 g2 g3 g4
            go_wp2_with (first
              | (at_builtin; refine wpList_app rfl (.tmp 40) (.tmp 42) rfl EIq rfl rfl ((hown.alloc _).alloc _) (m := 1) (news := [.int .i64 vid, .int .i64 vm, .int .i64 vp, .int .i64 p, .slice vc vcL vcC]) rfl (Sl.new1 _ _ _ _) (Iq.one ⟨vid, vm, vp, p, vc, vcL, vcC⟩) (by unfold maxLen; omega) (by omega) (by simp only [World.size_alloc]; omega) ?_; intro A2 c2 w3 hown3 hg3 hb3)
              | fail)
            go_roundw
            case rel =>
              refine ⟨k + 1, A2, c2, by omega, by go_num, rfl, ?_, (since_alloc (since_alloc hB _) _).trans hb3⟩
              rw [HN.out, rc_append, HV.out]; simpa [rc, Iq.cells, qNx] using hown3
            case measure => simp [intOf]; omega
          · have HV : Hid (ifQx id p v = v) := Lib.hid (if_neg hv)
            have hvb : (v.id == id) = false := by simpa using hv
            clear hv
            obtain ⟨vid, vm, vp, vx, vc, vcL, vcC⟩ := v
            simp only at hvb
            obtain ⟨g0, g1, g2, g3, g4⟩ := hg
            simp only at g0 g1 g2 g3 g4
            go_wp2_with (first
              | (at_builtin; refine wpList_app rfl (.tmp 40) (.tmp 42) rfl EIq rfl rfl ((hown.alloc _).alloc _) (m := 1) (news := [.int .i64 vid, .int .i64 vm, .int .i64 vp, .int .i64 vx, .slice vc vcL vcC]) rfl (Sl.new1 _ _ _ _) (Iq.one ⟨vid, vm, vp, vx, vc, vcL, vcC⟩) (by unfold maxLen; omega) (by omega) (by simp only [World.size_alloc]; omega) ?_; intro A2 c2 w3 hown3 hg3 hb3)
              | fail)
            go_roundw
            case rel =>
              refine ⟨k + 1, A2, c2, by omega, by go_num, rfl, ?_, (since_alloc (since_alloc hB _) _).trans hb3⟩
              rw [HN.out, rc_append, HV.out]; simpa [rc, Iq.cells, qNx] using hown3
            case measure => simp [intOf]; omega
        · obtain rfl : k = l.length := by omega
          rw [List.take_length] at hown
          have hml : (l.map (ifQx id p)).length = l.length := by simp
          go_wp2_with fail
          go_ret2
          rw [HR.out]
          exact ⟨⟨l.map (ifQx id p), A', c', by rw [hml]; rfl, Sl.of_own hown, HT.out.below hB⟩, hB⟩
end Go.Proofs.YtldnponbkhgijaaDoor
end
section
namespace Go.Proofs.YtldnponbkhgijaaDoor
open Go.ChangeShapes Go.WideShapes Go.ChangeAt Go.RowKit
set_option linter.unusedVariables false
set_option linter.unusedSimpArgs false

theorem fmt_60 (w : World) :
    Calls Tryd.prog 52 #[.int .u64 60, .int .i64 10] w fun e w' => e = .returned (.string ⟨#[54, 48]⟩) ∧ Below w.heap.size w w' := by
  have HS := Lib.hid (fun w => Tryd.internal_strconv_small 60 (by decide) w)
  rw [show (⟨(Lib.decDigits 60).toArray⟩ : ByteArray) = ⟨#[54, 48]⟩ from by rw [Lib.decDigits_two (by decide) (by decide)]; rfl] at HS
  go_enter Tryd.func52, Tryd.ntmps52
  go_wp2_with fail
  refine (HS.out _).mono ?_
  rintro e w1 ⟨rfl, rfl⟩
  go_wp2_with fail
  go_ret
  exact ⟨rfl, Below.refl _ _⟩
theorem sfmt_60 (w : World) :
    Calls Tryd.prog 43 #[.int .u64 60, .int .i64 10] w fun e w' => e = .returned (.string ⟨#[54, 48]⟩) ∧ Below w.heap.size w w' := by
  go_enter Tryd.func43, Tryd.ntmps43
  go_wp2_with fail
  refine (fmt_60 _).mono ?_
  rintro e w1 ⟨rfl, hb1⟩
  go_wp2_with fail
  go_ret
  exact ⟨rfl, hb1⟩
set_option maxHeartbeats 1000000 in
theorem text_60 (w : World) :
    Calls Tryd.prog 29 #[.agg #[.int .i64 (-1), .int .u64 18446744073709551556]] w fun e w' => e = .returned (.string ⟨#[45, 54, 48]⟩) ∧ Below w.heap.size w w' := by
  have HS := Lib.hid (fun w => size_nat (-60) (by unfold In128; omega) w)
  rw [show hiN (-60) = -1 from by decide, show loN (-60) = 18446744073709551556 from by decide, show (szH (-60) : Int) = 0 from by decide, show (szL (-60) : Int) = 60 from by decide] at HS
  go_enter Tryd.func29, Tryd.ntmps29
  go_wp2_with fail
  refine (HS.out _).mono ?_
  rintro e w1 ⟨rfl, hb1⟩
  obtain ⟨q0, q1, q2, q3, q4⟩ := (T2.new w (-1) 18446744073709551556 52).below hb1
  have hB1 := since_step (since_alloc (Below.refl _ w) _) hb1
  go_wp2_with fail
  go_loopw [3, 4, 5] (fun a b c wr => a = .int .u64 0 ∧ b = .int .u64 60 ∧ c = .string ⟨#[]⟩ ∧ wr = w1) (fun _ _ _ _ => 0)
  case atStart => exact ⟨rfl, rfl, rfl, rfl⟩
  case round =>
    obtain ⟨rfl, rfl, rfl, hw⟩ := hrel
    subst hw
    go_wp2_with fail
    refine (sfmt_60 _).mono ?_
    rintro e w2 ⟨rfl, hb2⟩
    obtain ⟨q0, q1, q2, q3, q4⟩ : T2 w2 w.heap.size (-1) 18446744073709551556 := (T2.below ⟨q0, q1, q2, q3, q4⟩ hb2)
    have hB2 := since_step hB1 hb2
    go_wp2_with fail
    go_ret
    exact ⟨rfl, hB2⟩
def shortI (i : Ins) : Ins := ⟨i.id, i.mult, i.price, i.nxt, i.mv.take 12⟩
theorem InsAt.short {w : World} {i : Ins} {A : Option Addr} {c : Nat} (h : InsAt w i A c) : InsAt w (shortI i) A c :=
  ⟨⟨by have := h.cap.1; simp [shortI]; omega, h.cap.2⟩, sl_takeI h.sl 12, h.mv64.takeI 12, h.n64⟩
set_option maxHeartbeats 1000000 in
theorem short_any (i : Ins) (A : Option Addr) (c : Nat) (w : World) (h : InsAt w i A c) :
    Calls Tryd.prog 4 #[insV i A c] w fun e w' => e = .returned (insV (shortI i) A c) ∧ Below w.heap.size w w' := by
  have hcs := @cell_set
  have hB0 := since_alloc (Below.refl _ w) (.cells #[.int .i64 i.id, .int .i64 i.mult, .int .i64 i.price, .int .i64 i.nxt, .slice A i.mv.length c] 25)
  have hc1 := h.cap.1
  by_cases h12 : 12 < i.mv.length
  · have e : (i.mv.take 12).length = 12 := by simp; omega
    rw [show insV (shortI i) A c = .agg #[.int .i64 i.id, .int .i64 i.mult, .int .i64 i.price, .int .i64 i.nxt, .slice A (i.mv.take 12).length c] from rfl, e]
    unfold insV
    obtain ⟨b, o, rfl, hz0⟩ := h.sl.int (show 0 < i.mv.length by omega)
    have h12c : 12 ≤ c := by omega
    clear hz0 h e
    go_enter Tryd.func4, Tryd.ntmps4
    go_wp2
    refine bodyPost_ret (v := .agg #[.int .i64 i.id, .int .i64 i.mult, .int .i64 i.price, .int .i64 i.nxt, .slice (some ⟨b, o, none⟩) 12 c]) ?_ rfl ?_
    · simp [results, Tryd.results4, go_sem]
    · refine ⟨rfl, ?_⟩
      repeat' (first | with_reducible exact hB0 | with_reducible exact Below.refl _ _ | with_reducible refine Below.setCell ?_ ?_ _ | with_reducible refine since_alloc ?_ _)
      all_goals first | (simp; done) | (simp; omega)
  · have e : (i.mv.take 12).length = i.mv.length := by rw [List.length_take]; omega
    rw [show insV (shortI i) A c = .agg #[.int .i64 i.id, .int .i64 i.mult, .int .i64 i.price, .int .i64 i.nxt, .slice A (i.mv.take 12).length c] from rfl, e]
    unfold insV
    clear h e
    go_enter Tryd.func4, Tryd.ntmps4
    go_wp2
    refine bodyPost_ret (v := .agg #[.int .i64 i.id, .int .i64 i.mult, .int .i64 i.price, .int .i64 i.nxt, .slice A i.mv.length c]) ?_ rfl ?_
    · simp [results, Tryd.results4, go_sem]
    · refine ⟨rfl, ?_⟩
      repeat' (first | with_reducible exact hB0 | with_reducible exact Below.refl _ _ | with_reducible refine Below.setCell ?_ ?_ _ | with_reducible refine since_alloc ?_ _)
      all_goals first | (simp; done) | (simp; omega)
set_option maxRecDepth 100000 in
set_option maxHeartbeats 4000000 in
theorem lives13_any (w : World) : Calls Tryd.prog 19 #[] w fun e w' => e = .returned (.bool true) ∧ Below w.heap.size w w' := by
  have hG := fun A W (h : InsAt W ⟨1, 10, 0, 0, [-2]⟩ A 1) => gain_any ⟨1, 10, 0, 0, [-2]⟩ A 1 3 5 7 W h (by decide) (by decide) (by decide)
  rw [show gainV ⟨1, 10, 0, 0, [-2]⟩ 3 5 7 = 60 by decide, show gainE ⟨1, 10, 0, 0, [-2]⟩ 3 5 7 = 0 by decide] at hG
  have hS := fun A W (h : InsAt W ⟨1, 10, 0, 0, [-2]⟩ A 1) => shock_any ⟨1, 10, 0, 0, [-2]⟩ A 1 3 0 W h (by decide) (by decide)
  rw [show hiN (shockZ ⟨1, 10, 0, 0, [-2]⟩ 3 0) = -1 by decide, show loN (shockZ ⟨1, 10, 0, 0, [-2]⟩ 3 0) = 18446744073709551556 by decide] at hS
  unfold insV at hG hS
  have HG := Lib.hid hG
  have HS := Lib.hid hS
  have hA : InsAt (w.alloc (.cells #[.int .i64 (-2)] 2)) ⟨1, 10, 0, 0, [-2]⟩ (some ⟨w.heap.size, 0, none⟩) 1 :=
    ⟨by decide, Sl.new_ w (ints .i64 [-2]) _, by intro x hx; simp at hx; subst hx; decide, by decide⟩
  have hA1 := hA.below ((Below.refl _ _).alloc (Nat.le_refl _) (.cells #[.int .i64 1, .int .i64 10, .int .i64 0, .int .i64 0, .slice (some ⟨w.heap.size, 0, none⟩) 1 1] 25))
  have hI := IB.new (w.alloc (.cells #[.int .i64 (-2)] 2)) ⟨1, 10, 0, 0, [-2]⟩ (some ⟨w.heap.size, 0, none⟩) 1 25
  rw [World.size_alloc] at hI
  have hB := since_alloc (since_alloc (Below.refl _ w) (.cells #[.int .i64 (-2)] 2)) (.cells #[.int .i64 1, .int .i64 10, .int .i64 0, .int .i64 0, .slice (some ⟨w.heap.size, 0, none⟩) 1 1] 25)
  have HA := Lib.hid hA1
  have HI := Lib.hid hI
  clear hG hS hA hA1 hI
  go_enter Tryd.func19, Tryd.ntmps19
  go_wp2_with fail
  refine (HG.out _ _ HA.out).mono ?_
  rintro e w1 ⟨rfl, hb1⟩
  have A1 := HA.out.below hb1
  have I1 := HI.out.below hb1
  have hB1 := since_step hB hb1
  clear hb1 hB
  obtain ⟨i0, i1, i2, i3, i4, i5⟩ := _root_.id I1
  simp only [List.length_cons, List.length_nil] at i5
  go_wp2_with fail
  refine (HS.out _ _ A1).mono ?_
  rintro e w2 ⟨rfl, hb2⟩
  have hB2 := since_step hB1 hb2
  clear hb2 hB1
  go_wp2_with fail
  refine (text_60 _).mono ?_
  rintro e w3 ⟨rfl, hb3⟩
  have hB3 := since_step hB2 hb3
  go_wp2_with fail
  go_ret
  exact ⟨rfl, hB3⟩
end Go.Proofs.YtldnponbkhgijaaDoor
end
section
namespace Go.Proofs.YtldnponbkhgijaaDoor
open Go.ChangeShapes Go.WideShapes Go.ChangeAt Go.RowKit
set_option linter.unusedVariables false
set_option linter.unusedSimpArgs false

structure RowS (α : Type) where
  A : Option Addr
  c : Nat
  l : List α
section
variable {α : Type}
def RowS.cells (s : RowS α) : List Value := [.slice s.A s.l.length s.c]
def RowS.val (s : RowS α) : Value := .slice s.A s.l.length s.c
theorem RowS.len (s : RowS α) : s.cells.length = 1 := rfl
theorem RowS.one (s : RowS α) : ∀ u ∈ s.cells, u.oneCell' = true := by
  intro u hu
  simp only [RowS.cells, List.mem_cons, List.not_mem_nil, or_false] at hu
  subst hu; rfl
def RowS.all (S : List (RowS α)) : List α := (S.map RowS.l).flatten
def RowsOk (w : World) (f : α → List Value) (S : List (RowS α)) : Prop := ∀ s ∈ S, Sl w s.A (rc f s.l)
theorem RowsOk.below {w w' : World} {f : α → List Value} {S : List (RowS α)} (h : RowsOk w f S) (hb : Below w.heap.size w w') : RowsOk w' f S := fun s hs => (h s hs).below hb
theorem RowsOk.alloc {w : World} {f : α → List Value} {S : List (RowS α)} (h : RowsOk w f S) (o : Obj) : RowsOk (w.alloc o) f S := fun s hs => (h s hs).alloc o
theorem RowsOk.drew {w : World} {f : α → List Value} {S : List (RowS α)} (h : RowsOk w f S) : RowsOk w.drew f S := h
theorem rd_rowsP {w : World} {f : α → List Value} {p : α → Prop} {s : Shape} {A : Option Addr} {n c : Nat} (hf : ∀ r, Rd w s r → ∃ g, r = f g ∧ p g) (h : Rd w (.sl s) [.slice A n c]) :
    ∃ l : List α, l.length = n ∧ n ≤ c ∧ c ≤ maxLen ∧ Sl w A (rc f l) ∧ ∀ y ∈ l, p y := by
  obtain ⟨A', n', c', rows, e, h1, h2, h3, h4, h5⟩ := h
  simp only [List.cons.injEq, Value.slice.injEq, and_true] at e
  obtain ⟨rfl, rfl, rfl⟩ := e
  have key : ∀ rows : List (List Value), (∀ r ∈ rows, Rd w s r) → ∃ l : List α, l.length = rows.length ∧ rows.flatten = rc f l ∧ ∀ y ∈ l, p y := by
    intro rows
    induction rows with
    | nil => intro _; exact ⟨[], rfl, rfl, fun y hy => by cases hy⟩
    | cons r rows ih =>
      intro h
      obtain ⟨l, a1, a2, a3⟩ := ih (fun x hx => h x (by simp [hx]))
      obtain ⟨x, rfl, hx⟩ := hf r (h r (by simp))
      refine ⟨x :: l, by simp [a1], by simp [a2, rc], fun y hy => ?_⟩
      rcases List.mem_cons.1 hy with rfl | hy
      · exact hx
      · exact a3 y hy
  obtain ⟨l, a1, a2, a3⟩ := key rows h5
  rw [a2] at h4
  exact ⟨l, by omega, h1, h2, h4, a3⟩
end
end Go.Proofs.YtldnponbkhgijaaDoor
end
section
namespace Go.Proofs.YtldnponbkhgijaaDoor
open Go.ChangeShapes Go.WideShapes Go.ChangeAt Go.RowKit
set_option linter.unusedVariables false
set_option linter.unusedSimpArgs false

def GIn (n : Nat) (w : World) (l : List Iq) : Prop := ∀ g ∈ l, ∃ i : Ins, GI w g i ∧ i.mv.length ≤ n
theorem GIn.below {n : Nat} {w w' : World} {l : List Iq} (h : GIn n w l) (hb : Below w.heap.size w w') : GIn n w' l := fun g hg => by
  obtain ⟨i, hi, hl⟩ := h g hg
  exact ⟨i, hi.below hb, hl⟩
theorem GIn.tab {n : Nat} {w : World} : ∀ {l : List Iq}, GIn n w l → ∃ is : List Ins, InTab w l is ∧ (∀ i ∈ is, i.mv.length ≤ n) ∧ ∀ i ∈ is, In64I i
  | [], _ => ⟨[], InTab.nil w, (fun i h => by cases h), fun i h => by cases h⟩
  | g :: l, h => by
    obtain ⟨is, ht, hl, h6⟩ := GIn.tab (l := l) fun x hx => h x (List.mem_cons_of_mem _ hx)
    obtain ⟨i, hi, h9⟩ := h g List.mem_cons_self
    refine ⟨i :: is, InTab.cons hi ht, fun x hx => ?_, fun x hx => ?_⟩
    · rcases List.mem_cons.1 hx with rfl | hx
      · exact h9
      · exact hl x hx
    · rcases List.mem_cons.1 hx with rfl | hx
      · exact ⟨hi.at_.mv64, hi.at_.n64⟩
      · exact h6 x hx
theorem so_of {w : World} {l : List Iq} {is : List Ins} (h : InTab w l is) (hs : SortedI l) : SoN is := by
  rw [SoN, List.pairwise_iff_getElem]
  intro i j hi hj hij
  have hl := h.1
  have h1 := List.pairwise_iff_getElem.1 hs i j (by omega) (by omega) hij
  have a := (h.2 i (by omega) hi).id
  have b := (h.2 j (by omega) hj).id
  unfold ahI at h1
  rw [a, b] at h1
  simpa using h1
def ITabN (n : Nat) (v0 w w' : World) (e : Ending) : Prop :=
  ∃ (R : List Iq) (A' : Option Addr) (c' : Nat), e = .returned (.slice A' R.length c') ∧ w'.ownsRow w.heap.size 25 5 (.slice A' R.length c') R.length (rc Iq.cells R) ∧ GIn n v0 R ∧ R.length ≤ 10 ∧ SortedI R
set_option maxHeartbeats 4000000 in
set_option maxRecDepth 100000 in
theorem rtablen_any (n : Nat) (A : Option Addr) (cap : Nat) (l : List Iq) (v0 w : World) (hW : Below v0.heap.size v0 w) (hs : Sl w A (rc Iq.cells l)) (hd : GIn n v0 l) :
    Calls Tryd.prog 5 #[.slice A l.length cap] w fun e w' => ITabN n v0 w w' e ∧ Below w.heap.size w w' := by
  go_enter Tryd.func5, Tryd.ntmps5
  go_wp2_with fail
  go_loopw [3, 4] (fun out i wr => ∃ (k : Nat) (R : List Iq) (A' : Option Addr) (c' : Nat), k ≤ l.length ∧ k ≤ 10 ∧ i = .int .i64 k ∧ out = .slice A' R.length c' ∧ wr.ownsRow w.heap.size 25 5 (.slice A' R.length c') R.length (rc Iq.cells R) ∧ SortedI R ∧ GIn n v0 R ∧ R.length ≤ k ∧ Below w.heap.size w wr) (fun _ i _ => l.length - (intOf i).toNat)
  case atStart => exact ⟨0, [], none, 0, by omega, by omega, rfl, rfl, own_nil _ _ _, List.Pairwise.nil, (fun g h => by cases h), by simp, Below.refl _ _⟩
  case round =>
    obtain ⟨k, R, A', c', hk, hk10, rfl, rfl, hown, hsd, hgd, hRk, hB⟩ := hrel
    by_cases hgo : k < l.length ∧ k < 10
    · obtain ⟨hlt, hlt10⟩ := hgo
      obtain ⟨b, o, rfl, hbw, hg⟩ := (hs.below hB).iq hlt
      obtain ⟨i, hi, h9⟩ := hd l[k] (List.getElem_mem hlt)
      have hlk : (k : Int) < (l.length : Int) := by omega
      have hlk10 : (k : Int) < 10 := by omega
      generalize l[k] = v at *
      have hQ : ∀ W, Below wr.heap.size wr W → Calls Tryd.prog 8 #[v.val] W fun e w' => e = .returned (.bool (okB i)) ∧ Below W.heap.size W w' := fun W hV => by
        rw [hi.val]
        exact ris_any i v.mv v.mvC W ((hi.at_.below (since_step hW hB)).below hV)
      have HPT := rputi_any w.heap.size A' c' R v (okB i) wr hQ (by omega) hown hsd
      have HSD := Lib.hid hsd
      have HGD := Lib.hid hgd
      have hcase : putIR (okB i) R v = (0, putR ahI R v) ∨ ∃ z, z ≠ 0 ∧ putIR (okB i) R v = (z, []) := by
        unfold putIR
        split
        · exact .inr ⟨2, by decide, rfl⟩
        · split
          · exact .inr ⟨12, by decide, rfl⟩
          · exact .inl rfl
      have HG : Hid (GIn n v0 (putR ahI R v)) := Lib.hid fun g hg => by
        rcases mem_putR _ _ _ hg with rfl | hg
        · exact ⟨i, hi, h9⟩
        · exact hgd g hg
      have HP : Hid (SortedI (putR ahI R v)) := Lib.hid (pairwise_putR ordI _ R hsd)
      have hpl := length_putR (ah := ahI) v R
      clear hs hbw hsd hgd hd hQ hi h9
      obtain ⟨vid, vm, vp, vx, vc, vcL, vcC⟩ := v
      obtain ⟨g0, g1, g2, g3, g4⟩ := hg
      simp only at g0 g1 g2 g3 g4
      rcases hcase with hR | ⟨z, hn, hR⟩
      · rw [hR] at HPT
        clear hR
        unfold Iq.val at HPT
        simp only at HPT
        generalize putR ahI R ⟨vid, vm, vp, vx, vc, vcL, vcC⟩ = M at *
        have HPT := Lib.hid HPT
        go_wp2_with fail
        refine HPT.out.mono ?_
        rintro e w1 ⟨⟨A1, c1, rfl, hown1⟩, hb1⟩
        have hB2 := since_step hB hb1
        have hown2 := own_base hown1 hB.size
        clear hown hown1 hb1 g0 g1 g2 g3 g4
        go_wp2_with fail
        go_roundw
        case rel => exact ⟨k + 1, M, A1, c1, by omega, by omega, by go_num, rfl, hown2, HP.out, HG.out, by omega, hB2⟩
        case measure => simp [intOf]; omega
      · rw [hR] at HPT
        clear hR HG HP
        unfold Iq.val at HPT
        simp only at HPT
        have HPT := Lib.hid HPT
        have hnb : (z == 0) = false := by simpa using hn
        go_wp2_with fail
        refine HPT.out.mono ?_
        rintro e w1 ⟨⟨A1, c1, rfl, hown1⟩, hb1⟩
        have hB2 := since_step hB hb1
        have hown2 := own_below hown hb1
        clear hown hown1 hb1 g0 g1 g2 g3 g4
        go_wp2_with fail
        go_roundw
        case rel => exact ⟨k + 1, R, A', c', by omega, by omega, by go_num, rfl, hown2, HSD.out, HGD.out, by omega, hB2⟩
        case measure => simp [intOf]; omega
    · have hend : ¬ ((k : Int) < (l.length : Int)) ∨ ((k : Int) < (l.length : Int) ∧ ¬ ((k : Int) < 10)) := by omega
      have HF := Lib.hid (show GIn n v0 R ∧ R.length ≤ 10 ∧ SortedI R from ⟨hgd, by omega, hsd⟩)
      clear hgo hsd hgd
      rcases hend with h1 | ⟨h1, h2⟩
      all_goals
        go_wp2_with fail
        go_ret
        exact ⟨⟨R, A', c', rfl, hown, HF.out.1, HF.out.2⟩, hB⟩
theorem rd_insrow {w : World} {r : List Value} (h : Rd w (.cat (.int .i64) (.cat (.int .i64) (.cat (.int .i64) (.cat (.int .i64) (.cat (.sl (.int .i64)) .nil))))) r) : ∃ g : Iq, r = g.cells ∧ ∃ i : Ins, GI w g i := by
  obtain ⟨x1, y1, rfl, ⟨n1, rfl, w1⟩, x2, y2, rfl, ⟨n2, rfl, w2⟩, x3, y3, rfl, ⟨n3, rfl, w3⟩, x4, y4, rfl, ⟨n4, rfl, w4⟩, x5, y5, rfl, h5, rfl⟩ := h
  obtain ⟨A, n, c, rows, rfl, r⟩ := _root_.id h5
  obtain ⟨l, hl, hc, hm, hs, hw⟩ := rd_ints h5
  exact ⟨⟨n1, n2, n3, n4, A, n, c⟩, rfl, ⟨n1, n2, n3, n4, l⟩, ⟨rfl, rfl, rfl, rfl, hl.symm, ⟨⟨by simp only; omega, hm⟩, hs, All64.ofI hw, bd_i64 w1, bd_i64 w2, bd_i64 w3, bd_i64 w4⟩⟩⟩
set_option maxHeartbeats 4000000 in
set_option maxRecDepth 100000 in
theorem few13_any (A : Option Addr) (cap : Nat) (l : List Iq) (v0 w : World) (hW : Below v0.heap.size v0 w) (hs : Sl w A (rc Iq.cells l)) (hd : ∀ g ∈ l, ∃ i : Ins, GI v0 g i) :
    Calls Tryd.prog 6 #[.slice A l.length cap] w fun e w' => (∃ (R : List Iq) (A' : Option Addr) (c' : Nat), e = .returned (.slice A' R.length c') ∧ Sl w' A' (rc Iq.cells R) ∧ GIn 12 v0 R) ∧ Below w.heap.size w w' := by
  go_enter Tryd.func6, Tryd.ntmps6
  go_wp2_with fail
  go_loopw [3, 4] (fun out i wr => ∃ (k : Nat) (R : List Iq) (A' : Option Addr) (c' : Nat), k ≤ l.length ∧ k ≤ 12 ∧ i = .int .i64 k ∧ out = .slice A' R.length c' ∧ wr.ownsRow w.heap.size 25 5 (.slice A' R.length c') R.length (rc Iq.cells R) ∧ GIn 12 v0 R ∧ R.length ≤ k ∧ Below w.heap.size w wr) (fun _ i _ => l.length - (intOf i).toNat)
  case atStart => exact ⟨0, [], none, 0, by omega, by omega, rfl, rfl, own_nil _ _ _, (fun g h => by cases h), by simp, Below.refl _ _⟩
  case round =>
    obtain ⟨k, R, A', c', hk, hk10, rfl, rfl, hown, hgd, hRk, hB⟩ := hrel
    by_cases hgo : k < l.length ∧ k < 12
    · obtain ⟨hlt, hlt10⟩ := hgo
      obtain ⟨b, o, rfl, hbw, hg⟩ := (hs.below hB).iq hlt
      obtain ⟨i, hi⟩ := hd l[k] (List.getElem_mem hlt)
      have hlk : (k : Int) < (l.length : Int) := by omega
      have hlk10 : (k : Int) < 12 := by omega
      generalize l[k] = v at *
      obtain ⟨vid, vm, vp, vx, vc, vcL, vcC⟩ := v
      obtain ⟨i0, i1, i2, i3, i4, hat⟩ := hi
      simp only at i0 i1 i2 i3 i4 hat
      subst i0; subst i1; subst i2; subst i3; subst i4
      obtain ⟨g0, g1, g2, g3, g4⟩ := hg
      simp only at g0 g1 g2 g3 g4
      have HSH := Lib.hid (short_any i vc vcC wr (hat.below (since_step hW hB)))
      have HG : Hid (GIn 12 v0 (R ++ [⟨i.id, i.mult, i.price, i.nxt, vc, (i.mv.take 12).length, vcC⟩])) := Lib.hid fun g hg => by
        rcases List.mem_append.1 hg with hg | hg
        · exact hgd g hg
        · rw [List.mem_singleton.1 hg]
          exact ⟨shortI i, ⟨rfl, rfl, rfl, rfl, rfl, hat.short⟩, by show (i.mv.take 12).length ≤ 12; simp; omega⟩
      unfold insV shortI at HSH
      simp only at HSH
      clear hgd hat hd hs
      generalize (i.mv.take 12).length = m at *
      generalize i.mv.length = n at *
      go_wp2_with fail
      refine HSH.out.mono ?_
      rintro e w1 ⟨rfl, hb⟩
      have hB1 := since_step hB hb
      have hown := own_below hown hb
      have hsz := hB1.size
      clear hb
      go_wp2_with (first
        | (at_builtin; refine wpList_app rfl (.tmp 15) (.tmp 21) rfl EIq rfl rfl (hown.alloc _) (m := 1) (news := [.int .i64 i.id, .int .i64 i.mult, .int .i64 i.price, .int .i64 i.nxt, .slice vc m vcC]) rfl (Sl.new_ _ _ _) (Iq.one ⟨i.id, i.mult, i.price, i.nxt, vc, m, vcC⟩) (by unfold maxLen; omega) (by omega) (by simp only [World.size_alloc]; omega) ?_; intro A2 c2 w3 hown3 hg3 hb3)
        | fail)
      go_roundw
      case rel =>
        refine ⟨k + 1, R ++ [⟨i.id, i.mult, i.price, i.nxt, vc, m, vcC⟩], A2, c2, by omega, by omega, by go_num, by simp, ?_, HG.out, by simp; omega, (since_alloc hB1 _).trans hb3⟩
        rw [rc_append]; simpa [rc, Iq.cells] using hown3
      case measure => simp [intOf]; omega
    · have hend : ¬ ((k : Int) < (l.length : Int)) ∨ ((k : Int) < (l.length : Int) ∧ ¬ ((k : Int) < 12)) := by omega
      have HT := Lib.hid hgd
      clear hgo hgd
      rcases hend with h1 | ⟨h1, h2⟩
      all_goals
        go_wp2_with fail
        go_ret
        exact ⟨⟨R, A', ⟨c', rfl⟩, Sl.of_own hown, HT.out⟩, hB⟩
end Go.Proofs.YtldnponbkhgijaaDoor
end
