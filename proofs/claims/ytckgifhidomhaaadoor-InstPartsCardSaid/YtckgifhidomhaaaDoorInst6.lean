/-
  Layer 13, sixth part: InstTurns: the walk.
-/
import Derived.Test.YtckgifhidomhaaaDoorInst5
namespace Go.Proofs.YtckgifhidomhaaaDoor
open Go.ChangeShapes Go.WideShapes Go.ChangeAt Go.RowKit
set_option linter.unusedVariables false
set_option linter.unusedSimpArgs false

/-- the answer of a move: it is of 64 bits, or none -/
theorem gain_some {i : Ins} {q a b : Int} (h : gainE i q a b = 0) : gainV i q a b = gainZ i q a b ∧ In64 (gainZ i q a b) ∧ okB i = true ∧ prB a = true ∧ prB b = true := by
  unfold gainE at h
  split at h
  · rename_i hc
    have h64 : In64 (gainZ i q a b) := by
      unfold fE at h
      split at h
      · assumption
      · cases h
    exact ⟨(if_pos hc).trans (if_pos h64), h64, hc⟩
  · cases h

set_option maxHeartbeats 1000000 in
/-- a box of an instrument, behind a store of a whole one -/
theorem IB.put {w : World} {g : Nat} {i0 i : Ins} {A A' : Option Addr} {c c' : Nat} (h : IB w g i0 A c) : IB ((((((w.setCell ⟨g, 0, none⟩ (.int .i64 i.id)).setCell ⟨g, 1, none⟩ (.int .i64 i.mult)).setCell ⟨g, 2, none⟩ (.int .i64 i.price)).setCell ⟨g, 3, none⟩ (.int .i64 i.nxt)).setCell ⟨g, 4, none⟩ (.slice A' i.mv.length c'))) g i A' c' := by
  obtain ⟨x0, x1, x2, x3, x4, x5⟩ := h
  refine ⟨by simpa using x0, ?_, ?_, ?_, ?_, ?_⟩ <;> simp [cell_set, x1, x2, x3, x4, x5]
theorem sum_cmp {w1 w2 w3 : World} : cmpZ 0 0 = 0 := by unfold cmpZ; simp

set_option maxRecDepth 100000 in
set_option maxHeartbeats 8000000 in
theorem walk_InstTurns (a0 : Array Value) (a1 : Int) (a2 : Int) (a3 : Int) (w : World) (w0 : Rd w (.cat (.int .i64) (.cat (.int .i64) (.cat (.int .i64) (.cat (.int .i64) (.cat (.sl (.int .i64)) .nil))))) a0.toList) (w1 : (Lit.int .i64 a1).wf = true) (w2 : (Lit.int .i64 a2).wf = true) (w3 : (Lit.int .i64 a3).wf = true) :
    Calls Tryd.prog 5 #[.agg a0, .int .i64 a1, .int .i64 a2, .int .i64 a3] w fun e w' => e = .returned (.bool true) ∧ Below w.heap.size w w' := by
  obtain ⟨i0, A, c, e0, hI0⟩ := rd_inst w0
  rw [e0]
  have h1 : In64 a1 := bd_i64 w1
  have h2 : In64 a2 := bd_i64 w2
  have h3 : In64 a3 := bd_i64 w3
  obtain ⟨i, hi⟩ : ∃ i, i = shortI i0 := ⟨_, rfl⟩
  have hI : InsAt w i A c := by rw [hi]; exact hI0.short
  have HSH := fun W (hb : Below w.heap.size w W) => short_any i0 A c W (hI0.below hb)
  rw [← hi] at HSH
  have HG1 := fun W (hb : Below w.heap.size w W) => gain_any i A c a1 a2 a3 W (hI.below hb) h1 h2 h3
  have HG2 := fun W (hb : Below w.heap.size w W) => gain_any i A c a1 a3 a2 W (hI.below hb) h1 h3 h2
  have HG3 := fun (hm : In64 (-a1)) W (hb : Below w.heap.size w W) => gain_any i A c (-a1) a2 a3 W (hI.below hb) hm h2 h3
  unfold insV at HSH HG1 HG2 HG3 ⊢
  have e12 : gainZ i a1 a2 a3 + gainZ i a1 a3 a2 = 0 := by
    unfold gainZ
    rw [show a2 - a3 = -(a3 - a2) by omega, Int.mul_neg, Int.neg_mul]
    omega
  have e13 : gainZ i a1 a2 a3 + gainZ i (-a1) a2 a3 = 0 := by
    unfold gainZ
    rw [Int.neg_mul, Int.neg_mul]
    omega
  have k1 := fun h => @gain_some i a1 a2 a3 h
  have k2 := fun h => @gain_some i a1 a3 a2 h
  have k3 := fun h => @gain_some i (-a1) a2 a3 h
  have hB0 := since_alloc (Below.refl _ w) (.cells #[.int .i64 i0.id, .int .i64 i0.mult, .int .i64 i0.price, .int .i64 i0.nxt, .slice A i0.mv.length c] 25)
  have hX0 := IB.new w i0 A c 25
  have K12 : Hid (gainE i a1 a2 a3 = 0 → gainE i a1 a3 a2 = 0 → In64 (gainV i a1 a2 a3) ∧ In64 (gainV i a1 a3 a2) ∧ gainV i a1 a2 a3 + gainV i a1 a3 a2 = 0) := Lib.hid (fun p q => by
    obtain ⟨u1, u2, _⟩ := k1 p
    obtain ⟨v1, v2, _⟩ := k2 q
    rw [u1, v1]
    exact ⟨u2, v2, e12⟩)
  have K13 : Hid (gainE i a1 a2 a3 = 0 → gainE i (-a1) a2 a3 = 0 → In64 (gainV i a1 a2 a3) ∧ In64 (gainV i (-a1) a2 a3) ∧ gainV i a1 a2 a3 + gainV i (-a1) a2 a3 = 0) := Lib.hid (fun p q => by
    obtain ⟨u1, u2, _⟩ := k1 p
    obtain ⟨v1, v2, _⟩ := k3 q
    rw [u1, v1]
    exact ⟨u2, v2, e13⟩)
  have HSH := Lib.hid HSH
  have HG1 := Lib.hid HG1
  have HG2 := Lib.hid HG2
  have HG3 := Lib.hid HG3
  have HX0 := Lib.hid hX0
  have HH1 := Lib.hid h1
  clear w0 w1 w2 w3 e0 hI0 hi hX0 h1 h2 h3 hI e12 e13 k1 k2 k3
  generalize gainV i a1 a2 a3 = v1 at *
  generalize gainE i a1 a2 a3 = f1 at *
  generalize gainV i a1 a3 a2 = v2 at *
  generalize gainE i a1 a3 a2 = f2 at *
  generalize gainV i (-a1) a2 a3 = v3 at *
  generalize gainE i (-a1) a2 a3 = f3 at *
  go_enter Tryd.func5, Tryd.ntmps5
  go_wp2_with fail
  refine (HSH.out _ hB0).mono ?_
  rintro e w1 ⟨rfl, hb1⟩
  have X1 := HX0.out.below hb1
  have hB1 := since_step hB0 hb1
  have z0 : w1.frozen? ⟨w.heap.size, 0, none⟩ = false := (hb1.frozen (p := ⟨w.heap.size, 0, none⟩) (by simp)).trans (by simp)
  have z1 : w1.frozen? ⟨w.heap.size, 1, none⟩ = false := (hb1.frozen (p := ⟨w.heap.size, 1, none⟩) (by simp)).trans (by simp)
  have z2 : w1.frozen? ⟨w.heap.size, 2, none⟩ = false := (hb1.frozen (p := ⟨w.heap.size, 2, none⟩) (by simp)).trans (by simp)
  have z3 : w1.frozen? ⟨w.heap.size, 3, none⟩ = false := (hb1.frozen (p := ⟨w.heap.size, 3, none⟩) (by simp)).trans (by simp)
  have z4 : w1.frozen? ⟨w.heap.size, 4, none⟩ = false := (hb1.frozen (p := ⟨w.heap.size, 4, none⟩) (by simp)).trans (by simp)
  clear hb1 hB0
  obtain ⟨x0, x1, x2, x3, x4, x5⟩ := _root_.id X1
  have HX5 := Lib.hid (X1.put (i := i) (A' := A) (c' := c))
  have hB2 : Below w.heap.size w ((((((w1.setCell ⟨w.heap.size, 0, none⟩ (.int .i64 i.id)).setCell ⟨w.heap.size, 1, none⟩ (.int .i64 i.mult)).setCell ⟨w.heap.size, 2, none⟩ (.int .i64 i.price)).setCell ⟨w.heap.size, 3, none⟩ (.int .i64 i.nxt)).setCell ⟨w.heap.size, 4, none⟩ (.slice A i.mv.length c))) :=
    Below.setCell (Below.setCell (Below.setCell (Below.setCell (Below.setCell hB1 (by simp) _) (by simp) _) (by simp) _) (by simp) _) (by simp) _
  go_upto_region 2 with fail
  generalize ((((((w1.setCell ⟨w.heap.size, 0, none⟩ (.int .i64 i.id)).setCell ⟨w.heap.size, 1, none⟩ (.int .i64 i.mult)).setCell ⟨w.heap.size, 2, none⟩ (.int .i64 i.price)).setCell ⟨w.heap.size, 3, none⟩ (.int .i64 i.nxt)).setCell ⟨w.heap.size, 4, none⟩ (.slice A i.mv.length c))) = w2 at *
  clear hB1 x0 x1 x2 x3 x4 x5 X1 z0 z1 z2 z3 z4
  obtain ⟨x0, x1, x2, x3, x4, x5⟩ := _root_.id HX5.out
  go_wp2_with fail
  refine (HG1.out _ hB2).mono ?_
  rintro e w3 ⟨rfl, hb3⟩
  have X3 := HX5.out.below hb3
  have hB3 := since_step hB2 hb3
  clear hb3 hB2 x0 x1 x2 x3 x4 x5 HX5
  obtain ⟨x0, x1, x2, x3, x4, x5⟩ := _root_.id X3
  go_wp2_with fail
  refine (HG2.out _ hB3).mono ?_
  rintro e w4 ⟨rfl, hb4⟩
  have X4 := X3.below hb4
  have hB4 := since_step hB3 hb4
  clear hb4 hB3 x0 x1 x2 x3 x4 x5 X3
  obtain ⟨x0, x1, x2, x3, x4, x5⟩ := _root_.id X4
  have HCZ := Lib.hid (cmp_self 0)
  go_upto_region 4 with fail
  go_cut [48] (fun s wx => s = .bool false ∧ Below w4.heap.size w4 wx)
  case first =>
    by_cases hf1 : f1 = 0
    · by_cases hf2 : f2 = 0
      · obtain ⟨v64, u64, hvu⟩ := K12.out hf1 hf2
        have b1 : (f1 == 0) = true := by rw [hf1]; rfl
        have b2 : (f2 == 0) = true := by rw [hf2]; rfl
        clear hf1 hf2
        have HV := Lib.hid v64
        have HU := Lib.hid u64
        have HVU := Lib.hid hvu
        clear v64 u64 hvu
        go_wp2_with fail
        refine (bof_any v1 _ HV.out).mono ?_
        rintro e w5 ⟨⟨s5, A5, n5, c5, rfl, hq5, Y5⟩, hb5⟩
        have M5 := Y5.l64 HV.out
        clear hq5
        go_wp2_with fail
        refine (bof_any v2 _ HU.out).mono ?_
        rintro e w6 ⟨⟨s6, A6, n6, c6, rfl, hq6, Y6⟩, hb6⟩
        have M6 := Y6.l64 HU.out
        have Y5 := Y5.below hb6
        have hb6 := since_step hb5 hb6
        clear hq6 hb5
        go_wp2_with fail
        refine (badd' (by omega) (by omega) Y5 Y6).mono ?_
        rintro e w7 ⟨⟨s7, A7, n7, c7, rfl, hq7, Y7⟩, hb7⟩
        have M7 := len_add Y5 Y6 Y7
        rw [HVU.out] at Y7
        have hb7 := since_step hb6 hb7
        clear hq7 hb6 Y5 Y6
        go_wp2_with fail
        refine (bcmp_any 0 0 s7 false A7 none n7 c7 0 0 _ (by omega) (by omega) Y7 (BigAt.zero _)).mono ?_
        rintro e w8 ⟨rfl, hb8⟩
        rw [HCZ.out]
        have hb8 := since_step hb7 hb8
        clear hb7 Y7
        go_wp2_with fail
        go_meet
        case rel => exact ⟨rfl, hb8⟩
      · have b1 : (f1 == 0) = true := by rw [hf1]; rfl
        have b2 : (f2 == 0) = false := by rw [beq_eq_false_iff_ne]; exact hf2
        clear hf1 hf2
        go_wp2_with fail
        go_meet
        case rel => exact ⟨rfl, Below.refl _ _⟩
    · have b1 : (f1 == 0) = false := by rw [beq_eq_false_iff_ne]; exact hf1
      clear hf1
      go_wp2_with fail
      go_meet
      case rel => exact ⟨rfl, Below.refl _ _⟩
  case rest =>
    obtain ⟨rfl, hcut⟩ := hcut
    have hB5 := since_step hB4 hcut
    have X5 := X4.below hcut
    clear hcut hB4 x0 x1 x2 x3 x4 x5 X4 K12 HG1 HG2
    obtain ⟨x0, x1, x2, x3, x4, x5⟩ := _root_.id X5
    by_cases hm : a1 = -9223372036854775808
    · have b0 : (a1 == -9223372036854775808) = true := by rw [hm]; rfl
      clear hm
      go_wp2_with fail
      refine (lives13_any _).mono ?_
      rintro e w9 ⟨rfl, hb9⟩
      have hB9 := since_step hB5 hb9
      go_wp2_with fail
      go_ret
      exact ⟨rfl, hB9⟩
    · have hm64 : In64 (-a1) := by have := HH1.out; unfold In64 at *; omega
      have b0 : (a1 == -9223372036854775808) = false := by rw [beq_eq_false_iff_ne]; exact hm
      have HG3 := Lib.hid (HG3.out hm64)
      unfold In64 at hm64
      have hneg : -9223372036854775808 ≤ a1 ∧ a1 ≤ 9223372036854775807 := HH1.out
      clear hm
      go_wp2_with fail
      refine (HG3.out _ hB5).mono ?_
      rintro e w6 ⟨rfl, hb6⟩
      have hB6 := since_step hB5 hb6
      clear hb6 hB5 x0 x1 x2 x3 x4 x5 X5
      by_cases hf1 : f1 = 0
      · by_cases hf3 : f3 = 0
        · obtain ⟨v64, u64, hvu⟩ := K13.out hf1 hf3
          have b1 : (f1 != 0) = false := by rw [hf1]; rfl
          have b2 : (f3 != 0) = false := by rw [hf3]; rfl
          clear hf1 hf3
          have HV := Lib.hid v64
          have HU := Lib.hid u64
          have HVU := Lib.hid hvu
          clear v64 u64 hvu
          go_wp2_with fail
          refine (bof_any v1 _ HV.out).mono ?_
          rintro e w7 ⟨⟨s5, A5, n5, c5, rfl, hq5, Y5⟩, hb7⟩
          have M5 := Y5.l64 HV.out
          have hB7 := since_step hB6 hb7
          clear hq5 hb7 hB6
          go_wp2_with fail
          refine (bof_any v3 _ HU.out).mono ?_
          rintro e w8 ⟨⟨s6, A6, n6, c6, rfl, hq6, Y6⟩, hb8⟩
          have M6 := Y6.l64 HU.out
          have Y5 := Y5.below hb8
          have hB8 := since_step hB7 hb8
          clear hq6 hb8 hB7
          go_wp2_with fail
          refine (badd' (by omega) (by omega) Y5 Y6).mono ?_
          rintro e w9 ⟨⟨s7, A7, n7, c7, rfl, hq7, Y7⟩, hb9⟩
          have M7 := len_add Y5 Y6 Y7
          rw [HVU.out] at Y7
          have hB9 := since_step hB8 hb9
          clear hq7 hb9 Y5 Y6 hB8
          go_wp2_with fail
          refine (bcmp_any 0 0 s7 false A7 none n7 c7 0 0 _ (by omega) (by omega) Y7 (BigAt.zero _)).mono ?_
          rintro e w10 ⟨rfl, hb10⟩
          rw [HCZ.out]
          have hB10 := since_step hB9 hb10
          clear hb10 Y7 hB9
          go_wp2_with fail
          refine (lives13_any _).mono ?_
          rintro e w11 ⟨rfl, hb11⟩
          have hB11 := since_step hB10 hb11
          go_wp2_with fail
          go_ret
          exact ⟨rfl, hB11⟩
        · have b1 : (f1 != 0) = false := by rw [hf1]; rfl
          have b2 : (f3 != 0) = true := bne_iff_ne.2 hf3
          clear hf1 hf3
          go_wp2_with fail
          refine (lives13_any _).mono ?_
          rintro e w11 ⟨rfl, hb11⟩
          have hB11 := since_step hB6 hb11
          go_wp2_with fail
          go_ret
          exact ⟨rfl, hB11⟩
      · have b1 : (f1 != 0) = true := bne_iff_ne.2 hf1
        clear hf1
        go_wp2_with fail
        refine (lives13_any _).mono ?_
        rintro e w11 ⟨rfl, hb11⟩
        have hB11 := since_step hB6 hb11
        go_wp2_with fail
        go_ret
        exact ⟨rfl, hB11⟩
end Go.Proofs.YtckgifhidomhaaaDoor
