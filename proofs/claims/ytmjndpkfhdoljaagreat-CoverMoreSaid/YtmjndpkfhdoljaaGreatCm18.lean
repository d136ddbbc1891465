import Derived.Deep.CutBlock
import Derived.Deep.CutRange
import Derived.Deep.DeepCutAuto
import Derived.Test.YtmjndpkfhdoljaaGreatCm17
import Derived.Test.YtmjndpkfhdoljaaGreatCm11
set_option maxHeartbeats 16000000
set_option maxRecDepth 100000
set_option linter.unusedVariables false
set_option linter.unusedSimpArgs false
namespace Go.Proofs.YtmjndpkfhdoljaaGreat
open Go.ChangeShapes Go.WideShapes Go.ChangeAt Go.RowKit
section
theorem div64_zero (lo y : Nat) (h1 : 0 < y) (h2 : y < 18446744073709551616) (h3 : lo < 18446744073709551616) (w : World) :
    Calls Tryz.prog 130 #[.int .u64 0, .int .u64 lo, .int .u64 y] w fun e w' => e = .returned (.tuple #[.int .u64 ((lo / y : Nat) : Int), .int .u64 ((lo % y : Nat) : Int)]) ∧ Below w.heap.size w w' := by
  have g1 : ((y : Int) == 0) = false := by simp; omega
  have g2 : decide ((y : Int) ≤ 0) = false := by simp; omega
  have gy : (y : Int) ≠ 0 := by omega
  have g3 : IntKind.u64.wrap ((lo : Int) / (y : Int)) = ((lo / y : Nat) : Int) := by
    rw [show (lo : Int) / (y : Int) = ((lo / y : Nat) : Int) from by simp, IntKind.wrap_u64]
    have := Nat.div_le_self lo y
    generalize lo / y = z at *
    omega
  go_enter Tryz.func130, Tryz.ntmps130
  go_wp2_with fail
  go_quiet (fail)
  go_wp2
  go_ret2
  refine ⟨?_, below_drewN (Below.refl _ _) _⟩
  simp
theorem div64_pos (N hi lo y : Nat) (hNN : N = hi * 18446744073709551616 + lo) (h1 : hi < y) (h2 : y < 18446744073709551616) (h3 : lo < 18446744073709551616) (h0 : 0 < hi) (w : World) :
  Calls Tryz.prog 130 #[.int .u64 hi, .int .u64 lo, .int .u64 y] w fun e w' => e = .returned (.tuple #[.int .u64 ((N / y : Nat) : Int), .int .u64 ((N % y : Nat) : Int)]) ∧ Below w.heap.size w w' := by
 have g1 : ((y : Int) == 0) = false := by simp; omega
 have g2 : decide ((y : Int) ≤ hi) = false := by simp; omega
 have g3 : ((hi : Int) == 0) = false := by simp; omega
 obtain ⟨s, Y, A, B, U, T, T1, T0, es, hs, eY, eA, eB, eU, eT, eT1, eT0, D1, l0, lY, hYs, hN⟩ := div_start N hi lo y hNN h1 h2 h3
 clear hNN
 have HN := Lib.hid hN
 have HY := Lib.hid hYs
 have hA0 : ¬ (A : Int) = 0 := by have := D1.ha; omega
 have gs : IntKind.u64.wrap (64 - (s : Int)) = 64 - (s : Int) := by rw [IntKind.wrap_u64]; omega
 have gs2 : ((64 : Int) - (s : Int)).toNat = 64 - s := by omega
 have ES := Lib.hid es
 clear hN hYs es
 obtain ⟨q0, hq0⟩ : ∃ q : Nat, q = U / A := ⟨_, rfl⟩
 obtain ⟨r0, hr0⟩ : ∃ r : Nat, r = U % A := ⟨_, rfl⟩
 have DA := D1
 have hA := DA.ha
 have hA2 := DA.ha2
 have hqa : q0 * A + r0 = U := by rw [hq0, hr0, Nat.mul_comm]; exact Nat.div_add_mod _ _
 have hr0l : r0 < A := by rw [hr0]; exact Nat.mod_lt _ (by omega)
 have hUl : U < 18446744073709551616 := by have := DA.hu; omega
 have EA := Lib.hid (show q0 * A + r0 = U ∧ dgQ Y U T1 ≤ q0 ∧ q0 ≤ 4294967297 ∧ r0 < 4294967296 from ⟨hqa, by rw [hq0]; exact DA.le, by rw [hq0]; exact DA.q2, by omega⟩)
 have g5DA : IntKind.u64.wrap ((U : Int) / (A : Int)) = (q0 : Int) := wrap_quo _ _ _ hq0 EA.out.2.2.1
 have g6DA : IntKind.u64.wrap ((U : Int) - IntKind.u64.wrap ((q0 : Int) * (A : Int))) = (r0 : Int) := wrap_rem _ _ _ _ hqa hUl
 obtain ⟨Q1, hQ⟩ : ∃ q : Nat, q = dgQ Y U T1 := ⟨_, rfl⟩
 obtain ⟨u2DA, hu2⟩ : ∃ q : Nat, q = U * 4294967296 + T1 - dgQ Y U T1 * Y := ⟨_, rfl⟩
 obtain ⟨hu3, hu4⟩ := DA.u2 hu2
 rw [← hQ] at hu3
 have g7DA := rest_val _ _ _ _ _ hu3 (by omega)
 have HQ1 := Lib.hid hQ
 have qlDA := DA.q_lt
 rw [← hQ] at qlDA
 have UUDA := Lib.hid (show U * 4294967296 + T1 = Q1 * Y + u2DA ∧ u2DA < Y from ⟨hu3, hu4⟩)
 clear hq0 hr0 hqa hr0l hUl hA hA2 hQ hu2 hu3 hu4
 obtain ⟨p0, hq0⟩ : ∃ q : Nat, q = u2DA / A := ⟨_, rfl⟩
 obtain ⟨s0, hr0⟩ : ∃ r : Nat, r = u2DA % A := ⟨_, rfl⟩
 have DB := (show Dg Y A B u2DA T0 from ⟨DA.hy, DA.hb, DA.ha, DA.ha2, UUDA.out.2, l0⟩)
 have hA := DB.ha
 have hA2 := DB.ha2
 have hqa : p0 * A + s0 = u2DA := by rw [hq0, hr0, Nat.mul_comm]; exact Nat.div_add_mod _ _
 have hr0l : s0 < A := by rw [hr0]; exact Nat.mod_lt _ (by omega)
 have hUl : u2DA < 18446744073709551616 := by have := DB.hu; omega
 have EB := Lib.hid (show p0 * A + s0 = u2DA ∧ dgQ Y u2DA T0 ≤ p0 ∧ p0 ≤ 4294967297 ∧ s0 < 4294967296 from ⟨hqa, by rw [hq0]; exact DB.le, by rw [hq0]; exact DB.q2, by omega⟩)
 have g5DB : IntKind.u64.wrap ((u2DA : Int) / (A : Int)) = (p0 : Int) := wrap_quo _ _ _ hq0 EB.out.2.2.1
 have g6DB : IntKind.u64.wrap ((u2DA : Int) - IntKind.u64.wrap ((p0 : Int) * (A : Int))) = (s0 : Int) := wrap_rem _ _ _ _ hqa hUl
 obtain ⟨Q0, hQ⟩ : ∃ q : Nat, q = dgQ Y u2DA T0 := ⟨_, rfl⟩
 obtain ⟨u2DB, hu2⟩ : ∃ q : Nat, q = u2DA * 4294967296 + T0 - dgQ Y u2DA T0 * Y := ⟨_, rfl⟩
 obtain ⟨hu3, hu4⟩ := DB.u2 hu2
 rw [← hQ] at hu3
 have g7DB := rest_val _ _ _ _ _ hu3 (by omega)
 have HQ0 := Lib.hid hQ
 have qlDB := DB.q_lt
 rw [← hQ] at qlDB
 have UUDB := Lib.hid (show u2DA * 4294967296 + T0 = Q0 * Y + u2DB ∧ u2DB < Y from ⟨hu3, hu4⟩)
 clear hq0 hr0 hqa hr0l hUl hA hA2 hQ hu2 hu3 hu4
 obtain ⟨hz1, hz2⟩ := div_end N y s Y U T1 T0 Q1 u2DA Q0 u2DB HY.out HN.out UUDA.out.1 UUDB.out.1 UUDB.out.2
 have g8 := both_val Q1 Q0 (N / y) qlDA qlDB hz1
 have g9 : (u2DB : Int) / 2 ^ s = ((N % y : Nat) : Int) := by rw [← hz2]; simp
 generalize N / y = zq at *
 generalize N % y = zr at *
 clear hz1 hz2 UUDA UUDB HN HY qlDA qlDB l0 D1
 go_enter Tryz.func130, Tryz.ntmps130
 go_wp2_with fail
 go_wp2_with fail
 refine (Tryz.bits_LeadingZeros64 y _ (by omega) (by omega)).mono ?_
 rintro e w1 ⟨rfl, rfl⟩
 rw [ES.out]
 go_upto_block 0 with fail
 go_cut [15, 16] (fun va vb wx => va = .int .u64 (Q1 : Int) ∧ (∃ r : Int, vb = .int .u64 r) ∧ wx = w1)
 case first =>
  go_wp2_with fail
  go_loopw [15, 16] (fun va vb wr => ∃ q r : Nat, va = .int .u64 q ∧ vb = .int .u64 r ∧ q * A + r = U ∧ dgQ Y U T1 ≤ q ∧ q ≤ 4294967297 ∧ r < 4294967296 ∧ wr = w1) (fun va _ _ => (intOf va).toNat)
  case atStart => exact ⟨q0, r0, rfl, rfl, EA.out.1, EA.out.2.1, EA.out.2.2.1, EA.out.2.2.2, rfl⟩
  case round =>
   obtain ⟨q, r, rfl, rfl, e, hq, hq2, hr, rfl⟩ := hrel
   have E := Lib.hid e
   have HQ := Lib.hid hq
   clear e hq
   obtain ⟨m, hm⟩ : ∃ m : Nat, m = q * B := ⟨_, rfl⟩
   obtain ⟨v, hv⟩ : ∃ v : Nat, v = 4294967296 * r := ⟨_, rfl⟩
   obtain ⟨x, hx⟩ : ∃ x : Nat, x = v + T1 := ⟨_, rfl⟩
   obtain ⟨r', hr'⟩ : ∃ r' : Nat, r' = r + A := ⟨_, rfl⟩
   have f3 : IntKind.u64.wrap (4294967296 * (r : Int)) = (v : Int) := by rw [IntKind.wrap_u64]; omega
   have f4 : IntKind.u64.wrap ((v : Int) + (T1 : Int)) = (x : Int) := by rw [IntKind.wrap_u64]; have := DA.hd; omega
   have f5 : IntKind.u64.wrap ((r : Int) + (A : Int)) = (r' : Int) := by rw [IntKind.wrap_u64]; have := DA.ha2; omega
   have HM := Lib.hid hm
   have HV := Lib.hid (show x = r * 4294967296 + T1 by omega)
   have HR := Lib.hid hr'
   clear hm hx hv hr'
   have back : ∀ (q' : Nat), q = q' + 1 → dgQ Y U T1 + 1 ≤ q → q' * A + r' = U ∧ dgQ Y U T1 ≤ q' ∧ q' ≤ 4294967296 := by
    intro q' h1 h2
    refine ⟨?_, by omega, by omega⟩
    have h3 := E.out
    rw [h1, Nat.add_mul, Nat.one_mul] at h3
    rw [HR.out]
    omega
   have BACK := Lib.hid back
   clear back
   by_cases c1 : 4294967296 ≤ q
   ·have d1 : decide (4294967296 ≤ (q : Int)) = true := decide_eq_true (by omega)
    have d1' : decide (4294967296 ≤ q) = true := decide_eq_true c1
    have hmore : dgQ Y U T1 + 1 ≤ q := by have := DA.q_lt; omega
    obtain ⟨q', hq'⟩ : ∃ q' : Nat, q = q' + 1 := ⟨q - 1, by omega⟩
    have f1 : IntKind.u64.wrap ((q : Int) - 1) = (q' : Int) := by rw [IntKind.wrap_u64]; omega
    have HB := Lib.hid (BACK.out q' hq' hmore)
    have HQ' := Lib.hid hq'
    clear hq' hmore BACK HQ
    by_cases c3 : 4294967296 ≤ r'
    ·have d3 : decide (4294967296 ≤ (r' : Int)) = true := decide_eq_true (by omega)
     have d3' : decide (4294967296 ≤ r') = true := decide_eq_true c3
     go_wp2
     go_meet
     case rel => exact ⟨by rw [HQ1.out, ← DA.broke HB.out.1 HB.out.2.1 HB.out.2.2 c3], (by first | exact ⟨_, rfl⟩ | exact ⟨0, trivial⟩), (by first | rfl | trivial)⟩
    ·have d3 : decide (4294967296 ≤ (r' : Int)) = false := decide_eq_false (by omega)
     have d3' : decide (4294967296 ≤ r') = false := decide_eq_false c3
     go_wp2
     go_roundw
     case rel => exact ⟨q', r', rfl, rfl, HB.out.1, HB.out.2.1, by have := HB.out.2.2; omega, by omega, (by first | rfl | trivial)⟩
     case measure => have := HQ'.out; simp [intOf]; omega
   ·have d1 : decide (4294967296 ≤ (q : Int)) = false := decide_eq_false (by omega)
    have d1' : decide (4294967296 ≤ q) = false := decide_eq_false c1
    have hmlt : m < 18446744073709551616 := by
     rw [HM.out]
     have : q * B ≤ 4294967295 * 4294967295 := Nat.mul_le_mul (by omega) (by have := DA.hb; omega)
     omega
    have f2 : IntKind.u64.wrap ((q : Int) * (B : Int)) = (m : Int) := wrap_mul _ _ _ HM.out hmlt
    by_cases c2 : x < m
    ·have d2 : decide ((x : Int) < (m : Int)) = true := decide_eq_true (by omega)
     have d2' : decide (x < m) = true := decide_eq_true c2
     have hmore : dgQ Y U T1 + 1 ≤ q := DA.more E.out (by have := HV.out; have := HM.out; omega)
     obtain ⟨q', hq'⟩ : ∃ q' : Nat, q = q' + 1 := ⟨q - 1, by omega⟩
     have f1 : IntKind.u64.wrap ((q : Int) - 1) = (q' : Int) := by rw [IntKind.wrap_u64]; omega
     have HB := Lib.hid (BACK.out q' hq' hmore)
     have HQ' := Lib.hid hq'
     clear hq' hmore BACK HQ
     by_cases c3 : 4294967296 ≤ r'
     ·have d3 : decide (4294967296 ≤ (r' : Int)) = true := decide_eq_true (by omega)
      have d3' : decide (4294967296 ≤ r') = true := decide_eq_true c3
      go_wp2
      go_meet
      case rel => exact ⟨by rw [HQ1.out, ← DA.broke HB.out.1 HB.out.2.1 HB.out.2.2 c3], (by first | exact ⟨_, rfl⟩ | exact ⟨0, trivial⟩), (by first | rfl | trivial)⟩
     ·have d3 : decide (4294967296 ≤ (r' : Int)) = false := decide_eq_false (by omega)
      have d3' : decide (4294967296 ≤ r') = false := decide_eq_false c3
      go_wp2
      go_roundw
      case rel => exact ⟨q', r', rfl, rfl, HB.out.1, HB.out.2.1, by have := HB.out.2.2; omega, by omega, (by first | rfl | trivial)⟩
      case measure => have := HQ'.out; simp [intOf]; omega
    ·have d2 : decide ((x : Int) < (m : Int)) = false := decide_eq_false (by omega)
     have d2' : decide (x < m) = false := decide_eq_false c2
     have hdone := DA.done E.out HQ.out (by have := HV.out; have := HM.out; omega)
     have HD := Lib.hid hdone
     clear hdone BACK
     go_wp2
     go_meet
     case rel => exact ⟨by rw [HQ1.out, ← HD.out], (by first | exact ⟨_, rfl⟩ | exact ⟨0, trivial⟩), (by first | rfl | trivial)⟩
 case rest =>
  obtain ⟨rfl, ⟨rr, rfl⟩, hw⟩ := hcut
  have hw := hw.symm
  subst hw
  go_upto_block 2 with fail
  go_cut [18, 16] (fun va vb wx => va = .int .u64 (Q0 : Int) ∧ (∃ r : Int, vb = .int .u64 r) ∧ wx = w1)
  case first =>
   go_wp2_with fail
   go_loopw [18, 16] (fun va vb wr => ∃ q r : Nat, va = .int .u64 q ∧ vb = .int .u64 r ∧ q * A + r = u2DA ∧ dgQ Y u2DA T0 ≤ q ∧ q ≤ 4294967297 ∧ r < 4294967296 ∧ wr = w1) (fun va _ _ => (intOf va).toNat)
   case atStart => exact ⟨p0, s0, rfl, rfl, EB.out.1, EB.out.2.1, EB.out.2.2.1, EB.out.2.2.2, rfl⟩
   case round =>
    obtain ⟨q, r, rfl, rfl, e, hq, hq2, hr, rfl⟩ := hrel
    have E := Lib.hid e
    have HQ := Lib.hid hq
    clear e hq
    obtain ⟨m, hm⟩ : ∃ m : Nat, m = q * B := ⟨_, rfl⟩
    obtain ⟨v, hv⟩ : ∃ v : Nat, v = 4294967296 * r := ⟨_, rfl⟩
    obtain ⟨x, hx⟩ : ∃ x : Nat, x = v + T0 := ⟨_, rfl⟩
    obtain ⟨r', hr'⟩ : ∃ r' : Nat, r' = r + A := ⟨_, rfl⟩
    have f3 : IntKind.u64.wrap (4294967296 * (r : Int)) = (v : Int) := by rw [IntKind.wrap_u64]; omega
    have f4 : IntKind.u64.wrap ((v : Int) + (T0 : Int)) = (x : Int) := by rw [IntKind.wrap_u64]; have := DB.hd; omega
    have f5 : IntKind.u64.wrap ((r : Int) + (A : Int)) = (r' : Int) := by rw [IntKind.wrap_u64]; have := DB.ha2; omega
    have HM := Lib.hid hm
    have HV := Lib.hid (show x = r * 4294967296 + T0 by omega)
    have HR := Lib.hid hr'
    clear hm hx hv hr'
    have back : ∀ (q' : Nat), q = q' + 1 → dgQ Y u2DA T0 + 1 ≤ q → q' * A + r' = u2DA ∧ dgQ Y u2DA T0 ≤ q' ∧ q' ≤ 4294967296 := by
     intro q' h1 h2
     refine ⟨?_, by omega, by omega⟩
     have h3 := E.out
     rw [h1, Nat.add_mul, Nat.one_mul] at h3
     rw [HR.out]
     omega
    have BACK := Lib.hid back
    clear back
    by_cases c1 : 4294967296 ≤ q
    ·have d1 : decide (4294967296 ≤ (q : Int)) = true := decide_eq_true (by omega)
     have d1' : decide (4294967296 ≤ q) = true := decide_eq_true c1
     have hmore : dgQ Y u2DA T0 + 1 ≤ q := by have := DB.q_lt; omega
     obtain ⟨q', hq'⟩ : ∃ q' : Nat, q = q' + 1 := ⟨q - 1, by omega⟩
     have f1 : IntKind.u64.wrap ((q : Int) - 1) = (q' : Int) := by rw [IntKind.wrap_u64]; omega
     have HB := Lib.hid (BACK.out q' hq' hmore)
     have HQ' := Lib.hid hq'
     clear hq' hmore BACK HQ
     by_cases c3 : 4294967296 ≤ r'
     ·have d3 : decide (4294967296 ≤ (r' : Int)) = true := decide_eq_true (by omega)
      have d3' : decide (4294967296 ≤ r') = true := decide_eq_true c3
      go_wp2
      go_meet
      case rel => exact ⟨by rw [HQ0.out, ← DB.broke HB.out.1 HB.out.2.1 HB.out.2.2 c3], (by first | exact ⟨_, rfl⟩ | exact ⟨0, trivial⟩), (by first | rfl | trivial)⟩
     ·have d3 : decide (4294967296 ≤ (r' : Int)) = false := decide_eq_false (by omega)
      have d3' : decide (4294967296 ≤ r') = false := decide_eq_false c3
      go_wp2
      go_roundw
      case rel => exact ⟨q', r', rfl, rfl, HB.out.1, HB.out.2.1, by have := HB.out.2.2; omega, by omega, (by first | rfl | trivial)⟩
      case measure => have := HQ'.out; simp [intOf]; omega
    ·have d1 : decide (4294967296 ≤ (q : Int)) = false := decide_eq_false (by omega)
     have d1' : decide (4294967296 ≤ q) = false := decide_eq_false c1
     have hmlt : m < 18446744073709551616 := by
      rw [HM.out]
      have : q * B ≤ 4294967295 * 4294967295 := Nat.mul_le_mul (by omega) (by have := DB.hb; omega)
      omega
     have f2 : IntKind.u64.wrap ((q : Int) * (B : Int)) = (m : Int) := wrap_mul _ _ _ HM.out hmlt
     by_cases c2 : x < m
     ·have d2 : decide ((x : Int) < (m : Int)) = true := decide_eq_true (by omega)
      have d2' : decide (x < m) = true := decide_eq_true c2
      have hmore : dgQ Y u2DA T0 + 1 ≤ q := DB.more E.out (by have := HV.out; have := HM.out; omega)
      obtain ⟨q', hq'⟩ : ∃ q' : Nat, q = q' + 1 := ⟨q - 1, by omega⟩
      have f1 : IntKind.u64.wrap ((q : Int) - 1) = (q' : Int) := by rw [IntKind.wrap_u64]; omega
      have HB := Lib.hid (BACK.out q' hq' hmore)
      have HQ' := Lib.hid hq'
      clear hq' hmore BACK HQ
      by_cases c3 : 4294967296 ≤ r'
      ·have d3 : decide (4294967296 ≤ (r' : Int)) = true := decide_eq_true (by omega)
       have d3' : decide (4294967296 ≤ r') = true := decide_eq_true c3
       go_wp2
       go_meet
       case rel => exact ⟨by rw [HQ0.out, ← DB.broke HB.out.1 HB.out.2.1 HB.out.2.2 c3], (by first | exact ⟨_, rfl⟩ | exact ⟨0, trivial⟩), (by first | rfl | trivial)⟩
      ·have d3 : decide (4294967296 ≤ (r' : Int)) = false := decide_eq_false (by omega)
       have d3' : decide (4294967296 ≤ r') = false := decide_eq_false c3
       go_wp2
       go_roundw
       case rel => exact ⟨q', r', rfl, rfl, HB.out.1, HB.out.2.1, by have := HB.out.2.2; omega, by omega, (by first | rfl | trivial)⟩
       case measure => have := HQ'.out; simp [intOf]; omega
     ·have d2 : decide ((x : Int) < (m : Int)) = false := decide_eq_false (by omega)
      have d2' : decide (x < m) = false := decide_eq_false c2
      have hdone := DB.done E.out HQ.out (by have := HV.out; have := HM.out; omega)
      have HD := Lib.hid hdone
      clear hdone BACK
      go_wp2
      go_meet
      case rel => exact ⟨by rw [HQ0.out, ← HD.out], (by first | exact ⟨_, rfl⟩ | exact ⟨0, trivial⟩), (by first | rfl | trivial)⟩
  case rest =>
   obtain ⟨rfl, ⟨rr2, rfl⟩, hw⟩ := hcut
   have hw := hw.symm
   subst hw
   go_wp2
   go_ret2
   refine ⟨?_, Below.refl _ _⟩
   simp
end
section
theorem div64_any (N hi lo y : Nat) (hNN : N = hi * 18446744073709551616 + lo) (h1 : hi < y) (h2 : y < 18446744073709551616) (h3 : lo < 18446744073709551616) (w : World) :
    Calls Tryz.prog 130 #[.int .u64 hi, .int .u64 lo, .int .u64 y] w fun e w' => e = .returned (.tuple #[.int .u64 ((N / y : Nat) : Int), .int .u64 ((N % y : Nat) : Int)]) ∧ Below w.heap.size w w' := by
  rcases Nat.eq_zero_or_pos hi with h | h
  · subst h
    have hN : N = lo := by rw [hNN, Nat.zero_mul, Nat.zero_add]
    subst hN
    rw [show ((0 : Nat) : Int) = 0 from rfl]
    exact div64_zero N y h1 h2 h3 w
  · exact div64_pos N hi lo y hNN h1 h2 h3 h w
theorem wrap_quo' (u a q : Nat) (hq : q = u / a) (h : u < 18446744073709551616) : IntKind.u64.wrap ((u : Int) / (a : Int)) = (q : Int) := by
  rw [show (u : Int) / (a : Int) = ((u / a : Nat) : Int) from by simp, ← hq, IntKind.wrap_u64]
  have := Nat.div_le_self u a
  omega
theorem divide_any (hi lo d H R L Q : Nat) (hd0 : 0 < d) (hd : d < 18446744073709551616) (h1 : hi < 18446744073709551616) (h2 : lo < 18446744073709551616)
    (hH : H = hi / d) (hL : L = (hi % d * 18446744073709551616 + lo) / d) (hR : R = (hi % d * 18446744073709551616 + lo) % d) (w : World) :
    Calls Tryz.prog 122 #[.int .u64 hi, .int .u64 lo, .int .u64 d] w fun e w' => e = .returned (.tuple #[.int .u64 (H : Int), .int .u64 (L : Int), .int .u64 (R : Int)]) ∧ Below w.heap.size w w' := by
  obtain ⟨m, hm⟩ : ∃ m : Nat, m = hi % d := ⟨_, rfl⟩
  have g1 := wrap_quo' hi d H hH h1
  have g2 : (hi : Int) % (d : Int) = (m : Int) := by rw [hm]; simp
  have g3 : ¬ (d : Int) = 0 := by omega
  have hml : m < d := by rw [hm]; exact Nat.mod_lt _ hd0
  rw [← hm] at hL hR
  have D := fun w => div64_any _ m lo d rfl hml hd h2 w
  rw [← hL, ← hR] at D
  have HD := Lib.hid D
  clear D hL hR hH hm
  go_enter Tryz.func122, Tryz.ntmps122
  go_wp2
  go_quiet (fail)
  go_wp2_with fail
  refine (HD.out _).mono ?_
  rintro e w1 ⟨rfl, hb1⟩
  have hB1 := since_step (below_drewN (Below.refl w.heap.size w) nq) hb1
  clear hb1
  go_wp2_with fail
  go_ret3
  exact ⟨rfl, hB1⟩
theorem div_parts (x : Int) (hx : In128 x) (d : Nat) (hd0 : 0 < d) (hd : d < 9223372036854775808) (H L R : Nat) (hH : H = szH x / d) (hL : L = (szH x % d * 18446744073709551616 + szL x) / d)
    (hR : R = (szH x % d * 18446744073709551616 + szL x) % d) :
    wrap64 (H : Int) = hiN (((x.natAbs / d : Nat) : Int)) ∧ (L : Int) = loN (((x.natAbs / d : Nat) : Int)) ∧ topN (((x.natAbs / d : Nat) : Int)) = 0 ∧ R = x.natAbs % d ∧ R < d ∧ In128 (-((x.natAbs / d : Nat) : Int)) := by
  have hN : x.natAbs = szH x * 18446744073709551616 + szL x := by unfold szH szL; omega
  have hl : szL x < 18446744073709551616 := by unfold szL; omega
  have hn : x.natAbs ≤ 170141183460469231731687303715884105728 := by unfold In128 at hx; omega
  have hle := Nat.div_le_self x.natAbs d
  have hdm := Nat.div_add_mod (szH x) d
  have key : x.natAbs = d * (szH x / d * 18446744073709551616) + (szH x % d * 18446744073709551616 + szL x) := by
    rw [hN]
    conv => lhs; rw [← hdm]
    rw [Nat.add_mul, Nat.mul_assoc, Nat.add_assoc]
  have hq : x.natAbs / d = H * 18446744073709551616 + L := by
    rw [key, Nat.mul_add_div hd0, ← hH, ← hL]
  have hr : x.natAbs % d = R := by
    rw [key, Nat.mul_add_mod, ← hR]
  have hLl : L < 18446744073709551616 := by
    rw [hL, Nat.div_lt_iff_lt_mul hd0]
    have h5 : szH x % d + 1 ≤ d := Nat.mod_lt _ hd0
    have h6 := Nat.mul_le_mul_left 18446744073709551616 h5
    rw [Nat.mul_add] at h6
    omega
  refine ⟨?_, ?_, ?_, hr.symm, by rw [← hr]; exact Nat.mod_lt _ hd0, ?_⟩
  · rw [hq, wrap64_eq]; unfold hiN; congr 1; omega
  · rw [hq]; unfold loN; omega
  · unfold topN
    rw [IntKind.wrap_i64]
    generalize x.natAbs / d = q at *
    omega
  · unfold In128
    generalize x.natAbs / d = q at *
    omega
end
end Go.Proofs.YtmjndpkfhdoljaaGreat
