import Derived.Lib.ItoaNum
import Derived.Test.YtmjndpkfhdoljaaGreatCc10
import Derived.Deep.CutBlock
import Derived.Deep.CutRange
import Derived.Deep.DeepCutAuto
set_option maxHeartbeats 16000000
set_option maxRecDepth 100000
set_option linter.unusedVariables false
set_option linter.unusedSimpArgs false
namespace Go.Proofs.YtmjndpkfhdoljaaGreat
open Go.ChangeShapes Go.WideShapes Go.ChangeAt Go.RowKit
section
structure Dg (Y A B u d : Nat) : Prop where
  hy : Y = A * 4294967296 + B
  hb : B < 4294967296
  ha : 2147483648 ≤ A
  ha2 : A < 4294967296
  hu : u < Y
  hd : d < 4294967296
theorem lin_lt (qa qb r d M : Nat) (hc : r * M + d < qb) : (qa + r) * M + d < qa * M + qb := by rw [Nat.add_mul]; omega
theorem lin_le (qa qb r d M : Nat) (hc : qb ≤ r * M + d) : qa * M + qb ≤ (qa + r) * M + d := by rw [Nat.add_mul]; omega
theorem lin_end (M q1 Y u2 d0 q0 r : Nat) (e0 : u2 * M + d0 = q0 * Y + r) : (q1 * Y + u2) * M + d0 = (q1 * M + q0) * Y + r := by
  rw [Nat.add_mul, Nat.add_mul, Nat.mul_right_comm q1 M Y]
  generalize q1 * Y * M = a at *
  omega
section digit
variable {Y A B u d : Nat}
def dgQ (Y u d : Nat) : Nat := (u * 4294967296 + d) / Y
theorem Dg.pos (h : Dg Y A B u d) : 0 < Y := by have := h.hu; omega
theorem Dg.q_lt (h : Dg Y A B u d) : dgQ Y u d < 4294967296 := by
  unfold dgQ
  rw [Nat.div_lt_iff_lt_mul h.pos]
  have := h.hu; have := h.hd
  omega
theorem Dg.le (h : Dg Y A B u d) : dgQ Y u d ≤ u / A := by
  have hA : 0 < A := by have := h.ha; omega
  rw [Nat.le_div_iff_mul_le hA]
  have h1 : dgQ Y u d * Y ≤ u * 4294967296 + d := Nat.div_mul_le_self _ _
  have h2 : dgQ Y u d * (A * 4294967296) ≤ dgQ Y u d * Y := Nat.mul_le_mul_left _ (by have := h.hy; omega)
  have h3 : dgQ Y u d * (A * 4294967296) = dgQ Y u d * A * 4294967296 := by rw [Nat.mul_assoc]
  have := h.hd
  omega
theorem Dg.q2 (h : Dg Y A B u d) : u / A ≤ 4294967297 := by
  have hA : 0 < A := by have := h.ha; omega
  have : u / A < 4294967298 := by
    rw [Nat.div_lt_iff_lt_mul hA]
    have := h.hu; have := h.hy; have := h.hb; have := h.ha
    omega
  omega
theorem Dg.more (h : Dg Y A B u d) {q r : Nat} (e : q * A + r = u) (hc : r * 4294967296 + d < q * B) : dgQ Y u d + 1 ≤ q := by
  have : dgQ Y u d < q := by
    unfold dgQ
    have e2 : q * Y = q * A * 4294967296 + q * B := by rw [h.hy, Nat.mul_add q (A * 4294967296) B, Nat.mul_assoc q A 4294967296]
    rw [Nat.div_lt_iff_lt_mul h.pos, e2]
    subst e
    exact lin_lt _ _ _ _ _ hc
  omega
theorem Dg.done (h : Dg Y A B u d) {q r : Nat} (e : q * A + r = u) (hq : dgQ Y u d ≤ q) (hc : q * B ≤ r * 4294967296 + d) : q = dgQ Y u d := by
  have : q ≤ dgQ Y u d := by
    clear hq
    unfold dgQ
    have e2 : q * Y = q * A * 4294967296 + q * B := by rw [h.hy, Nat.mul_add q (A * 4294967296) B, Nat.mul_assoc q A 4294967296]
    rw [Nat.le_div_iff_mul_le h.pos, e2]
    subst e
    exact lin_le _ _ _ _ _ hc
  omega
theorem Dg.broke (h : Dg Y A B u d) {q r : Nat} (e : q * A + r = u) (hq : dgQ Y u d ≤ q) (h2 : q ≤ 4294967296) (hr : 4294967296 ≤ r) : q = dgQ Y u d := by
  refine h.done e hq ?_
  have : q * B ≤ 4294967296 * 4294967295 := Nat.mul_le_mul h2 (by have := h.hb; omega)
  omega
theorem Dg.rest (h : Dg Y A B u d) : dgQ Y u d * Y ≤ u * 4294967296 + d ∧ u * 4294967296 + d - dgQ Y u d * Y < Y := by
  have h1 : dgQ Y u d * Y ≤ u * 4294967296 + d := Nat.div_mul_le_self _ _
  refine ⟨h1, ?_⟩
  have h2 : Y * dgQ Y u d + (u * 4294967296 + d) % Y = u * 4294967296 + d := Nat.div_add_mod _ _
  have h3 : (u * 4294967296 + d) % Y < Y := Nat.mod_lt _ h.pos
  rw [Nat.mul_comm] at h2
  omega
end digit
theorem wrap_quo (u a q : Nat) (hq : q = u / a) (h : q ≤ 4294967297) : IntKind.u64.wrap ((u : Int) / (a : Int)) = (q : Int) := by
  rw [show (u : Int) / (a : Int) = ((u / a : Nat) : Int) from by simp, ← hq, IntKind.wrap_u64]
  omega
theorem wrap_rem (u a q r : Nat) (h : q * a + r = u) (hu : u < 18446744073709551616) : IntKind.u64.wrap ((u : Int) - IntKind.u64.wrap ((q : Int) * (a : Int))) = (r : Int) := by
  rw [show (q : Int) * (a : Int) = ((q * a : Nat) : Int) from by simp, IntKind.wrap_u64, IntKind.wrap_u64]
  generalize q * a = m at *
  omega
theorem wrap_mul (q b m : Nat) (hm : m = q * b) (h : m < 18446744073709551616) : IntKind.u64.wrap ((q : Int) * (b : Int)) = (m : Int) := by
  rw [show (q : Int) * (b : Int) = ((q * b : Nat) : Int) from by simp, ← hm, IntKind.wrap_u64]
  omega
theorem div_start (N hi lo y : Nat) (hNN : N = hi * 18446744073709551616 + lo) (h1 : hi < y) (h2 : y < 18446744073709551616) (h3 : lo < 18446744073709551616) :
    ∃ s Y A B U T T1 T0 : Nat, (64 - (Lib.bitLen (y : Int).toNat : Int)) = (s : Int) ∧ s ≤ 63 ∧ IntKind.u64.wrap ((y : Int) * 2 ^ s) = (Y : Int) ∧ (Y : Int) / 4294967296 = (A : Int) ∧
      bits .and .u64 (Y : Int) 4294967295 = (B : Int) ∧ bits .or .u64 (IntKind.u64.wrap ((hi : Int) * 2 ^ s)) ((lo : Int) / 2 ^ (64 - s)) = (U : Int) ∧
      IntKind.u64.wrap ((lo : Int) * 2 ^ s) = (T : Int) ∧ (T : Int) / 4294967296 = (T1 : Int) ∧ bits .and .u64 (T : Int) 4294967295 = (T0 : Int) ∧
      Dg Y A B U T1 ∧ T0 < 4294967296 ∧ Y < 18446744073709551616 ∧ Y = y * 2 ^ s ∧ N * 2 ^ s = (U * 4294967296 + T1) * 4294967296 + T0 := by
  have hy0 : y ≠ 0 := by clear hNN; omega
  obtain ⟨b1, b2, b3⟩ := Lib.bitLenAux_bounds 64 y (by omega) hy0
  have hbl : Lib.bitLen y = Lib.bitLenAux 64 y := rfl
  rw [← hbl] at b1 b2 b3
  have b4 : Lib.bitLen y ≤ 64 := Lib.bitLen_le y 64 (by omega) (by omega)
  generalize hb : Lib.bitLen y = bl at *
  obtain ⟨s, hs⟩ : ∃ s, s = 64 - bl := ⟨_, rfl⟩
  have hpow : 2 ^ (64 - s) * 2 ^ s = 18446744073709551616 := by
    rw [← Nat.pow_add, show 64 - s + s = 64 from by omega]
  have hYlt : y * 2 ^ s < 18446744073709551616 := by
    rw [← hpow]
    exact Nat.mul_lt_mul_of_pos_right (by rw [show 64 - s = bl from by omega]; exact b3) (Nat.two_pow_pos s)
  have hYge : 9223372036854775808 ≤ y * 2 ^ s := by
    have h5 : 2 ^ (bl - 1) * 2 ^ s ≤ y * 2 ^ s := Nat.mul_le_mul_right _ b2
    rw [← Nat.pow_add, show bl - 1 + s = 63 from by omega] at h5
    exact h5
  have hHlt : hi * 2 ^ s + 2 ^ s ≤ y * 2 ^ s := by
    have := Nat.mul_le_mul_right (2 ^ s) (show hi + 1 ≤ y by omega)
    rwa [Nat.add_mul, Nat.one_mul] at this
  have hLlt : lo / 2 ^ (64 - s) < 2 ^ s := by
    rw [Nat.div_lt_iff_lt_mul (Nat.two_pow_pos _), Nat.mul_comm, hpow]
    exact h3
  have hlo : lo * 2 ^ s = lo / 2 ^ (64 - s) * 18446744073709551616 + lo % 2 ^ (64 - s) * 2 ^ s := by
    conv => lhs; rw [← Nat.div_add_mod lo (2 ^ (64 - s))]
    rw [Nat.add_mul, Nat.mul_comm (2 ^ (64 - s)), Nat.mul_assoc, hpow]
  have hTlt : lo % 2 ^ (64 - s) * 2 ^ s < 18446744073709551616 := by
    rw [← hpow]
    exact Nat.mul_lt_mul_of_pos_right (Nat.mod_lt _ (Nat.two_pow_pos _)) (Nat.two_pow_pos s)
  have c1 : ((y : Int) * 2 ^ s) = ((y * 2 ^ s : Nat) : Int) := by simp
  have c2 : ((hi : Int) * 2 ^ s) = ((hi * 2 ^ s : Nat) : Int) := by simp
  have c3 : ((lo : Int) * 2 ^ s) = ((lo * 2 ^ s : Nat) : Int) := by simp
  have c4 : ((lo : Int) / 2 ^ (64 - s)) = ((lo / 2 ^ (64 - s) : Nat) : Int) := by simp
  have hor : hi * 2 ^ s ||| lo / 2 ^ (64 - s) = hi * 2 ^ s + lo / 2 ^ (64 - s) := nat_join s _ _ (Nat.mul_mod_left _ _) hLlt
  have hN : (hi * 18446744073709551616 + lo) * 2 ^ s = (hi * 2 ^ s + lo / 2 ^ (64 - s)) * 18446744073709551616 + lo % 2 ^ (64 - s) * 2 ^ s := by
    rw [Nat.add_mul, hlo, Nat.mul_assoc, Nat.mul_comm 18446744073709551616 (2 ^ s), ← Nat.mul_assoc]
    omega
  refine ⟨s, y * 2 ^ s, y * 2 ^ s / 4294967296, y * 2 ^ s % 4294967296, hi * 2 ^ s + lo / 2 ^ (64 - s), lo % 2 ^ (64 - s) * 2 ^ s, lo % 2 ^ (64 - s) * 2 ^ s / 4294967296, lo % 2 ^ (64 - s) * 2 ^ s % 4294967296, ?_, by omega, ?_, ?_, ?_, ?_, ?_, ?_, ?_, ⟨by omega, by omega, by omega, by omega, ?_, by omega⟩, by omega, hYlt, rfl, ?_⟩
  · rw [Int.toNat_natCast, hb]; omega
  · rw [c1, IntKind.wrap_u64]; omega
  · omega
  · rw [show (4294967295 : Int) = ((4294967295 : Nat) : Int) from rfl, u64_and_nat _ _ hYlt (by omega)]
    exact congrArg _ (Nat.and_two_pow_sub_one_eq_mod _ 32)
  · rw [c2, c4, IntKind.wrap_u64, show ((hi * 2 ^ s : Nat) : Int) % 18446744073709551616 = ((hi * 2 ^ s : Nat) : Int) from by omega, u64_or_nat _ _ (by omega) (by omega), hor]
  · rw [c3, IntKind.wrap_u64, hlo]; omega
  · omega
  · rw [show (4294967295 : Int) = ((4294967295 : Nat) : Int) from rfl, u64_and_nat _ _ hTlt (by omega)]
    exact congrArg _ (Nat.and_two_pow_sub_one_eq_mod _ 32)
  · omega
  · rw [hNN, hN]; omega
theorem div_end (N y s Y u d1 d0 q1 u2 q0 r : Nat) (hY : Y = y * 2 ^ s) (hN : N * 2 ^ s = (u * 4294967296 + d1) * 4294967296 + d0) (e1 : u * 4294967296 + d1 = q1 * Y + u2)
    (e0 : u2 * 4294967296 + d0 = q0 * Y + r) (hr : r < Y) : N / y = q1 * 4294967296 + q0 ∧ r / 2 ^ s = N % y := by
  have hp := Nat.two_pow_pos s
  have hy : 0 < y := by
    rcases Nat.eq_zero_or_pos y with h | h
    · rw [h, Nat.zero_mul] at hY; omega
    · exact h
  have key : N * 2 ^ s = (q1 * 4294967296 + q0) * Y + r := by
    rw [hN, e1]
    exact lin_end _ _ _ _ _ _ _ e0
  rw [hY, ← Nat.mul_assoc] at key
  have hle : (q1 * 4294967296 + q0) * y ≤ N := by
    have h5 : (q1 * 4294967296 + q0) * y * 2 ^ s ≤ N * 2 ^ s := by omega
    exact Nat.le_of_mul_le_mul_right h5 hp
  obtain ⟨t, ht⟩ := Nat.exists_eq_add_of_le hle
  rw [ht, Nat.add_mul] at key
  have hrt : r = t * 2 ^ s := by omega
  have htl : t < y := by
    rw [hrt, hY] at hr
    exact Nat.lt_of_mul_lt_mul_right hr
  rw [ht, hrt, Nat.mul_div_cancel _ hp, Nat.mul_comm _ y]
  refine ⟨?_, ?_⟩
  · rw [Nat.mul_add_div hy, Nat.div_eq_of_lt htl, Nat.add_zero]
  · rw [Nat.mul_add_mod, Nat.mod_eq_of_lt htl]
theorem rest_val (U T Q Y u2 : Nat) (h : U * 4294967296 + T = Q * Y + u2) (h2 : u2 < 18446744073709551616) :
    IntKind.u64.wrap (IntKind.u64.wrap (IntKind.u64.wrap ((U : Int) * 4294967296) + (T : Int)) - IntKind.u64.wrap ((Q : Int) * (Y : Int))) = (u2 : Int) := by
  rw [show (Q : Int) * (Y : Int) = ((Q * Y : Nat) : Int) from by simp, IntKind.wrap_u64, IntKind.wrap_u64, IntKind.wrap_u64, IntKind.wrap_u64]
  generalize Q * Y = m at *
  omega
theorem both_val (Q1 Q0 z : Nat) (h1 : Q1 < 4294967296) (h0 : Q0 < 4294967296) (hz : z = Q1 * 4294967296 + Q0) : IntKind.u64.wrap (IntKind.u64.wrap ((Q1 : Int) * 4294967296) + (Q0 : Int)) = (z : Int) := by
  rw [IntKind.wrap_u64, IntKind.wrap_u64]
  omega
theorem Dg.u2 {Y A B u d u2 : Nat} (h : Dg Y A B u d) (hu : u2 = u * 4294967296 + d - dgQ Y u d * Y) : u * 4294967296 + d = dgQ Y u d * Y + u2 ∧ u2 < Y := by
  obtain ⟨h1, h2⟩ := h.rest
  rw [hu]
  refine ⟨?_, h2⟩
  generalize dgQ Y u d * Y = m at *
  omega
end
section
theorem div64_zero (lo y : Nat) (h1 : 0 < y) (h2 : y < 18446744073709551616) (h3 : lo < 18446744073709551616) (w : World) :
    Calls Tryz.prog 130 #[.int .u64 0, .int .u64 lo, .int .u64 y] w fun e w' => e = .returned (.tuple #[.int .u64 ((lo / y : Nat) : Int), .int .u64 ((lo % y : Nat) : Int)]) ∧ Below w.heap.size w w' := by
  have g1 : ((y : Int) == 0) = false := by simp; omega
  have g2 : decide ((y : Int) ≤ 0) = false := by simp; omega
  have gy : (y : Int) ≠ 0 := by omega
  have g3 : IntKind.u64.wrap ((lo : Int) / (y : Int)) = ((lo / y : Nat) : Int) := by
    rw [show (lo : Int) / (y : Int) = ((lo / y : Nat) : Int) from by simp, IntKind.wrap_u64]
    have := Nat.div_le_self lo y
    generalize lo / y = z at *
    omega
  go_enter Tryz.func130, Tryz.ntmps130
  go_wp2_with fail
  go_quiet (fail)
  go_wp2
  go_ret2
  refine ⟨?_, below_drewN (Below.refl _ _) _⟩
  simp
theorem div64_pos (N hi lo y : Nat) (hNN : N = hi * 18446744073709551616 + lo) (h1 : hi < y) (h2 : y < 18446744073709551616) (h3 : lo < 18446744073709551616) (h0 : 0 < hi) (w : World) :
    Calls Tryz.prog 130 #[.int .u64 hi, .int .u64 lo, .int .u64 y] w fun e w' => e = .returned (.tuple #[.int .u64 ((N / y : Nat) : Int), .int .u64 ((N % y : Nat) : Int)]) ∧ Below w.heap.size w w' := by
  have g1 : ((y : Int) == 0) = false := by simp; omega
  have g2 : decide ((y : Int) ≤ hi) = false := by simp; omega
  have g3 : ((hi : Int) == 0) = false := by simp; omega
  obtain ⟨s, Y, A, B, U, T, T1, T0, es, hs, eY, eA, eB, eU, eT, eT1, eT0, D1, l0, lY, hYs, hN⟩ := div_start N hi lo y hNN h1 h2 h3
  clear hNN
  have HN := Lib.hid hN
  have HY := Lib.hid hYs
  have hA0 : ¬ (A : Int) = 0 := by have := D1.ha; omega
  have gs : IntKind.u64.wrap (64 - (s : Int)) = 64 - (s : Int) := by rw [IntKind.wrap_u64]; omega
  have gs2 : ((64 : Int) - (s : Int)).toNat = 64 - s := by omega
  have ES := Lib.hid es
  clear hN hYs es
  obtain ⟨q0, hq0⟩ : ∃ q : Nat, q = U / A := ⟨_, rfl⟩
  obtain ⟨r0, hr0⟩ : ∃ r : Nat, r = U % A := ⟨_, rfl⟩
  have DA := D1
  have hA := DA.ha
  have hA2 := DA.ha2
  have hqa : q0 * A + r0 = U := by rw [hq0, hr0, Nat.mul_comm]; exact Nat.div_add_mod _ _
  have hr0l : r0 < A := by rw [hr0]; exact Nat.mod_lt _ (by omega)
  have hUl : U < 18446744073709551616 := by have := DA.hu; omega
  have EA := Lib.hid (show q0 * A + r0 = U ∧ dgQ Y U T1 ≤ q0 ∧ q0 ≤ 4294967297 ∧ r0 < 4294967296 from ⟨hqa, by rw [hq0]; exact DA.le, by rw [hq0]; exact DA.q2, by omega⟩)
  have g5DA : IntKind.u64.wrap ((U : Int) / (A : Int)) = (q0 : Int) := wrap_quo _ _ _ hq0 EA.out.2.2.1
  have g6DA : IntKind.u64.wrap ((U : Int) - IntKind.u64.wrap ((q0 : Int) * (A : Int))) = (r0 : Int) := wrap_rem _ _ _ _ hqa hUl
  obtain ⟨Q1, hQ⟩ : ∃ q : Nat, q = dgQ Y U T1 := ⟨_, rfl⟩
  obtain ⟨u2DA, hu2⟩ : ∃ q : Nat, q = U * 4294967296 + T1 - dgQ Y U T1 * Y := ⟨_, rfl⟩
  obtain ⟨hu3, hu4⟩ := DA.u2 hu2
  rw [← hQ] at hu3
  have g7DA := rest_val _ _ _ _ _ hu3 (by omega)
  have HQ1 := Lib.hid hQ
  have qlDA := DA.q_lt
  rw [← hQ] at qlDA
  have UUDA := Lib.hid (show U * 4294967296 + T1 = Q1 * Y + u2DA ∧ u2DA < Y from ⟨hu3, hu4⟩)
  clear hq0 hr0 hqa hr0l hUl hA hA2 hQ hu2 hu3 hu4
  obtain ⟨p0, hq0⟩ : ∃ q : Nat, q = u2DA / A := ⟨_, rfl⟩
  obtain ⟨s0, hr0⟩ : ∃ r : Nat, r = u2DA % A := ⟨_, rfl⟩
  have DB := (show Dg Y A B u2DA T0 from ⟨DA.hy, DA.hb, DA.ha, DA.ha2, UUDA.out.2, l0⟩)
  have hA := DB.ha
  have hA2 := DB.ha2
  have hqa : p0 * A + s0 = u2DA := by rw [hq0, hr0, Nat.mul_comm]; exact Nat.div_add_mod _ _
  have hr0l : s0 < A := by rw [hr0]; exact Nat.mod_lt _ (by omega)
  have hUl : u2DA < 18446744073709551616 := by have := DB.hu; omega
  have EB := Lib.hid (show p0 * A + s0 = u2DA ∧ dgQ Y u2DA T0 ≤ p0 ∧ p0 ≤ 4294967297 ∧ s0 < 4294967296 from ⟨hqa, by rw [hq0]; exact DB.le, by rw [hq0]; exact DB.q2, by omega⟩)
  have g5DB : IntKind.u64.wrap ((u2DA : Int) / (A : Int)) = (p0 : Int) := wrap_quo _ _ _ hq0 EB.out.2.2.1
  have g6DB : IntKind.u64.wrap ((u2DA : Int) - IntKind.u64.wrap ((p0 : Int) * (A : Int))) = (s0 : Int) := wrap_rem _ _ _ _ hqa hUl
  obtain ⟨Q0, hQ⟩ : ∃ q : Nat, q = dgQ Y u2DA T0 := ⟨_, rfl⟩
  obtain ⟨u2DB, hu2⟩ : ∃ q : Nat, q = u2DA * 4294967296 + T0 - dgQ Y u2DA T0 * Y := ⟨_, rfl⟩
  obtain ⟨hu3, hu4⟩ := DB.u2 hu2
  rw [← hQ] at hu3
  have g7DB := rest_val _ _ _ _ _ hu3 (by omega)
  have HQ0 := Lib.hid hQ
  have qlDB := DB.q_lt
  rw [← hQ] at qlDB
  have UUDB := Lib.hid (show u2DA * 4294967296 + T0 = Q0 * Y + u2DB ∧ u2DB < Y from ⟨hu3, hu4⟩)
  clear hq0 hr0 hqa hr0l hUl hA hA2 hQ hu2 hu3 hu4
  obtain ⟨hz1, hz2⟩ := div_end N y s Y U T1 T0 Q1 u2DA Q0 u2DB HY.out HN.out UUDA.out.1 UUDB.out.1 UUDB.out.2
  have g8 := both_val Q1 Q0 (N / y) qlDA qlDB hz1
  have g9 : (u2DB : Int) / 2 ^ s = ((N % y : Nat) : Int) := by rw [← hz2]; simp
  generalize N / y = zq at *
  generalize N % y = zr at *
  clear hz1 hz2 UUDA UUDB HN HY qlDA qlDB l0 D1
  go_enter Tryz.func130, Tryz.ntmps130
  go_wp2_with fail
  go_wp2_with fail
  refine (Tryz.bits_LeadingZeros64 y _ (by omega) (by omega)).mono ?_
  rintro e w1 ⟨rfl, rfl⟩
  rw [ES.out]
  go_upto_block 0 with fail
  go_cut [15, 16] (fun va vb wx => va = .int .u64 (Q1 : Int) ∧ (∃ r : Int, vb = .int .u64 r) ∧ wx = w1)
  case first =>
    go_wp2_with fail
    go_loopw [15, 16] (fun va vb wr => ∃ q r : Nat, va = .int .u64 q ∧ vb = .int .u64 r ∧ q * A + r = U ∧ dgQ Y U T1 ≤ q ∧ q ≤ 4294967297 ∧ r < 4294967296 ∧ wr = w1) (fun va _ _ => (intOf va).toNat)
    case atStart => exact ⟨q0, r0, rfl, rfl, EA.out.1, EA.out.2.1, EA.out.2.2.1, EA.out.2.2.2, rfl⟩
    case round =>
      obtain ⟨q, r, rfl, rfl, e, hq, hq2, hr, rfl⟩ := hrel
      have E := Lib.hid e
      have HQ := Lib.hid hq
      clear e hq
      obtain ⟨m, hm⟩ : ∃ m : Nat, m = q * B := ⟨_, rfl⟩
      obtain ⟨v, hv⟩ : ∃ v : Nat, v = 4294967296 * r := ⟨_, rfl⟩
      obtain ⟨x, hx⟩ : ∃ x : Nat, x = v + T1 := ⟨_, rfl⟩
      obtain ⟨r', hr'⟩ : ∃ r' : Nat, r' = r + A := ⟨_, rfl⟩
      have f3 : IntKind.u64.wrap (4294967296 * (r : Int)) = (v : Int) := by rw [IntKind.wrap_u64]; omega
      have f4 : IntKind.u64.wrap ((v : Int) + (T1 : Int)) = (x : Int) := by rw [IntKind.wrap_u64]; have := DA.hd; omega
      have f5 : IntKind.u64.wrap ((r : Int) + (A : Int)) = (r' : Int) := by rw [IntKind.wrap_u64]; have := DA.ha2; omega
      have HM := Lib.hid hm
      have HV := Lib.hid (show x = r * 4294967296 + T1 by omega)
      have HR := Lib.hid hr'
      clear hm hx hv hr'
      have back : ∀ (q' : Nat), q = q' + 1 → dgQ Y U T1 + 1 ≤ q → q' * A + r' = U ∧ dgQ Y U T1 ≤ q' ∧ q' ≤ 4294967296 := by
        intro q' h1 h2
        refine ⟨?_, by omega, by omega⟩
        have h3 := E.out
        rw [h1, Nat.add_mul, Nat.one_mul] at h3
        rw [HR.out]
        omega
      have BACK := Lib.hid back
      clear back
      by_cases c1 : 4294967296 ≤ q
      · have d1 : decide (4294967296 ≤ (q : Int)) = true := decide_eq_true (by omega)
        have d1' : decide (4294967296 ≤ q) = true := decide_eq_true c1
        have hmore : dgQ Y U T1 + 1 ≤ q := by have := DA.q_lt; omega
        obtain ⟨q', hq'⟩ : ∃ q' : Nat, q = q' + 1 := ⟨q - 1, by omega⟩
        have f1 : IntKind.u64.wrap ((q : Int) - 1) = (q' : Int) := by rw [IntKind.wrap_u64]; omega
        have HB := Lib.hid (BACK.out q' hq' hmore)
        have HQ' := Lib.hid hq'
        clear hq' hmore BACK HQ
        by_cases c3 : 4294967296 ≤ r'
        · have d3 : decide (4294967296 ≤ (r' : Int)) = true := decide_eq_true (by omega)
          have d3' : decide (4294967296 ≤ r') = true := decide_eq_true c3
          go_wp2
          go_meet
          case rel => exact ⟨by rw [HQ1.out, ← DA.broke HB.out.1 HB.out.2.1 HB.out.2.2 c3], (by first | exact ⟨_, rfl⟩ | exact ⟨0, trivial⟩), (by first | rfl | trivial)⟩
        · have d3 : decide (4294967296 ≤ (r' : Int)) = false := decide_eq_false (by omega)
          have d3' : decide (4294967296 ≤ r') = false := decide_eq_false c3
          go_wp2
          go_roundw
          case rel => exact ⟨q', r', rfl, rfl, HB.out.1, HB.out.2.1, by have := HB.out.2.2; omega, by omega, (by first | rfl | trivial)⟩
          case measure => have := HQ'.out; simp [intOf]; omega
      · have d1 : decide (4294967296 ≤ (q : Int)) = false := decide_eq_false (by omega)
        have d1' : decide (4294967296 ≤ q) = false := decide_eq_false c1
        have hmlt : m < 18446744073709551616 := by
          rw [HM.out]
          have : q * B ≤ 4294967295 * 4294967295 := Nat.mul_le_mul (by omega) (by have := DA.hb; omega)
          omega
        have f2 : IntKind.u64.wrap ((q : Int) * (B : Int)) = (m : Int) := wrap_mul _ _ _ HM.out hmlt
        by_cases c2 : x < m
        · have d2 : decide ((x : Int) < (m : Int)) = true := decide_eq_true (by omega)
          have d2' : decide (x < m) = true := decide_eq_true c2
          have hmore : dgQ Y U T1 + 1 ≤ q := DA.more E.out (by have := HV.out; have := HM.out; omega)
          obtain ⟨q', hq'⟩ : ∃ q' : Nat, q = q' + 1 := ⟨q - 1, by omega⟩
          have f1 : IntKind.u64.wrap ((q : Int) - 1) = (q' : Int) := by rw [IntKind.wrap_u64]; omega
          have HB := Lib.hid (BACK.out q' hq' hmore)
          have HQ' := Lib.hid hq'
          clear hq' hmore BACK HQ
          by_cases c3 : 4294967296 ≤ r'
          · have d3 : decide (4294967296 ≤ (r' : Int)) = true := decide_eq_true (by omega)
            have d3' : decide (4294967296 ≤ r') = true := decide_eq_true c3
            go_wp2
            go_meet
            case rel => exact ⟨by rw [HQ1.out, ← DA.broke HB.out.1 HB.out.2.1 HB.out.2.2 c3], (by first | exact ⟨_, rfl⟩ | exact ⟨0, trivial⟩), (by first | rfl | trivial)⟩
          · have d3 : decide (4294967296 ≤ (r' : Int)) = false := decide_eq_false (by omega)
            have d3' : decide (4294967296 ≤ r') = false := decide_eq_false c3
            go_wp2
            go_roundw
            case rel => exact ⟨q', r', rfl, rfl, HB.out.1, HB.out.2.1, by have := HB.out.2.2; omega, by omega, (by first | rfl | trivial)⟩
            case measure => have := HQ'.out; simp [intOf]; omega
        · have d2 : decide ((x : Int) < (m : Int)) = false := decide_eq_false (by omega)
          have d2' : decide (x < m) = false := decide_eq_false c2
          have hdone := DA.done E.out HQ.out (by have := HV.out; have := HM.out; omega)
          have HD := Lib.hid hdone
          clear hdone BACK
          go_wp2
          go_meet
          case rel => exact ⟨by rw [HQ1.out, ← HD.out], (by first | exact ⟨_, rfl⟩ | exact ⟨0, trivial⟩), (by first | rfl | trivial)⟩
  case rest =>
    obtain ⟨rfl, ⟨rr, rfl⟩, hw⟩ := hcut
    have hw := hw.symm
    subst hw
    go_upto_block 2 with fail
    go_cut [18, 16] (fun va vb wx => va = .int .u64 (Q0 : Int) ∧ (∃ r : Int, vb = .int .u64 r) ∧ wx = w1)
    case first =>
      go_wp2_with fail
      go_loopw [18, 16] (fun va vb wr => ∃ q r : Nat, va = .int .u64 q ∧ vb = .int .u64 r ∧ q * A + r = u2DA ∧ dgQ Y u2DA T0 ≤ q ∧ q ≤ 4294967297 ∧ r < 4294967296 ∧ wr = w1) (fun va _ _ => (intOf va).toNat)
      case atStart => exact ⟨p0, s0, rfl, rfl, EB.out.1, EB.out.2.1, EB.out.2.2.1, EB.out.2.2.2, rfl⟩
      case round =>
        obtain ⟨q, r, rfl, rfl, e, hq, hq2, hr, rfl⟩ := hrel
        have E := Lib.hid e
        have HQ := Lib.hid hq
        clear e hq
        obtain ⟨m, hm⟩ : ∃ m : Nat, m = q * B := ⟨_, rfl⟩
        obtain ⟨v, hv⟩ : ∃ v : Nat, v = 4294967296 * r := ⟨_, rfl⟩
        obtain ⟨x, hx⟩ : ∃ x : Nat, x = v + T0 := ⟨_, rfl⟩
        obtain ⟨r', hr'⟩ : ∃ r' : Nat, r' = r + A := ⟨_, rfl⟩
        have f3 : IntKind.u64.wrap (4294967296 * (r : Int)) = (v : Int) := by rw [IntKind.wrap_u64]; omega
        have f4 : IntKind.u64.wrap ((v : Int) + (T0 : Int)) = (x : Int) := by rw [IntKind.wrap_u64]; have := DB.hd; omega
        have f5 : IntKind.u64.wrap ((r : Int) + (A : Int)) = (r' : Int) := by rw [IntKind.wrap_u64]; have := DB.ha2; omega
        have HM := Lib.hid hm
        have HV := Lib.hid (show x = r * 4294967296 + T0 by omega)
        have HR := Lib.hid hr'
        clear hm hx hv hr'
        have back : ∀ (q' : Nat), q = q' + 1 → dgQ Y u2DA T0 + 1 ≤ q → q' * A + r' = u2DA ∧ dgQ Y u2DA T0 ≤ q' ∧ q' ≤ 4294967296 := by
          intro q' h1 h2
          refine ⟨?_, by omega, by omega⟩
          have h3 := E.out
          rw [h1, Nat.add_mul, Nat.one_mul] at h3
          rw [HR.out]
          omega
        have BACK := Lib.hid back
        clear back
        by_cases c1 : 4294967296 ≤ q
        · have d1 : decide (4294967296 ≤ (q : Int)) = true := decide_eq_true (by omega)
          have d1' : decide (4294967296 ≤ q) = true := decide_eq_true c1
          have hmore : dgQ Y u2DA T0 + 1 ≤ q := by have := DB.q_lt; omega
          obtain ⟨q', hq'⟩ : ∃ q' : Nat, q = q' + 1 := ⟨q - 1, by omega⟩
          have f1 : IntKind.u64.wrap ((q : Int) - 1) = (q' : Int) := by rw [IntKind.wrap_u64]; omega
          have HB := Lib.hid (BACK.out q' hq' hmore)
          have HQ' := Lib.hid hq'
          clear hq' hmore BACK HQ
          by_cases c3 : 4294967296 ≤ r'
          · have d3 : decide (4294967296 ≤ (r' : Int)) = true := decide_eq_true (by omega)
            have d3' : decide (4294967296 ≤ r') = true := decide_eq_true c3
            go_wp2
            go_meet
            case rel => exact ⟨by rw [HQ0.out, ← DB.broke HB.out.1 HB.out.2.1 HB.out.2.2 c3], (by first | exact ⟨_, rfl⟩ | exact ⟨0, trivial⟩), (by first | rfl | trivial)⟩
          · have d3 : decide (4294967296 ≤ (r' : Int)) = false := decide_eq_false (by omega)
            have d3' : decide (4294967296 ≤ r') = false := decide_eq_false c3
            go_wp2
            go_roundw
            case rel => exact ⟨q', r', rfl, rfl, HB.out.1, HB.out.2.1, by have := HB.out.2.2; omega, by omega, (by first | rfl | trivial)⟩
            case measure => have := HQ'.out; simp [intOf]; omega
        · have d1 : decide (4294967296 ≤ (q : Int)) = false := decide_eq_false (by omega)
          have d1' : decide (4294967296 ≤ q) = false := decide_eq_false c1
          have hmlt : m < 18446744073709551616 := by
            rw [HM.out]
            have : q * B ≤ 4294967295 * 4294967295 := Nat.mul_le_mul (by omega) (by have := DB.hb; omega)
            omega
          have f2 : IntKind.u64.wrap ((q : Int) * (B : Int)) = (m : Int) := wrap_mul _ _ _ HM.out hmlt
          by_cases c2 : x < m
          · have d2 : decide ((x : Int) < (m : Int)) = true := decide_eq_true (by omega)
            have d2' : decide (x < m) = true := decide_eq_true c2
            have hmore : dgQ Y u2DA T0 + 1 ≤ q := DB.more E.out (by have := HV.out; have := HM.out; omega)
            obtain ⟨q', hq'⟩ : ∃ q' : Nat, q = q' + 1 := ⟨q - 1, by omega⟩
            have f1 : IntKind.u64.wrap ((q : Int) - 1) = (q' : Int) := by rw [IntKind.wrap_u64]; omega
            have HB := Lib.hid (BACK.out q' hq' hmore)
            have HQ' := Lib.hid hq'
            clear hq' hmore BACK HQ
            by_cases c3 : 4294967296 ≤ r'
            · have d3 : decide (4294967296 ≤ (r' : Int)) = true := decide_eq_true (by omega)
              have d3' : decide (4294967296 ≤ r') = true := decide_eq_true c3
              go_wp2
              go_meet
              case rel => exact ⟨by rw [HQ0.out, ← DB.broke HB.out.1 HB.out.2.1 HB.out.2.2 c3], (by first | exact ⟨_, rfl⟩ | exact ⟨0, trivial⟩), (by first | rfl | trivial)⟩
            · have d3 : decide (4294967296 ≤ (r' : Int)) = false := decide_eq_false (by omega)
              have d3' : decide (4294967296 ≤ r') = false := decide_eq_false c3
              go_wp2
              go_roundw
              case rel => exact ⟨q', r', rfl, rfl, HB.out.1, HB.out.2.1, by have := HB.out.2.2; omega, by omega, (by first | rfl | trivial)⟩
              case measure => have := HQ'.out; simp [intOf]; omega
          · have d2 : decide ((x : Int) < (m : Int)) = false := decide_eq_false (by omega)
            have d2' : decide (x < m) = false := decide_eq_false c2
            have hdone := DB.done E.out HQ.out (by have := HV.out; have := HM.out; omega)
            have HD := Lib.hid hdone
            clear hdone BACK
            go_wp2
            go_meet
            case rel => exact ⟨by rw [HQ0.out, ← HD.out], (by first | exact ⟨_, rfl⟩ | exact ⟨0, trivial⟩), (by first | rfl | trivial)⟩
    case rest =>
      obtain ⟨rfl, ⟨rr2, rfl⟩, hw⟩ := hcut
      have hw := hw.symm
      subst hw
      go_wp2
      go_ret2
      refine ⟨?_, Below.refl _ _⟩
      simp
end
end Go.Proofs.YtmjndpkfhdoljaaGreat
