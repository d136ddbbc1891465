/-
  Division by 64 bits: the mathematics of Div64's two digits.
-/
import Derived.Test.YtfagpdnckmaomaaWide6
import Derived.Lib.ItoaNum
namespace Go.Proofs.Ytfagpdnckmaomaa
open Go.ChangeShapes Go.WideShapes Go.ChangeAt Go.RowKit
set_option linter.unusedVariables false
set_option linter.unusedSimpArgs false

/-- one digit: Y = A * 2^32 + B is the divisor, u * 2^32 + d what is divided -/
structure Dg (Y A B u d : Nat) : Prop where
  hy : Y = A * 4294967296 + B
  hb : B < 4294967296
  ha : 2147483648 ≤ A
  ha2 : A < 4294967296
  hu : u < Y
  hd : d < 4294967296

theorem lin_lt (qa qb r d M : Nat) (hc : r * M + d < qb) : (qa + r) * M + d < qa * M + qb := by rw [Nat.add_mul]; omega
theorem lin_le (qa qb r d M : Nat) (hc : qb ≤ r * M + d) : qa * M + qb ≤ (qa + r) * M + d := by rw [Nat.add_mul]; omega
theorem lin_end (M q1 Y u2 d0 q0 r : Nat) (e0 : u2 * M + d0 = q0 * Y + r) : (q1 * Y + u2) * M + d0 = (q1 * M + q0) * Y + r := by
  rw [Nat.add_mul, Nat.add_mul, Nat.mul_right_comm q1 M Y]
  generalize q1 * Y * M = a at *
  omega
section digit
variable {Y A B u d : Nat}
def dgQ (Y u d : Nat) : Nat := (u * 4294967296 + d) / Y

theorem Dg.pos (h : Dg Y A B u d) : 0 < Y := by have := h.hu; omega
theorem Dg.q_lt (h : Dg Y A B u d) : dgQ Y u d < 4294967296 := by
  unfold dgQ
  rw [Nat.div_lt_iff_lt_mul h.pos]
  have := h.hu; have := h.hd
  omega
theorem Dg.le (h : Dg Y A B u d) : dgQ Y u d ≤ u / A := by
  have hA : 0 < A := by have := h.ha; omega
  rw [Nat.le_div_iff_mul_le hA]
  have h1 : dgQ Y u d * Y ≤ u * 4294967296 + d := Nat.div_mul_le_self _ _
  have h2 : dgQ Y u d * (A * 4294967296) ≤ dgQ Y u d * Y := Nat.mul_le_mul_left _ (by have := h.hy; omega)
  have h3 : dgQ Y u d * (A * 4294967296) = dgQ Y u d * A * 4294967296 := by rw [Nat.mul_assoc]
  have := h.hd
  omega
theorem Dg.q2 (h : Dg Y A B u d) : u / A ≤ 4294967297 := by
  have hA : 0 < A := by have := h.ha; omega
  have : u / A < 4294967298 := by
    rw [Nat.div_lt_iff_lt_mul hA]
    have := h.hu; have := h.hy; have := h.hb; have := h.ha
    omega
  omega
theorem Dg.more (h : Dg Y A B u d) {q r : Nat} (e : q * A + r = u) (hc : r * 4294967296 + d < q * B) : dgQ Y u d + 1 ≤ q := by
  have : dgQ Y u d < q := by
    unfold dgQ
    have e2 : q * Y = q * A * 4294967296 + q * B := by rw [h.hy, Nat.mul_add q (A * 4294967296) B, Nat.mul_assoc q A 4294967296]
    rw [Nat.div_lt_iff_lt_mul h.pos, e2]
    subst e
    exact lin_lt _ _ _ _ _ hc
  omega
theorem Dg.done (h : Dg Y A B u d) {q r : Nat} (e : q * A + r = u) (hq : dgQ Y u d ≤ q) (hc : q * B ≤ r * 4294967296 + d) : q = dgQ Y u d := by
  have : q ≤ dgQ Y u d := by
    clear hq
    unfold dgQ
    have e2 : q * Y = q * A * 4294967296 + q * B := by rw [h.hy, Nat.mul_add q (A * 4294967296) B, Nat.mul_assoc q A 4294967296]
    rw [Nat.le_div_iff_mul_le h.pos, e2]
    subst e
    exact lin_le _ _ _ _ _ hc
  omega
theorem Dg.broke (h : Dg Y A B u d) {q r : Nat} (e : q * A + r = u) (hq : dgQ Y u d ≤ q) (h2 : q ≤ 4294967296) (hr : 4294967296 ≤ r) : q = dgQ Y u d := by
  refine h.done e hq ?_
  have : q * B ≤ 4294967296 * 4294967295 := Nat.mul_le_mul h2 (by have := h.hb; omega)
  omega
/-- what is left behind a digit -/
theorem Dg.rest (h : Dg Y A B u d) : dgQ Y u d * Y ≤ u * 4294967296 + d ∧ u * 4294967296 + d - dgQ Y u d * Y < Y := by
  have h1 : dgQ Y u d * Y ≤ u * 4294967296 + d := Nat.div_mul_le_self _ _
  refine ⟨h1, ?_⟩
  have h2 : Y * dgQ Y u d + (u * 4294967296 + d) % Y = u * 4294967296 + d := Nat.div_add_mod _ _
  have h3 : (u * 4294967296 + d) % Y < Y := Nat.mod_lt _ h.pos
  rw [Nat.mul_comm] at h2
  omega

end digit
/-- what u64's arithmetic makes of a digit's rest -/
theorem wrap_rest (p d m : Nat) (h : m ≤ p + d) (h2 : p + d - m < 18446744073709551616) :
    IntKind.u64.wrap (IntKind.u64.wrap (IntKind.u64.wrap (p : Int) + (d : Int)) - IntKind.u64.wrap (m : Int)) = ((p + d - m : Nat) : Int) := by
  rw [IntKind.wrap_u64, IntKind.wrap_u64, IntKind.wrap_u64, IntKind.wrap_u64]
  omega

theorem wrap_quo (u a q : Nat) (hq : q = u / a) (h : q ≤ 4294967297) : IntKind.u64.wrap ((u : Int) / (a : Int)) = (q : Int) := by
  rw [show (u : Int) / (a : Int) = ((u / a : Nat) : Int) from by simp, ← hq, IntKind.wrap_u64]
  omega
theorem wrap_rem (u a q r : Nat) (h : q * a + r = u) (hu : u < 18446744073709551616) : IntKind.u64.wrap ((u : Int) - IntKind.u64.wrap ((q : Int) * (a : Int))) = (r : Int) := by
  rw [show (q : Int) * (a : Int) = ((q * a : Nat) : Int) from by simp, IntKind.wrap_u64, IntKind.wrap_u64]
  generalize q * a = m at *
  omega
theorem wrap_mul (q b m : Nat) (hm : m = q * b) (h : m < 18446744073709551616) : IntKind.u64.wrap ((q : Int) * (b : Int)) = (m : Int) := by
  rw [show (q : Int) * (b : Int) = ((q * b : Nat) : Int) from by simp, ← hm, IntKind.wrap_u64]
  omega
/-- the numbers that Div64 begins with -/
theorem div_start (N hi lo y : Nat) (hNN : N = hi * 18446744073709551616 + lo) (h1 : hi < y) (h2 : y < 18446744073709551616) (h3 : lo < 18446744073709551616) :
    ∃ s Y A B U T T1 T0 : Nat, (64 - (Lib.bitLen (y : Int).toNat : Int)) = (s : Int) ∧ s ≤ 63 ∧ IntKind.u64.wrap ((y : Int) * 2 ^ s) = (Y : Int) ∧ (Y : Int) / 4294967296 = (A : Int) ∧
      bits .and .u64 (Y : Int) 4294967295 = (B : Int) ∧ bits .or .u64 (IntKind.u64.wrap ((hi : Int) * 2 ^ s)) ((lo : Int) / 2 ^ (64 - s)) = (U : Int) ∧
      IntKind.u64.wrap ((lo : Int) * 2 ^ s) = (T : Int) ∧ (T : Int) / 4294967296 = (T1 : Int) ∧ bits .and .u64 (T : Int) 4294967295 = (T0 : Int) ∧
      Dg Y A B U T1 ∧ T0 < 4294967296 ∧ Y < 18446744073709551616 ∧ Y = y * 2 ^ s ∧ N * 2 ^ s = (U * 4294967296 + T1) * 4294967296 + T0 := by
  have hy0 : y ≠ 0 := by clear hNN; omega
  obtain ⟨b1, b2, b3⟩ := Lib.bitLenAux_bounds 64 y (by omega) hy0
  have hbl : Lib.bitLen y = Lib.bitLenAux 64 y := rfl
  rw [← hbl] at b1 b2 b3
  have b4 : Lib.bitLen y ≤ 64 := Lib.bitLen_le y 64 (by omega) (by omega)
  generalize hb : Lib.bitLen y = bl at *
  obtain ⟨s, hs⟩ : ∃ s, s = 64 - bl := ⟨_, rfl⟩
  have hpow : 2 ^ (64 - s) * 2 ^ s = 18446744073709551616 := by
    rw [← Nat.pow_add, show 64 - s + s = 64 from by omega]
  have hYlt : y * 2 ^ s < 18446744073709551616 := by
    rw [← hpow]
    exact Nat.mul_lt_mul_of_pos_right (by rw [show 64 - s = bl from by omega]; exact b3) (Nat.two_pow_pos s)
  have hYge : 9223372036854775808 ≤ y * 2 ^ s := by
    have h5 : 2 ^ (bl - 1) * 2 ^ s ≤ y * 2 ^ s := Nat.mul_le_mul_right _ b2
    rw [← Nat.pow_add, show bl - 1 + s = 63 from by omega] at h5
    exact h5
  have hHlt : hi * 2 ^ s + 2 ^ s ≤ y * 2 ^ s := by
    have := Nat.mul_le_mul_right (2 ^ s) (show hi + 1 ≤ y by omega)
    rwa [Nat.add_mul, Nat.one_mul] at this
  have hLlt : lo / 2 ^ (64 - s) < 2 ^ s := by
    rw [Nat.div_lt_iff_lt_mul (Nat.two_pow_pos _), Nat.mul_comm, hpow]
    exact h3
  have hlo : lo * 2 ^ s = lo / 2 ^ (64 - s) * 18446744073709551616 + lo % 2 ^ (64 - s) * 2 ^ s := by
    conv => lhs; rw [← Nat.div_add_mod lo (2 ^ (64 - s))]
    rw [Nat.add_mul, Nat.mul_comm (2 ^ (64 - s)), Nat.mul_assoc, hpow]
  have hTlt : lo % 2 ^ (64 - s) * 2 ^ s < 18446744073709551616 := by
    rw [← hpow]
    exact Nat.mul_lt_mul_of_pos_right (Nat.mod_lt _ (Nat.two_pow_pos _)) (Nat.two_pow_pos s)
  have c1 : ((y : Int) * 2 ^ s) = ((y * 2 ^ s : Nat) : Int) := by simp
  have c2 : ((hi : Int) * 2 ^ s) = ((hi * 2 ^ s : Nat) : Int) := by simp
  have c3 : ((lo : Int) * 2 ^ s) = ((lo * 2 ^ s : Nat) : Int) := by simp
  have c4 : ((lo : Int) / 2 ^ (64 - s)) = ((lo / 2 ^ (64 - s) : Nat) : Int) := by simp
  have hor : hi * 2 ^ s ||| lo / 2 ^ (64 - s) = hi * 2 ^ s + lo / 2 ^ (64 - s) := nat_join s _ _ (Nat.mul_mod_left _ _) hLlt
  have hN : (hi * 18446744073709551616 + lo) * 2 ^ s = (hi * 2 ^ s + lo / 2 ^ (64 - s)) * 18446744073709551616 + lo % 2 ^ (64 - s) * 2 ^ s := by
    rw [Nat.add_mul, hlo, Nat.mul_assoc, Nat.mul_comm 18446744073709551616 (2 ^ s), ← Nat.mul_assoc]
    omega
  refine ⟨s, y * 2 ^ s, y * 2 ^ s / 4294967296, y * 2 ^ s % 4294967296, hi * 2 ^ s + lo / 2 ^ (64 - s), lo % 2 ^ (64 - s) * 2 ^ s, lo % 2 ^ (64 - s) * 2 ^ s / 4294967296, lo % 2 ^ (64 - s) * 2 ^ s % 4294967296, ?_, by omega, ?_, ?_, ?_, ?_, ?_, ?_, ?_, ⟨by omega, by omega, by omega, by omega, ?_, by omega⟩, by omega, hYlt, rfl, ?_⟩
  · rw [Int.toNat_natCast, hb]; omega
  · rw [c1, IntKind.wrap_u64]; omega
  · omega
  · rw [show (4294967295 : Int) = ((4294967295 : Nat) : Int) from rfl, u64_and_nat _ _ hYlt (by omega)]
    exact congrArg _ (Nat.and_two_pow_sub_one_eq_mod _ 32)
  · rw [c2, c4, IntKind.wrap_u64, show ((hi * 2 ^ s : Nat) : Int) % 18446744073709551616 = ((hi * 2 ^ s : Nat) : Int) from by omega, u64_or_nat _ _ (by omega) (by omega), hor]
  · rw [c3, IntKind.wrap_u64, hlo]; omega
  · omega
  · rw [show (4294967295 : Int) = ((4294967295 : Nat) : Int) from rfl, u64_and_nat _ _ hTlt (by omega)]
    exact congrArg _ (Nat.and_two_pow_sub_one_eq_mod _ 32)
  · omega
  · rw [hNN, hN]; omega

/-- what both digits make -/
theorem div_end (N y s Y u d1 d0 q1 u2 q0 r : Nat) (hY : Y = y * 2 ^ s) (hN : N * 2 ^ s = (u * 4294967296 + d1) * 4294967296 + d0) (e1 : u * 4294967296 + d1 = q1 * Y + u2)
    (e0 : u2 * 4294967296 + d0 = q0 * Y + r) (hr : r < Y) : N / y = q1 * 4294967296 + q0 ∧ r / 2 ^ s = N % y := by
  have hp := Nat.two_pow_pos s
  have hy : 0 < y := by
    rcases Nat.eq_zero_or_pos y with h | h
    · rw [h, Nat.zero_mul] at hY; omega
    · exact h
  have key : N * 2 ^ s = (q1 * 4294967296 + q0) * Y + r := by
    rw [hN, e1]
    exact lin_end _ _ _ _ _ _ _ e0
  rw [hY, ← Nat.mul_assoc] at key
  have hle : (q1 * 4294967296 + q0) * y ≤ N := by
    have h5 : (q1 * 4294967296 + q0) * y * 2 ^ s ≤ N * 2 ^ s := by omega
    exact Nat.le_of_mul_le_mul_right h5 hp
  obtain ⟨t, ht⟩ := Nat.exists_eq_add_of_le hle
  rw [ht, Nat.add_mul] at key
  have hrt : r = t * 2 ^ s := by omega
  have htl : t < y := by
    rw [hrt, hY] at hr
    exact Nat.lt_of_mul_lt_mul_right hr
  rw [ht, hrt, Nat.mul_div_cancel _ hp, Nat.mul_comm _ y]
  refine ⟨?_, ?_⟩
  · rw [Nat.mul_add_div hy, Nat.div_eq_of_lt htl, Nat.add_zero]
  · rw [Nat.mul_add_mod, Nat.mod_eq_of_lt htl]
theorem rest_val (U T Q Y u2 : Nat) (h : U * 4294967296 + T = Q * Y + u2) (h2 : u2 < 18446744073709551616) :
    IntKind.u64.wrap (IntKind.u64.wrap (IntKind.u64.wrap ((U : Int) * 4294967296) + (T : Int)) - IntKind.u64.wrap ((Q : Int) * (Y : Int))) = (u2 : Int) := by
  rw [show (Q : Int) * (Y : Int) = ((Q * Y : Nat) : Int) from by simp, IntKind.wrap_u64, IntKind.wrap_u64, IntKind.wrap_u64, IntKind.wrap_u64]
  generalize Q * Y = m at *
  omega
theorem both_val (Q1 Q0 z : Nat) (h1 : Q1 < 4294967296) (h0 : Q0 < 4294967296) (hz : z = Q1 * 4294967296 + Q0) : IntKind.u64.wrap (IntKind.u64.wrap ((Q1 : Int) * 4294967296) + (Q0 : Int)) = (z : Int) := by
  rw [IntKind.wrap_u64, IntKind.wrap_u64]
  omega
theorem Dg.u2 {Y A B u d u2 : Nat} (h : Dg Y A B u d) (hu : u2 = u * 4294967296 + d - dgQ Y u d * Y) : u * 4294967296 + d = dgQ Y u d * Y + u2 ∧ u2 < Y := by
  obtain ⟨h1, h2⟩ := h.rest
  rw [hu]
  refine ⟨?_, h2⟩
  generalize dgQ Y u d * Y = m at *
  omega
end Go.Proofs.Ytfagpdnckmaomaa
