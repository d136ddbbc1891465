import Derived.IntWalk
import Derived.Laws.Bits64
import Derived.Laws.BitsAllLaws
import Derived.Laws.Externs
section
namespace Go.Proofs.Ytahdmomadbbhoaa
set_option linter.unusedVariables false

def hiN (x : Int) : Int := IntKind.i64.wrap (x / 18446744073709551616)
def loN (x : Int) : Int := x % 18446744073709551616
def topN (x : Int) : Int := IntKind.i64.wrap (x / 340282366920938463463374607431768211456)
def In128 (x : Int) : Prop := -170141183460469231731687303715884105728 ≤ x ∧ x ≤ 170141183460469231731687303715884105727
def In64 (x : Int) : Prop := -9223372036854775808 ≤ x ∧ x ≤ 9223372036854775807
def In192 (x : Int) : Prop := -3138550867693340381917894711603833208051177722232017256448 ≤ x ∧ x < 3138550867693340381917894711603833208051177722232017256448
instance (x : Int) : Decidable (In128 x) := by unfold In128; infer_instance
instance (x : Int) : Decidable (In64 x) := by unfold In64; infer_instance
theorem lo_nn (x : Int) : 0 ≤ loN x := by unfold loN; omega
theorem lo_lt (x : Int) : loN x < 18446744073709551616 := by unfold loN; omega
theorem uwrap_rng (x : Int) : 0 ≤ IntKind.u64.wrap x ∧ IntKind.u64.wrap x < 18446744073709551616 := by rw [IntKind.wrap_u64]; omega
theorem uhi (x : Int) : IntKind.u64.wrap (hiN x) = x / 18446744073709551616 % 18446744073709551616 := by
  unfold hiN
  rw [IntKind.wrap_i64, IntKind.wrap_u64]
  omega
theorem utop (x : Int) : IntKind.u64.wrap (topN x) = x / 340282366920938463463374607431768211456 % 18446744073709551616 := by
  unfold topN
  rw [IntKind.wrap_i64, IntKind.wrap_u64]
  omega
theorem plus_parts (x y s0 k0 s1 k1 s2 k2 : Int)
    (h0 : loN x + loN y + 0 = s0 + 18446744073709551616 * k0) (b0 : 0 ≤ s0 ∧ s0 < 18446744073709551616)
    (h1 : IntKind.u64.wrap (hiN x) + IntKind.u64.wrap (hiN y) + k0 = s1 + 18446744073709551616 * k1) (b1 : 0 ≤ s1 ∧ s1 < 18446744073709551616)
    (h2 : IntKind.u64.wrap (topN x) + IntKind.u64.wrap (topN y) + k1 = s2 + 18446744073709551616 * k2) (b2 : 0 ≤ s2 ∧ s2 < 18446744073709551616) :
    s0 = loN (x + y) ∧ IntKind.i64.wrap s1 = hiN (x + y) ∧ IntKind.i64.wrap s2 = topN (x + y) := by
  rw [uhi, uhi] at h1
  rw [utop, utop] at h2
  unfold loN at *
  unfold hiN topN
  have e0 : s0 = (x + y) % 18446744073709551616 := by omega
  have q0 : (x + y) / 18446744073709551616 = x / 18446744073709551616 + y / 18446744073709551616 + k0 := by omega
  have dx : x / 340282366920938463463374607431768211456 = x / 18446744073709551616 / 18446744073709551616 := by omega
  have dy : y / 340282366920938463463374607431768211456 = y / 18446744073709551616 / 18446744073709551616 := by omega
  have dz : (x + y) / 340282366920938463463374607431768211456 = (x + y) / 18446744073709551616 / 18446744073709551616 := by omega
  rw [dx, dy] at h2
  rw [dz, q0]
  generalize x / 18446744073709551616 = a at *
  generalize y / 18446744073709551616 = b at *
  have e1 : s1 = (a + b + k0) % 18446744073709551616 := by omega
  have q1 : (a + b + k0) / 18446744073709551616 = a / 18446744073709551616 + b / 18446744073709551616 + k1 := by omega
  refine ⟨e0, ?_, ?_⟩
  · rw [IntKind.wrap_i64, IntKind.wrap_i64, e1]; omega
  · rw [q1, IntKind.wrap_i64, IntKind.wrap_i64]
    have e2 : s2 = (a / 18446744073709551616 + b / 18446744073709551616 + k1) % 18446744073709551616 := by omega
    rw [e2]; omega
theorem minus_parts (x s0 k0 s1 k1 s2 k2 : Int)
    (h0 : 0 - loN x - 0 = s0 - 18446744073709551616 * k0) (b0 : 0 ≤ s0 ∧ s0 < 18446744073709551616)
    (h1 : 0 - IntKind.u64.wrap (hiN x) - k0 = s1 - 18446744073709551616 * k1) (b1 : 0 ≤ s1 ∧ s1 < 18446744073709551616)
    (h2 : 0 - IntKind.u64.wrap (topN x) - k1 = s2 - 18446744073709551616 * k2) (b2 : 0 ≤ s2 ∧ s2 < 18446744073709551616) :
    s0 = loN (-x) ∧ IntKind.i64.wrap s1 = hiN (-x) ∧ IntKind.i64.wrap s2 = topN (-x) := by
  rw [uhi] at h1
  rw [utop] at h2
  unfold loN at *
  unfold hiN topN
  have e0 : s0 = (-x) % 18446744073709551616 := by omega
  have q0 : (-x) / 18446744073709551616 = -(x / 18446744073709551616) - k0 := by omega
  have dx : x / 340282366920938463463374607431768211456 = x / 18446744073709551616 / 18446744073709551616 := by omega
  have dz : (-x) / 340282366920938463463374607431768211456 = (-x) / 18446744073709551616 / 18446744073709551616 := by omega
  rw [dx] at h2
  rw [dz, q0]
  generalize x / 18446744073709551616 = a at *
  have e1 : s1 = (-a - k0) % 18446744073709551616 := by omega
  have q1 : (-a - k0) / 18446744073709551616 = -(a / 18446744073709551616) - k1 := by omega
  refine ⟨e0, ?_, ?_⟩
  · rw [IntKind.wrap_i64, IntKind.wrap_i64, e1]; omega
  · rw [q1, IntKind.wrap_i64, IntKind.wrap_i64]
    have e2 : s2 = (-(a / 18446744073709551616) - k1) % 18446744073709551616 := by omega
    rw [e2]; omega
theorem hi_in {x : Int} (h : In128 x) : hiN x = x / 18446744073709551616 := by
  unfold hiN In128 at *
  rw [IntKind.wrap_i64]; omega
theorem top_in {x : Int} (h : In128 x) : topN x = hiN x / 9223372036854775808 := by
  rw [hi_in h]
  unfold topN In128 at *
  rw [IntKind.wrap_i64]; omega
theorem split_in {x : Int} (h : In128 x) : x = hiN x * 18446744073709551616 + loN x := by
  rw [hi_in h]; unfold loN; omega
theorem narrow_iff {x : Int} (h : In192 x) : topN x = hiN x / 9223372036854775808 ↔ In128 x := by
  constructor
  · intro e
    unfold topN hiN In192 In128 at *
    have dx : x / 340282366920938463463374607431768211456 = x / 18446744073709551616 / 18446744073709551616 := by omega
    have hb : -170141183460469231731687303715884105728 ≤ x / 18446744073709551616 ∧ x / 18446744073709551616 < 170141183460469231731687303715884105728 := by omega
    rw [dx] at e
    have : -9223372036854775808 ≤ x / 18446744073709551616 ∧ x / 18446744073709551616 ≤ 9223372036854775807 := by
      clear h dx
      generalize x / 18446744073709551616 = a at *
      rw [IntKind.wrap_i64, IntKind.wrap_i64] at e
      omega
    clear e
    omega
  · exact top_in
theorem parts_inj {x y : Int} (hx : In128 x) (hy : In128 y) (h : hiN x = hiN y) (l : loN x = loN y) : x = y := by
  rw [split_in hx, split_in hy, h, l]
theorem of_in (n : Int) (h : In64 n) : hiN n = n / 9223372036854775808 ∧ loN n = IntKind.u64.wrap n ∧ In128 n := by
  unfold In64 at h
  refine ⟨?_, ?_, ?_⟩
  · unfold hiN; rw [IntKind.wrap_i64]; omega
  · unfold loN; rw [IntKind.wrap_u64]
  · unfold In128; omega
theorem int_iff {x : Int} (h : In128 x) : hiN x = IntKind.i64.wrap (loN x) / 9223372036854775808 ↔ In64 x := by
  rw [hi_in h]
  unfold In128 In64 loN at *
  rw [IntKind.wrap_i64]
  omega
theorem int_lo {x : Int} (h : In64 x) : IntKind.i64.wrap (loN x) = x := by
  unfold In64 loN at *
  rw [IntKind.wrap_i64]; omega
theorem run_add64' {P : Program} {f : FuncId} {fn : Func} (hf : P.funcs[f]? = some fn) (hname : (fn.name == "runtime.NumGoroutine") = false)
    (hb : fn.body.isNone = true) (hn : Extern.findNext fn = none) (he : Extern.find fn = some add64Entry) (x y c : Int) (hx : 0 ≤ x ∧ x < 18446744073709551616) (hy : 0 ≤ y ∧ y < 18446744073709551616) (hc : 0 ≤ c ∧ c ≤ 1) :
    ∃ s k : Int, (∀ w, (callFunc f #[.int .u64 x, .int .u64 y, .int .u64 c]).run P w = .ok (.value (.tuple #[.int .u64 s, .int .u64 k])) w) ∧ x + y + c = s + 18446744073709551616 * k ∧ (0 ≤ s ∧ s < 18446744073709551616) ∧ (0 ≤ k ∧ k ≤ 1) := by
  refine ⟨(x + y + c) % 18446744073709551616, (x + y + c) / 18446744073709551616, fun w => ?_, by omega, by omega, by omega⟩
  rw [run_callFunc_extern hf hname hb hn he, run_add64 x y c hx.1 hy.1 hc.1 hc.2]
  rfl
def sub64Row : Array Value → Sem Value := fun args => do
  let (x, y, b) ← Extern.MathBitsCarry.three "Sub64" args
  pure (Extern.MathBitsCarry.pair ((x + Extern.MathBitsCarry.m64 - y - b) % Extern.MathBitsCarry.m64) (if x < y + b then 1 else 0))
theorem run_sub64' {P : Program} {f : FuncId} {fn : Func} (hf : P.funcs[f]? = some fn) (hname : (fn.name == "runtime.NumGoroutine") = false)
    (hb : fn.body.isNone = true) (hn : Extern.findNext fn = none) (he : Extern.find fn = some sub64Row) (x y c : Int) (hx : 0 ≤ x ∧ x < 18446744073709551616) (hy : 0 ≤ y ∧ y < 18446744073709551616) (hc : 0 ≤ c ∧ c ≤ 1) :
    ∃ s k : Int, (∀ w, (callFunc f #[.int .u64 x, .int .u64 y, .int .u64 c]).run P w = .ok (.value (.tuple #[.int .u64 s, .int .u64 k])) w) ∧ x - y - c = s - 18446744073709551616 * k ∧ (0 ≤ s ∧ s < 18446744073709551616) ∧ (0 ≤ k ∧ k ≤ 1) := by
  obtain ⟨a, rfl⟩ := Int.eq_ofNat_of_zero_le hx.1
  obtain ⟨b, rfl⟩ := Int.eq_ofNat_of_zero_le hy.1
  obtain ⟨k, rfl⟩ := Int.eq_ofNat_of_zero_le hc.1
  refine ⟨(((a + 18446744073709551616 - b - k) % 18446744073709551616 : Nat) : Int), ((if a < b + k then 1 else 0 : Nat) : Int), fun w => ?_, ?_, by omega, by split <;> omega⟩
  · rw [run_callFunc_extern hf hname hb hn he]
    have hk : k = 0 ∨ k = 1 := by omega
    rcases hk with rfl | rfl <;> rfl
  · split <;> omega
end Go.Proofs.Ytahdmomadbbhoaa
end
