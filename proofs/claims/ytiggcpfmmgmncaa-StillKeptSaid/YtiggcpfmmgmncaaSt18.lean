import Derived.Test.YtiggcpfmmgmncaaSt17
section
namespace Go.Proofs.Ytiggcpfmmgmncaa
open Go.ChangeShapes Go.WideShapes Go.ChangeAt Go.RowKit
set_option linter.unusedVariables false
set_option linter.unusedSimpArgs false

def fitF (n : Nat) (p each : Int) : Int := if 1 ≤ each ∧ 2 * each ≤ n ∧ 0 ≤ p ∧ p ≤ n - 2 * each then 0 else 2
theorem tdiv2 (n : Nat) : Int.tdiv (n : Int) 2 = ((n / 2 : Nat) : Int) := by
  rw [Int.tdiv_eq_ediv_of_nonneg (by omega)]; omega
theorem tmod2 (n : Nat) : Int.tmod (n : Int) 2 = ((n % 2 : Nat) : Int) := by
  rw [Int.tmod_eq_emod_of_nonneg (by omega)]; omega
set_option maxHeartbeats 2000000 in
set_option maxRecDepth 100000 in
theorem sfit_any {B b g kc : Nat} {K : Option Addr} {d : Dv} (p each : Int) (w : World) (h : DrA B w b g K kc d) :
    Calls Try.prog 67 #[.pointer (some ⟨b, 0, none⟩), .int .i64 p, .int .i64 each] w fun e w' => e = .returned (.int .i64 (fitF d.S.length p each)) ∧ Below w.heap.size w w' := by
  have HS := Lib.hid (dsize_any w h)
  have hn1 := h.len.1
  have hn2 := h.len.2
  generalize d.S.length = n at *
  have hq : ((n : Int) == 0) = false := by simpa using (by omega : (n : Int) ≠ 0)
  have hq2 := tdiv2 n
  have hwq : IntKind.i64.wrap ((n / 2 : Nat) : Int) = ((n / 2 : Nat) : Int) := by rw [IntKind.wrap_i64]; omega
  have HOK : Hid ((1 ≤ each ∧ 2 * each ≤ n ∧ 0 ≤ p ∧ p ≤ n - 2 * each) → fitF n p each = 0) := Lib.hid (fun h => if_pos h)
  have HNO : Hid (¬ (1 ≤ each ∧ 2 * each ≤ n ∧ 0 ≤ p ∧ p ≤ n - 2 * each) → fitF n p each = 2) := Lib.hid (fun h => if_neg h)
  generalize fitF n p each = R at *
  obtain ⟨q, hqn⟩ : ∃ q, n / 2 = q := ⟨_, rfl⟩
  rw [hqn] at hq2 hwq
  clear h
  by_cases h1 : each < 1
  · obtain rfl := HNO.out (by omega)
    clear HOK HNO hqn hn1 hn2
    go_enter Try.func67, Try.ntmps67
    go_wp2_with fail
    refine HS.out.mono ?_
    rintro e w1 ⟨rfl, hb⟩
    go_wp2_with fail
    go_ret
    exact ⟨rfl, hb⟩
  by_cases h2 : (q : Int) < each
  · obtain rfl := HNO.out (by omega)
    clear HOK HNO hqn hn1 hn2
    go_enter Try.func67, Try.ntmps67
    go_wp2_with fail
    refine HS.out.mono ?_
    rintro e w1 ⟨rfl, hb⟩
    go_wp2_with fail
    go_ret
    exact ⟨rfl, hb⟩
  by_cases h3 : p < 0
  · obtain rfl := HNO.out (by omega)
    clear HOK HNO hqn hn1 hn2
    go_enter Try.func67, Try.ntmps67
    go_wp2_with fail
    refine HS.out.mono ?_
    rintro e w1 ⟨rfl, hb⟩
    go_wp2_with fail
    go_ret
    exact ⟨rfl, hb⟩
  have hw2 : IntKind.i64.wrap (2 * each) = 2 * each := by rw [IntKind.wrap_i64]; omega
  have hw3 : IntKind.i64.wrap ((n : Int) - 2 * each) = (n : Int) - 2 * each := by rw [IntKind.wrap_i64]; omega
  by_cases h4 : (n : Int) - 2 * each < p
  · obtain rfl := HNO.out (by omega)
    clear HOK HNO hqn hn1 hn2
    go_enter Try.func67, Try.ntmps67
    go_wp2_with fail
    refine HS.out.mono ?_
    rintro e w1 ⟨rfl, hb⟩
    go_wp2_with fail
    go_ret
    exact ⟨rfl, hb⟩
  · obtain rfl := HOK.out (by omega)
    clear HOK HNO hqn hn1 hn2
    go_enter Try.func67, Try.ntmps67
    go_wp2_with fail
    refine HS.out.mono ?_
    rintro e w1 ⟨rfl, hb⟩
    go_wp2_with fail
    go_ret
    exact ⟨rfl, hb⟩
set_option maxHeartbeats 2000000 in
set_option maxRecDepth 100000 in
theorem sfit_nob (p : Option Addr) (x each : Int) (w : World) (h : Nob w p) :
    Calls Try.prog 67 #[.pointer p, .int .i64 x, .int .i64 each] w fun e w' => e = .returned (.int .i64 1) ∧ Below w.heap.size w w' := by
  have HS := Lib.hid (nsize_any p w h)
  clear h
  go_enter Try.func67, Try.ntmps67
  go_wp2_with fail
  refine HS.out.mono ?_
  rintro e w1 ⟨rfl, hb⟩
  go_wp2_with fail
  go_ret
  exact ⟨rfl, hb⟩
set_option maxHeartbeats 2000000 in
set_option maxRecDepth 100000 in
theorem splace_any (p each era : Nat) (w : World) (hp : p ≤ 2048) (he : each ≤ 2048) :
    Calls Try.prog 66 #[.int .i64 p, .int .i64 each, .int .i64 era] w fun e w' => e = .returned (.int .i64 ((p + era % 2 * each : Nat) : Int)) ∧ Below w.heap.size w w' := by
  have hq := tmod2 era
  obtain ⟨q, hqn⟩ : ∃ q, era % 2 = q := ⟨_, rfl⟩
  rw [hqn] at hq ⊢
  have hq1 : q = 0 ∨ q = 1 := by omega
  clear hqn
  have hw1 : IntKind.i64.wrap (q : Int) = (q : Int) := by rw [IntKind.wrap_i64]; omega
  rcases hq1 with rfl | rfl
  · have hw2 : IntKind.i64.wrap ((p : Int)) = (p : Int) := by rw [IntKind.wrap_i64]; omega
    go_enter Try.func66, Try.ntmps66
    go_wp2_with fail
    go_ret
    exact ⟨by simp, Below.refl _ _⟩
  · have hw2 : IntKind.i64.wrap ((each : Int)) = (each : Int) := by rw [IntKind.wrap_i64]; omega
    have hw3 : IntKind.i64.wrap ((p : Int) + (each : Int)) = (p : Int) + (each : Int) := by rw [IntKind.wrap_i64]; omega
    go_enter Try.func66, Try.ntmps66
    go_wp2_with fail
    go_ret
    exact ⟨by simp, Below.refl _ _⟩
def standF (S : List (List Nat)) (p each odd : Nat) : Option (Int × List Nat) := match readF S ((p + odd * each : Nat) : Int) ((p + odd * each + each : Nat) : Int) with
  | none => none
  | some (b, f) => if f.seq = 1 ∧ f.era ≠ 0 ∧ f.era % 2 = (odd : Int) then some (f.era, b) else none
def TRes (B : Nat) (w' : World) (e : Ending) (R : Option (Int × List Nat)) : Prop := ∃ A' c', e = .returned (.tuple #[.int .i64 (R.getD (0, [])).1, .slice A' (R.getD (0, [])).2.length c', .bool R.isSome]) ∧ w'.ownsRow B 5 1 (.slice A' (R.getD (0, [])).2.length c') (R.getD (0, [])).2.length (by8 (R.getD (0, [])).2)
theorem TRes.no (B : Nat) (w' : World) {R : Option (Int × List Nat)} (h : R = none) : TRes B w' (.returned (.tuple #[.int .i64 0, .slice none 0 0, .bool false])) R := by
  subst h
  exact ⟨none, 0, rfl, own_nil _ _ _⟩
theorem TRes.yes {B : Nat} {w' : World} {R : Option (Int × List Nat)} {era : Int} {l : List Nat} {A : Option Addr} {c : Nat} (h : R = some (era, l)) (ho : w'.ownsRow B 5 1 (.slice A l.length c) l.length (by8 l)) : TRes B w' (.returned (.tuple #[.int .i64 era, .slice A l.length c, .bool true])) R := by
  subst h
  exact ⟨A, c, rfl, ho⟩
end Go.Proofs.Ytiggcpfmmgmncaa
end
