/-
  The walks of layer 5: Cut, More, the document's More, Of, Same.
-/
import Derived.Test.YtpmnjojednbnpaaBase
import Derived.Test.YtpmnjojednbnpaaCrcMath
namespace Go.Proofs.Ytpmnjojednbnpaa
open Go.ChangeShapes Go.WideShapes Go.ChangeAt Go.RowKit
set_option linter.unusedVariables false

theorem cut_any (A : Option Addr) (n cap k : Nat) (w : World) (hn : n ≤ 9223372036854775807) (hk : k ≤ 9223372036854775807) (hcap : n ≤ cap) (hcap2 : cap ≤ 9223372036854775807) :
    Calls Try.prog 15 #[.slice A n cap, .int .i64 k] w fun e w' => e = .returned (.slice A (min n k) cap) ∧ w = w' := by
  by_cases h : k < n
  · have e : min n k = k := by omega
    rw [e]
    clear e
    go_enter Try.func15, Try.ntmps15
    go_wp2
    go_ret
    exact ⟨rfl, rfl⟩
  · have e : min n k = n := by omega
    rw [e]
    clear e
    go_enter Try.func15, Try.ntmps15
    go_wp2
    go_ret
    exact ⟨rfl, rfl⟩

theorem shl16 (x : Nat) (h : x < 256) : ((x : Int) % 4294967296 * 65536 % 4294967296) = ((x * 65536 : Nat) : Int) := by omega
theorem and24 (c : Nat) (h : c < 4294967296) : bits .and .u32 (c : Int) 16777215 = ((c % 16777216 : Nat) : Int) := by
  have := u32_and_nat c 16777215 h (by omega)
  have e : (c &&& 16777215) = c % 16777216 := Nat.and_two_pow_sub_one_eq_mod c 24
  rw [e] at this
  exact this


end Go.Proofs.Ytpmnjojednbnpaa
