/-
  The walks of layer 2, second part: Abs, Most, Least, Clip; the document's Most, Least; Is; few.
-/
import Derived.Test.YtfagpdnckmaomaaFix
import Derived.Test.YtfagpdnckmaomaaBig4
namespace Go.Proofs.Ytfagpdnckmaomaa
open Go.ChangeShapes Go.WideShapes Go.ChangeAt Go.RowKit
set_option linter.unusedVariables false
set_option linter.unusedSimpArgs false

def mxL (a : Int) (l : List Int) : Int := l.foldl (fun x y => if x < y then y else x) a
def mnL (a : Int) (l : List Int) : Int := l.foldl (fun x y => if y < x then y else x) a
theorem mxL_take (a : Int) (l : List Int) (k : Nat) (h : k < l.length) : mxL a (l.take (k + 1)) = if mxL a (l.take k) < l[k] then l[k] else mxL a (l.take k) := by
  unfold mxL; rw [take_snoc l k h, List.foldl_append]; rfl
theorem mnL_take (a : Int) (l : List Int) (k : Nat) (h : k < l.length) : mnL a (l.take (k + 1)) = if l[k] < mnL a (l.take k) then l[k] else mnL a (l.take k) := by
  unfold mnL; rw [take_snoc l k h, List.foldl_append]; rfl

set_option maxHeartbeats 1000000 in
theorem fleast_any (a : Int) (A : Option Addr) (cap : Nat) (l : List Int) (w : World) (hl : l.length ≤ 1000000) (hs : Sl w A (ints .i64 l)) :
    Calls Try.prog 98 #[.int .i64 a, .slice A l.length cap] w fun e w' => e = .returned (.int .i64 (mnL a l)) ∧ Below w.heap.size w w' := by
  go_enter Try.func98, Try.ntmps98
  go_wp2
  go_loopw [0, 9] (fun v i wr => ∃ k : Nat, k ≤ l.length ∧ i = .int .i64 k ∧ v = .int .i64 (mnL a (l.take k)) ∧ Below w.heap.size w wr) (fun _ i _ => l.length - (intOf i).toNat)
  case atStart => exact ⟨0, by omega, rfl, rfl, Below.refl _ _⟩
  case round =>
    obtain ⟨k, hk, rfl, rfl, hB⟩ := hrel
    by_cases hlt : k < l.length
    · obtain ⟨b, o, rfl, hz⟩ := (hs.below hB).int hlt
      have hbr := World.block_lt_of_cell? _ _ hz
      have HT := Lib.hid (mnL_take a l k hlt)
      generalize mnL a (l.take k) = y at *
      generalize l[k] = x at *
      by_cases h : x < y
      · go_wp2
        go_roundw
        case rel => exact ⟨k + 1, by omega, by go_num, (by rw [HT.out, if_pos h] <;> first | rfl | (refine congrArg _ ?_; omega)), hB⟩
        case measure => simp [intOf]; omega
      · go_wp2
        go_roundw
        case rel => exact ⟨k + 1, by omega, by go_num, (by rw [HT.out, if_neg h] <;> first | rfl | (refine congrArg _ ?_; omega)), hB⟩
        case measure => simp [intOf]; omega
    · obtain rfl : k = l.length := by omega
      rw [List.take_length]
      go_wp2
      go_ret
      exact ⟨rfl, hB⟩



/-- the next one between two -/
def clipI (a lo hi : Int) : Int := mxL lo [mnL a [hi]]
set_option maxHeartbeats 1000000 in
theorem fabs_any (a : Int) (ha : In64 a) (w : World) :
    Calls Try.prog 70 #[.int .i64 a] w fun e w' => e = .returned (.tuple #[.int .i64 (fV a.natAbs), .int .i64 (fE a.natAbs)]) ∧ Below w.heap.size w w' := by
  by_cases h : a < 0
  · have HN := Lib.hid (show 0 - a = (a.natAbs : Int) by omega)
    go_enter Try.func70, Try.ntmps70
    go_wp2_with fail
    refine (fsub_any 0 a (by decide) ha _).mono ?_
    rintro e w1 ⟨rfl, hb1⟩
    rw [HN.out]
    go_wp2_with fail
    go_ret2
    exact ⟨rfl, hb1⟩
  · have HN := Lib.hid (show (a.natAbs : Int) = a by omega)
    have HV := Lib.hid (show fV a = a from if_pos ha)
    have HE := Lib.hid (show fE a = 0 from if_pos ha)
    go_enter Try.func70, Try.ntmps70
    go_wp2_with fail
    go_ret2
    exact ⟨by rw [HN.out, HV.out, HE.out]; rfl, Below.refl _ _⟩

theorem in64_iff (z : Int) : inN z 63 ↔ In64 z := by rw [inN_63]; exact Iff.rfl
theorem fV_in (z : Int) : In64 (fV z) := by unfold fV; split <;> first | assumption | decide

end Go.Proofs.Ytfagpdnckmaomaa
