/-
  The walks of layer 2, second part: Abs, Most, Least, Clip; the document's Most, Least; Is; few.
-/
import Derived.Test.YtidbiiomhhmniaaFix
import Derived.Test.YtidbiiomhhmniaaBig4
namespace Go.Proofs.Ytidbiiomhhmniaa
open Go.ChangeShapes Go.WideShapes Go.ChangeAt Go.RowKit
set_option linter.unusedVariables false
set_option linter.unusedSimpArgs false

def mxL (a : Int) (l : List Int) : Int := l.foldl (fun x y => if x < y then y else x) a
def mnL (a : Int) (l : List Int) : Int := l.foldl (fun x y => if y < x then y else x) a
theorem mxL_take (a : Int) (l : List Int) (k : Nat) (h : k < l.length) : mxL a (l.take (k + 1)) = if mxL a (l.take k) < l[k] then l[k] else mxL a (l.take k) := by
  unfold mxL; rw [take_snoc l k h, List.foldl_append]; rfl
theorem mnL_take (a : Int) (l : List Int) (k : Nat) (h : k < l.length) : mnL a (l.take (k + 1)) = if l[k] < mnL a (l.take k) then l[k] else mnL a (l.take k) := by
  unfold mnL; rw [take_snoc l k h, List.foldl_append]; rfl




/-- the next one between two -/
def clipI (a lo hi : Int) : Int := mxL lo [mnL a [hi]]

theorem in64_iff (z : Int) : inN z 63 ↔ In64 z := by rw [inN_63]; exact Iff.rfl
theorem fV_in (z : Int) : In64 (fV z) := by unfold fV; split <;> first | assumption | decide

set_option maxRecDepth 100000 in
set_option maxHeartbeats 4000000 in
theorem is_any (z : Int) (s : Bool) (A : Option Addr) (n c : Nat) (w : World) (la : n ≤ 100000) (hx : BigAt w s A n c z) :
    Calls Try.prog 11 #[.int .i64 (fV z), .int .i64 (fE z), .agg #[.bool s, .slice A n c]] w fun e w' => e = .returned (.bool true) ∧ Below w.heap.size w w' := by
  have P0 := BB.new w s A n c 32
  have hB0 : Below w.heap.size w (w.alloc (.cells #[.bool s, .slice A n c] 32)) := since_alloc (Below.refl _ w) _
  have X0 := hx.below hB0
  clear hx
  by_cases h : In64 z
  · have HF := Lib.hid (show decide (inN z 63) = true from decide_eq_true ((in64_iff z).2 h))
    rw [show fV z = z from if_pos h, show fE z = 0 from if_pos h]
    go_enter Try.func11, Try.ntmps11
    go_wp2_with fail
    refine (bfits_any z s A n c _ la X0).mono ?_
    rintro e w1 ⟨rfl, hb1⟩
    rw [HF.out]
    have X1 := X0.below hb1
    have P1 := P0.below hb1
    have hB1 := since_step hB0 hb1
    clear hb1 P0 X0
    go_upto_region 3 with fail
    have sO : ∀ W, Below w1.heap.size w1 W → (Below w1.heap.size w1 W ∧ W.cell? ⟨w.heap.size, 0, none⟩ = some (.bool s) ∧ W.cell? ⟨w.heap.size, 1, none⟩ = some (.slice A n c)) := fun W h => ⟨h, (P1.below h).2.1, (P1.below h).2.2.1⟩
    have SO := Lib.hid sO
    have XO := Lib.hid (fun W (h : Below w1.heap.size w1 W) => X1.below h)
    have HC := Lib.hid (show cmpZ z z = 0 from by unfold cmpZ; simp)
    clear sO P1 X1
    go_region_held3 (fun W => Below w1.heap.size w1 W ∧ W.cell? ⟨w.heap.size, 0, none⟩ = some (.bool s) ∧ W.cell? ⟨w.heap.size, 1, none⟩ = some (.slice A n c))
      (first | exact SO.out _ (by assumption) | exact SO.out _ (Below.refl _ _).drew | assumption)
      (first
        | (go_at_call 16; go_split_ands; refine (bof_any z _ h).mono ?_; rintro e w2 ⟨⟨s2, A2, n2, c2, rfl, hfr, hbig⟩, hb2⟩; have hbW2 := since_step (by assumption) hb2; have hn2 : n2 ≤ 64 := (hbig.len (k := 64)).2 (by unfold In64 at h; simp; omega))
        | (go_at_call 17; go_split_ands; refine (bcmp_any z z s2 s A2 A n2 c2 n c _ (by omega) la hbig (XO.out _ (by assumption))).mono ?_; rintro e w3 ⟨rfl, hb3⟩; have hbW3 := since_step (by assumption) hb3; rw [HC.out]))
    go_wp2
    go_ret
    go_split_ands
    exact ⟨rfl, since_step hB1 (by assumption)⟩
  · have HF := Lib.hid (show decide (inN z 63) = false from decide_eq_false fun g => h ((in64_iff z).1 g))
    rw [show fV z = 0 from if_neg h, show fE z = 7 from if_neg h]
    go_enter Try.func11, Try.ntmps11
    go_wp2_with fail
    refine (bfits_any z s A n c _ la X0).mono ?_
    rintro e w1 ⟨rfl, hb1⟩
    rw [HF.out]
    have hB1 := since_step hB0 hb1
    go_wp2
    go_ret
    exact ⟨rfl, hB1⟩
end Go.Proofs.Ytidbiiomhhmniaa
