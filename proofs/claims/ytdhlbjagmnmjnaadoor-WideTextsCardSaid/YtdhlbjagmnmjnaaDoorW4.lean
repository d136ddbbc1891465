/-
  WideMuls: the walk.
-/
import Derived.Test.YtdhlbjagmnmjnaaDoorW3
namespace Go.Proofs.YtdhlbjagmnmjnaaDoor
open Go.ChangeShapes Go.WideShapes Go.ChangeAt Go.RowKit
set_option linter.unusedVariables false
set_option linter.unusedSimpArgs false

theorem cmp_same (z : Int) : cmpZ z z = 0 := by unfold cmpZ; simp
theorem BigAt.l64 {w : World} {s : Bool} {A : Option Addr} {n c : Nat} {z : Int} (h : BigAt w s A n c z) (hz : In64 z) : n ≤ 64 := (h.len (k := 64)).2 (by unfold In64 at hz; simp; omega)

set_option maxRecDepth 100000 in
set_option maxHeartbeats 4000000 in
theorem walk_WideMuls (a0 : Int) (a1 : Int) (w : World) (w0 : (Lit.int .i64 a0).wf = true) (w1 : (Lit.int .i64 a1).wf = true) :
    Calls Tryd.prog 3 #[.int .i64 a0, .int .i64 a1] w fun e w' => e = .returned (.bool true) ∧ Below w.heap.size w w' := by
  have ha : In64 a0 := bd_i64 w0
  have hb : In64 a1 := bd_i64 w1
  clear w0 w1
  have hin := mul_in128 ha hb
  have HM := Lib.hid (fun w => wmul_any a0 a1 ha hb w)
  have HM1 := fun w => wmul_any a0 1 ha (by decide) w
  rw [Int.mul_one] at HM1
  have HM1 := Lib.hid HM1
  have HOF := Lib.hid (fun w => wof_any a0 ha w)
  have HB := Lib.hid (fun w => big_any (a0 * a1) hin w)
  have HO0 := Lib.hid (fun w => bof_any a0 w ha)
  have HO1 := Lib.hid (fun w => bof_any a1 w hb)
  have hn := @BigAt.in128
  have HN := Lib.hid (fun w s A n c (h : BigAt w s A n c (a0 * a1)) => hn h hin)
  have hn64 := @BigAt.l64
  have HN0 := Lib.hid (fun w s A n c (h : BigAt w s A n c a0) => hn64 h ha)
  have HN1 := Lib.hid (fun w s A n c (h : BigAt w s A n c a1) => hn64 h hb)
  have HC := Lib.hid (cmp_same (a0 * a1))
  clear hn hn64 hin ha hb
  go_enter Tryd.func3, Tryd.ntmps3
  go_wp2_with fail
  refine (HM.out _).mono ?_
  rintro e w1 ⟨rfl, hb1⟩
  have G := T2.new w1 (hiN (a0 * a1)) (loN (a0 * a1)) 24
  have hB1 := since_alloc (since_step (Below.refl _ w) hb1) (.cells #[.int .i64 (hiN (a0 * a1)), .int .u64 (loN (a0 * a1))] 24)
  clear hb1
  go_upto_region 2 with fail
  generalize w1.alloc (.cells #[.int .i64 (hiN (a0 * a1)), .int .u64 (loN (a0 * a1))] 24) = W at *
  obtain ⟨q0, q1, q2, q3, q4⟩ := G
  go_wp2_with fail
  refine (HB.out _).mono ?_
  rintro e w2 ⟨⟨s2, A2, n2, c2, rfl, hf2, X2⟩, hb2⟩
  have hB2 := since_step hB1 hb2
  have n2l := HN.out _ _ _ _ _ X2
  clear hb2 hf2
  go_wp2_with fail
  refine (HO0.out _).mono ?_
  rintro e w3 ⟨⟨s3, A3, n3, c3, rfl, hf3, X3⟩, hb3⟩
  have hB3 := since_step hB2 hb3
  have n3l := HN0.out _ _ _ _ _ X3
  have X2 := X2.below hb3
  clear hb3 hf3
  go_wp2_with fail
  refine (HO1.out _).mono ?_
  rintro e w4 ⟨⟨s4, A4, n4, c4, rfl, hf4, X4⟩, hb4⟩
  have hB4 := since_step hB3 hb4
  have n4l := HN1.out _ _ _ _ _ X4
  have X2 := X2.below hb4
  have X3 := X3.below hb4
  clear hb4 hf4
  go_wp2_with fail
  refine (bmul_any a0 a1 s3 s4 A3 A4 n3 c3 n4 c4 _ (by omega) (by omega) X3 X4).mono ?_
  rintro e w5 ⟨⟨s5, A5, n5, c5, rfl, hf5, X5⟩, hb5⟩
  have hB5 := since_step hB4 hb5
  have n5l := HN.out _ _ _ _ _ X5
  have X2 := X2.below hb5
  clear hb5 hf5
  go_wp2_with fail
  refine (bcmp_any _ _ s2 s5 A2 A5 n2 c2 n5 c5 _ (by omega) (by omega) X2 X5).mono ?_
  rintro e w6 ⟨rfl, hb6⟩
  rw [HC.out]
  have hB6 := since_step hB5 hb6
  clear hb6
  go_wp2_with fail
  refine (HOF.out _).mono ?_
  rintro e w7 ⟨rfl, hb7⟩
  have hB7 := since_step hB6 hb7
  clear hb7
  go_wp2_with fail
  refine (HM1.out _).mono ?_
  rintro e w8 ⟨rfl, hb8⟩
  have hB8 := since_step hB7 hb8
  clear hb8
  go_wp2_with fail
  refine (lives01_any _).mono ?_
  rintro e w9 ⟨rfl, hb9⟩
  have hB9 := since_step hB8 hb9
  go_wp2_with fail
  go_ret
  exact ⟨rfl, hB9⟩
end Go.Proofs.YtdhlbjagmnmjnaaDoor
