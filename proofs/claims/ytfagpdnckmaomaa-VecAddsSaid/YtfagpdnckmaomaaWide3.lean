/-
  The walks of layer 1, third part: Sub, Neg, size, Cmp, Sign.
-/
import Derived.Test.YtfagpdnckmaomaaWide2
namespace Go.Proofs.Ytfagpdnckmaomaa
open Go.ChangeShapes Go.WideShapes Go.ChangeAt Go.RowKit
set_option linter.unusedVariables false
set_option linter.unusedSimpArgs false

theorem in192_of {x y : Int} (hx : In128 x) (hy : In128 y) : In192 (x + -y) ∧ In192 (-x) := by
  unfold In128 In192 at *; omega

set_option maxHeartbeats 2000000 in
theorem wsub_any (x y : Int) (hx : In128 x) (hy : In128 y) (w : World) :
    Calls Try.prog 108 #[.agg #[.int .i64 (hiN x), .int .u64 (loN x)], .agg #[.int .i64 (hiN y), .int .u64 (loN y)]] w fun e w' => e = .returned (wideE (x + -y)) ∧ Below w.heap.size w w' := by
  have h192 := (in192_of hx hy).1
  have B1 : T2 (((w.alloc (.cells #[.int .i64 (hiN x), .int .u64 (loN x)] 52)).alloc (.cells #[.int .i64 (hiN y), .int .u64 (loN y)] 52)).alloc (.cells #[.int .i64 0, .int .u64 0] 52)) w.heap.size (hiN x) (loN x) := ((T2.new w _ _ _).alloc _).alloc _
  have B2 : T2 (((w.alloc (.cells #[.int .i64 (hiN x), .int .u64 (loN x)] 52)).alloc (.cells #[.int .i64 (hiN y), .int .u64 (loN y)] 52)).alloc (.cells #[.int .i64 0, .int .u64 0] 52)) (w.heap.size + 1) (hiN y) (loN y) := by
    have := (T2.new (w.alloc (.cells #[.int .i64 (hiN x), .int .u64 (loN x)] 52)) (hiN y) (loN y) 52).alloc (.cells #[.int .i64 0, .int .u64 0] 52)
    rwa [World.size_alloc] at this
  have B3 : T2 (((w.alloc (.cells #[.int .i64 (hiN x), .int .u64 (loN x)] 52)).alloc (.cells #[.int .i64 (hiN y), .int .u64 (loN y)] 52)).alloc (.cells #[.int .i64 0, .int .u64 0] 52)) (w.heap.size + 1 + 1) 0 0 := by
    have := T2.new ((w.alloc (.cells #[.int .i64 (hiN x), .int .u64 (loN x)] 52)).alloc (.cells #[.int .i64 (hiN y), .int .u64 (loN y)] 52)) 0 0 52
    rwa [World.size_alloc, World.size_alloc] at this
  have uB : Below w.heap.size w (((w.alloc (.cells #[.int .i64 (hiN x), .int .u64 (loN x)] 52)).alloc (.cells #[.int .i64 (hiN y), .int .u64 (loN y)] 52)).alloc (.cells #[.int .i64 0, .int .u64 0] 52)) := (((Below.refl _ _).alloc (Nat.le_refl _) _).alloc (by simp) _).alloc (by simp; omega) _
  have tk1 : True := trivial
  have hcs := @cell_set
  by_cases hin : In128 (x + -y)
  · have HE := Lib.hid (wideE_yes hin)
    go_enter Try.func108, Try.ntmps108
    go_wp2_with fail
    · skip
      go_region_with (first
        | (go_at_call 111; first
            | (have _t := tk1; refine (long_any x hx _).mono ?_; rintro e w1 ⟨rfl, hb1⟩; have A1 := B1.drew.below hb1; have A2 := B2.drew.below hb1; have A3 := B3.drew.below hb1; have AB := since_step uB.drew hb1; obtain ⟨p0, p1, p2, q1, q2⟩ := id A1; obtain ⟨p3, p4, p5, q4, q5⟩ := id A2; unfold sumV; clear tk1 hb1)
            | (refine (long_any y hy _).mono ?_; rintro e w2 ⟨rfl, hb2⟩; have C3 := A3.below hb2; have CB := since_step AB hb2; unfold sumV; clear hb2))
        | (go_at_call 125; refine (minus_any y _).mono ?_; rintro e w3 ⟨rfl, hb3⟩; have D3 := C3.below hb3; have DB := since_step CB hb3; unfold sumV; clear hb3)
        | (go_at_call 110; refine (plus_any x (-y) _).mono ?_; rintro e w4 ⟨rfl, hb4⟩; have E3 := D3.below hb4; have EB := since_step DB hb4; unfold sumV; clear hb4)
        | (go_at_call 112; refine (narrow_yes (x + -y) hin _).mono ?_; rintro e w5 ⟨rfl, hb5⟩; have F3 := E3.below hb5; have FB := since_step EB hb5; obtain ⟨r0, r1, r2, t1, t2⟩ := id F3; clear hb5))
      all_goals
        go_wp2
        refine bodyPost_ret (v := .tuple #[.agg #[.int .i64 (hiN (x + -y)), .int .u64 (loN (x + -y))], .int .i64 0]) ?_ rfl ?_
        · simp [results, Try.results108, go_sem, cell_set, r1, r2]
        · refine ⟨by rw [HE.out], ?_⟩
          repeat' (first | with_reducible exact FB | with_reducible refine Below.setCell ?_ ?_ _)
          all_goals first | (simp; done) | (simp; omega)
  · have HE := Lib.hid (wideE_no hin)
    go_enter Try.func108, Try.ntmps108
    go_wp2_with fail
    · skip
      go_region_with (first
        | (go_at_call 111; first
            | (have _t := tk1; refine (long_any x hx _).mono ?_; rintro e w1 ⟨rfl, hb1⟩; have A1 := B1.drew.below hb1; have A2 := B2.drew.below hb1; have A3 := B3.drew.below hb1; have AB := since_step uB.drew hb1; obtain ⟨p0, p1, p2, q1, q2⟩ := id A1; obtain ⟨p3, p4, p5, q4, q5⟩ := id A2; unfold sumV; clear tk1 hb1)
            | (refine (long_any y hy _).mono ?_; rintro e w2 ⟨rfl, hb2⟩; have C3 := A3.below hb2; have CB := since_step AB hb2; unfold sumV; clear hb2))
        | (go_at_call 125; refine (minus_any y _).mono ?_; rintro e w3 ⟨rfl, hb3⟩; have D3 := C3.below hb3; have DB := since_step CB hb3; unfold sumV; clear hb3)
        | (go_at_call 110; refine (plus_any x (-y) _).mono ?_; rintro e w4 ⟨rfl, hb4⟩; have E3 := D3.below hb4; have EB := since_step DB hb4; unfold sumV; clear hb4)
        | (go_at_call 112; refine (narrow_no (x + -y) h192 hin _).mono ?_; rintro e w5 ⟨rfl, hb5⟩; have F3 := E3.below hb5; have FB := since_step EB hb5; obtain ⟨r0, r1, r2, t1, t2⟩ := id F3; clear hb5))
      all_goals
        go_wp2
        refine bodyPost_ret (v := .tuple #[.agg #[.int .i64 0, .int .u64 0], .int .i64 7]) ?_ rfl ?_
        · simp [results, Try.results108, go_sem, cell_set, r1, r2]
        · refine ⟨by rw [HE.out], ?_⟩
          repeat' (first | with_reducible exact FB | with_reducible refine Below.setCell ?_ ?_ _)
          all_goals first | (simp; done) | (simp; omega)

end Go.Proofs.Ytfagpdnckmaomaa
