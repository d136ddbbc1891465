import Derived.Test.YtlbccpiadmcpjaaNd14
import Derived.Ground.SlgnProg
import Derived.Shelf.Bits.Mul64
import Derived.Shelf.SlicesE.Clone
import Derived.Shelf.Small.Bits
import Derived.Shelf.Strconv.Itoa0
import Derived.Test.YtlbccpiadmcpjaaProg
section
namespace Go.Proofs.Ytlbccpiadmcpjaa
open Go.ChangeShapes Go.WideShapes Go.ChangeAt Go.RowKit
set_option linter.unusedVariables false
set_option linter.unusedSimpArgs false

theorem in192_of {x y : Int} (hx : In128 x) (hy : In128 y) : In192 (x + -y) ∧ In192 (-x) := by
  unfold In128 In192 at *; omega
set_option maxHeartbeats 2000000 in
theorem wsub_any (x y : Int) (hx : In128 x) (hy : In128 y) (w : World) :
    Calls Try.prog 98 #[.agg #[.int .i64 (hiN x), .int .u64 (loN x)], .agg #[.int .i64 (hiN y), .int .u64 (loN y)]] w fun e w' => e = .returned (wideE (x + -y)) ∧ Below w.heap.size w w' := by
  have h192 := (in192_of hx hy).1
  have B1 : T2 (((w.alloc (.cells #[.int .i64 (hiN x), .int .u64 (loN x)] 98)).alloc (.cells #[.int .i64 (hiN y), .int .u64 (loN y)] 98)).alloc (.cells #[.int .i64 0, .int .u64 0] 98)) w.heap.size (hiN x) (loN x) := ((T2.new w _ _ _).alloc _).alloc _
  have B2 : T2 (((w.alloc (.cells #[.int .i64 (hiN x), .int .u64 (loN x)] 98)).alloc (.cells #[.int .i64 (hiN y), .int .u64 (loN y)] 98)).alloc (.cells #[.int .i64 0, .int .u64 0] 98)) (w.heap.size + 1) (hiN y) (loN y) := by
    have := (T2.new (w.alloc (.cells #[.int .i64 (hiN x), .int .u64 (loN x)] 98)) (hiN y) (loN y) 98).alloc (.cells #[.int .i64 0, .int .u64 0] 98)
    rwa [World.size_alloc] at this
  have B3 : T2 (((w.alloc (.cells #[.int .i64 (hiN x), .int .u64 (loN x)] 98)).alloc (.cells #[.int .i64 (hiN y), .int .u64 (loN y)] 98)).alloc (.cells #[.int .i64 0, .int .u64 0] 98)) (w.heap.size + 1 + 1) 0 0 := by
    have := T2.new ((w.alloc (.cells #[.int .i64 (hiN x), .int .u64 (loN x)] 98)).alloc (.cells #[.int .i64 (hiN y), .int .u64 (loN y)] 98)) 0 0 98
    rwa [World.size_alloc, World.size_alloc] at this
  have uB : Below w.heap.size w (((w.alloc (.cells #[.int .i64 (hiN x), .int .u64 (loN x)] 98)).alloc (.cells #[.int .i64 (hiN y), .int .u64 (loN y)] 98)).alloc (.cells #[.int .i64 0, .int .u64 0] 98)) := (((Below.refl _ _).alloc (Nat.le_refl _) _).alloc (by simp) _).alloc (by simp; omega) _
  have tk1 : True := trivial
  have hcs := @cell_set
  by_cases hin : In128 (x + -y)
  · have HE := Lib.hid (wideE_yes hin)
    go_enter Try.func98, Try.ntmps98
    go_wp2_with fail
    · skip
      go_region_with (first
        | (go_at_call 75; first
            | (have _t := tk1; refine (long_any x hx _).mono ?_; rintro e w1 ⟨rfl, hb1⟩; have A1 := B1.drew.below hb1; have A2 := B2.drew.below hb1; have A3 := B3.drew.below hb1; have AB := since_step uB.drew hb1; obtain ⟨p0, p1, p2, q1, q2⟩ := id A1; obtain ⟨p3, p4, p5, q4, q5⟩ := id A2; unfold sumV; clear tk1 hb1)
            | (refine (long_any y hy _).mono ?_; rintro e w2 ⟨rfl, hb2⟩; have C3 := A3.below hb2; have CB := since_step AB hb2; unfold sumV; clear hb2))
        | (go_at_call 81; refine (minus_any y _).mono ?_; rintro e w3 ⟨rfl, hb3⟩; have D3 := C3.below hb3; have DB := since_step CB hb3; unfold sumV; clear hb3)
        | (go_at_call 74; refine (plus_any x (-y) _).mono ?_; rintro e w4 ⟨rfl, hb4⟩; have E3 := D3.below hb4; have EB := since_step DB hb4; unfold sumV; clear hb4)
        | (go_at_call 76; refine (narrow_yes (x + -y) hin _).mono ?_; rintro e w5 ⟨rfl, hb5⟩; have F3 := E3.below hb5; have FB := since_step EB hb5; obtain ⟨r0, r1, r2, t1, t2⟩ := id F3; clear hb5))
      all_goals
        go_wp2
        refine bodyPost_ret (v := .tuple #[.agg #[.int .i64 (hiN (x + -y)), .int .u64 (loN (x + -y))], .int .i64 0]) ?_ rfl ?_
        · simp [results, Try.results98, go_sem, cell_set, r1, r2]
        · refine ⟨by rw [HE.out], ?_⟩
          repeat' (first | with_reducible exact FB | with_reducible refine Below.setCell ?_ ?_ _)
          all_goals first | (simp; done) | (simp; omega)
  · have HE := Lib.hid (wideE_no hin)
    go_enter Try.func98, Try.ntmps98
    go_wp2_with fail
    · skip
      go_region_with (first
        | (go_at_call 75; first
            | (have _t := tk1; refine (long_any x hx _).mono ?_; rintro e w1 ⟨rfl, hb1⟩; have A1 := B1.drew.below hb1; have A2 := B2.drew.below hb1; have A3 := B3.drew.below hb1; have AB := since_step uB.drew hb1; obtain ⟨p0, p1, p2, q1, q2⟩ := id A1; obtain ⟨p3, p4, p5, q4, q5⟩ := id A2; unfold sumV; clear tk1 hb1)
            | (refine (long_any y hy _).mono ?_; rintro e w2 ⟨rfl, hb2⟩; have C3 := A3.below hb2; have CB := since_step AB hb2; unfold sumV; clear hb2))
        | (go_at_call 81; refine (minus_any y _).mono ?_; rintro e w3 ⟨rfl, hb3⟩; have D3 := C3.below hb3; have DB := since_step CB hb3; unfold sumV; clear hb3)
        | (go_at_call 74; refine (plus_any x (-y) _).mono ?_; rintro e w4 ⟨rfl, hb4⟩; have E3 := D3.below hb4; have EB := since_step DB hb4; unfold sumV; clear hb4)
        | (go_at_call 76; refine (narrow_no (x + -y) h192 hin _).mono ?_; rintro e w5 ⟨rfl, hb5⟩; have F3 := E3.below hb5; have FB := since_step EB hb5; obtain ⟨r0, r1, r2, t1, t2⟩ := id F3; clear hb5))
      all_goals
        go_wp2
        refine bodyPost_ret (v := .tuple #[.agg #[.int .i64 0, .int .u64 0], .int .i64 7]) ?_ rfl ?_
        · simp [results, Try.results98, go_sem, cell_set, r1, r2]
        · refine ⟨by rw [HE.out], ?_⟩
          repeat' (first | with_reducible exact FB | with_reducible refine Below.setCell ?_ ?_ _)
          all_goals first | (simp; done) | (simp; omega)
end Go.Proofs.Ytlbccpiadmcpjaa
end
section
namespace Go.Proofs.Ytlbccpiadmcpjaa
open Go.ChangeShapes Go.WideShapes Go.ChangeAt Go.RowKit
set_option linter.unusedVariables false
set_option linter.unusedSimpArgs false

def absI (x : Int) : Int := if x < 0 then -x else x
theorem hi_neg {x : Int} (h : In128 x) : hiN x < 0 ↔ x < 0 := by
  rw [hi_in h]; unfold In128 at h; omega
set_option maxHeartbeats 2000000 in
theorem size_any (x : Int) (hx : In128 x) (w : World) :
    Calls Try.prog 79 #[.agg #[.int .i64 (hiN x), .int .u64 (loN x)]] w fun e w' =>
      e = .returned (.tuple #[.int .u64 (IntKind.u64.wrap (hiN (absI x))), .int .u64 (loN (absI x))]) ∧ Below w.heap.size w w' := by
  by_cases hn : x < 0
  · have hneg : hiN x < 0 := (hi_neg hx).2 hn
    have HA := Lib.hid (show absI x = -x from if_pos hn)
    clear hn
    go_enter Try.func79, Try.ntmps79
    go_wp2_with fail
    refine (long_any x hx _).mono ?_
    rintro e w1 ⟨rfl, hb1⟩
    have B1 := (T2.new w (hiN x) (loN x) 98).below hb1
    have hB1 := since_step (since_alloc (Below.refl _ _) _) hb1
    have C1 := B1.alloc (.cells #[.int .i64 (hiN x), .int .u64 (loN x), .int .i64 (topN x)] 124)
    have D1 := T3.new w1 x 124
    have hC1 := since_alloc hB1 (.cells #[.int .i64 (hiN x), .int .u64 (loN x), .int .i64 (topN x)] 124)
    unfold sumV
    clear hb1
    obtain ⟨p0, p1, p2, p3, p4⟩ := id B1
    go_wp2_with fail
    refine (minus_any x _).mono ?_
    rintro e w2 ⟨rfl, hb2⟩
    have E := D1.below hb2
    have hE := since_step hC1 hb2
    obtain ⟨q0, q1, q2, q3, q4, q5, q6⟩ := id E
    have hcs := @cell_set
    unfold sumV
    have hB0 : w.heap.size ≤ w1.heap.size := hB1.size
    clear hb2 p0 p1 p2 p3 p4 B1 C1 D1 hB1 hC1
    go_wp2_with fail
    go_quiet (fail)
    go_wp2
    go_ret2
    refine ⟨by rw [HA.out]; rfl, below_drewN ?_ _⟩
    repeat' (first | with_reducible exact hE | with_reducible refine Below.setCell ?_ ?_ _)
    all_goals exact hB0
  · have hneg : ¬ hiN x < 0 := fun h => hn ((hi_neg hx).1 h)
    have HA := Lib.hid (show absI x = x from if_neg hn)
    clear hn
    go_enter Try.func79, Try.ntmps79
    go_wp2_with fail
    refine (long_any x hx _).mono ?_
    rintro e w1 ⟨rfl, hb1⟩
    have B1 := (T2.new w (hiN x) (loN x) 98).below hb1
    have hB1 := since_step (since_alloc (Below.refl _ _) _) hb1
    unfold sumV
    clear hb1
    obtain ⟨p0, p1, p2, p3, p4⟩ := id B1
    go_wp2_with fail
    go_quiet (fail)
    go_wp2
    go_ret2
    exact ⟨by rw [HA.out]; rfl, below_drewN (since_alloc hB1 _) _⟩
end Go.Proofs.Ytlbccpiadmcpjaa
end
section
namespace Go.Proofs
open Go.Shelf
def Try.lays264_ren : Go.Shelf.Ren := ⟨fun | 264 => 83 | n => n, fun | 53 => 89 | 46 => 112 | n => n, fun | n => n⟩
theorem Try.lays264 : Go.Proofs.Lays.n264 Try.prog Try.lays264_ren := {
  mixed := by kernel_rfl
  f264 := Try.func83.trans (congrArg some (by kernel_rfl))
  t46 := Try.underlying112
  a46 := Try.isAgg112
  z46 := Try.sizeOf112
  v46 := Try.zeroValue112
  t53 := Try.underlying89
  a53 := Try.isAgg89
  z53 := Try.sizeOf89
  v53 := Try.zeroValue89 }
open Go.RowKit Go.Lib in
theorem Try.bits_Mul64 (x y : Nat) (hx : x < 18446744073709551616) (hy : y < 18446744073709551616) (w : World) :
    Calls Try.prog 83 #[.int .u64 x, .int .u64 y] w fun e w' => e = .returned (.tuple #[.int .u64 ((x * y / 18446744073709551616 : Nat) : Int), .int .u64 ((x * y % 18446744073709551616 : Nat) : Int)]) ∧ w' = w := Any.bits_Mul64 Try.lays264 x y hx hy w
end Go.Proofs
end
