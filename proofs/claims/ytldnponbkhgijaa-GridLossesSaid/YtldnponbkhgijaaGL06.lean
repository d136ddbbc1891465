import Derived.Deep.RegionWith
import Derived.Test.YtldnponbkhgijaaGL05
import Derived.Shelf.Bits.Mul64
import Derived.Shelf.Small.Bits
import Derived.Shelf.Strconv.Itoa0
import Derived.Test.YtldnponbkhgijaaProg
section
namespace Go.Proofs.Ytldnponbkhgijaa
open Go.ChangeShapes Go.WideShapes Go.ChangeAt Go.RowKit
set_option linter.unusedVariables false
set_option linter.unusedSimpArgs false

def T3 (w : World) (g : Nat) (x : Int) : Prop :=
  g < w.heap.size ∧ w.cell? ⟨g, 0, none⟩ = some (.int .i64 (hiN x)) ∧ w.cell? ⟨g, 1, none⟩ = some (.int .u64 (loN x)) ∧ w.cell? ⟨g, 2, none⟩ = some (.int .i64 (topN x)) ∧
  w.frozen? ⟨g, 0, none⟩ = false ∧ w.frozen? ⟨g, 1, none⟩ = false ∧ w.frozen? ⟨g, 2, none⟩ = false
def T2 (w : World) (g : Nat) (a b : Int) : Prop :=
  g < w.heap.size ∧ w.cell? ⟨g, 0, none⟩ = some (.int .i64 a) ∧ w.cell? ⟨g, 1, none⟩ = some (.int .u64 b) ∧ w.frozen? ⟨g, 0, none⟩ = false ∧ w.frozen? ⟨g, 1, none⟩ = false
section
variable {w w' : World} {g : Nat} {x a b : Int}
theorem T3.below (h : T3 w g x) (hb : Below w.heap.size w w') : T3 w' g x := by
  obtain ⟨h0, h1, h2, h3, f1, f2, f3⟩ := h
  exact ⟨Nat.lt_of_lt_of_le h0 hb.size, (hb.cell (p := ⟨g, 0, none⟩) h0).trans h1, (hb.cell (p := ⟨g, 1, none⟩) h0).trans h2, (hb.cell (p := ⟨g, 2, none⟩) h0).trans h3,
    (hb.frozen (p := ⟨g, 0, none⟩) h0).trans f1, (hb.frozen (p := ⟨g, 1, none⟩) h0).trans f2, (hb.frozen (p := ⟨g, 2, none⟩) h0).trans f3⟩
theorem T2.below (h : T2 w g a b) (hb : Below w.heap.size w w') : T2 w' g a b := by
  obtain ⟨h0, h1, h2, f1, f2⟩ := h
  exact ⟨Nat.lt_of_lt_of_le h0 hb.size, (hb.cell (p := ⟨g, 0, none⟩) h0).trans h1, (hb.cell (p := ⟨g, 1, none⟩) h0).trans h2, (hb.frozen (p := ⟨g, 0, none⟩) h0).trans f1, (hb.frozen (p := ⟨g, 1, none⟩) h0).trans f2⟩
theorem T2.far (h : T2 w g a b) {p : Addr} (hp : p.block ≠ g) (v : Value) : T2 (w.setCell p v) g a b := by
  obtain ⟨h0, h1, h2, f1, f2⟩ := h
  have k : ∀ o, (w.setCell p v).cell? ⟨g, o, none⟩ = w.cell? ⟨g, o, none⟩ := fun o => World.cell?_setCell_other w _ _ _ (by rintro rfl; exact hp rfl)
  exact ⟨by simpa using h0, (k 0).trans h1, (k 1).trans h2, by simpa using f1, by simpa using f2⟩
theorem T2.new (w : World) (a b : Int) (t : TypeId) : T2 (w.alloc (.cells #[.int .i64 a, .int .u64 b] t)) w.heap.size a b := by
  refine ⟨by simp, ?_, ?_, ?_, ?_⟩ <;> simp
theorem T2.alloc (h : T2 w g a b) (o : Obj) : T2 (w.alloc o) g a b := h.below ((Below.refl _ _).alloc (Nat.le_refl _) o)
theorem T3.alloc (h : T3 w g x) (o : Obj) : T3 (w.alloc o) g x := h.below ((Below.refl _ _).alloc (Nat.le_refl _) o)
theorem T3.new (w : World) (x : Int) (t : TypeId) : T3 (w.alloc (.cells #[.int .i64 (hiN x), .int .u64 (loN x), .int .i64 (topN x)] t)) w.heap.size x := by
  refine ⟨by simp, ?_, ?_, ?_, ?_, ?_, ?_⟩ <;> simp
theorem T3.drew (h : T3 w g x) : T3 w.drew g x := h
theorem T2.drew (h : T2 w g a b) : T2 w.drew g a b := h
end
theorem zero_parts : hiN 0 = 0 ∧ loN 0 = 0 ∧ topN 0 = 0 := by decide
def wideE (x : Int) : Value := if In128 x then .tuple #[.agg #[.int .i64 (hiN x), .int .u64 (loN x)], .int .i64 0] else .tuple #[.agg #[.int .i64 0, .int .u64 0], .int .i64 7]
theorem wideE_yes {x : Int} (h : In128 x) : wideE x = .tuple #[.agg #[.int .i64 (hiN x), .int .u64 (loN x)], .int .i64 0] := if_pos h
theorem wideE_no {x : Int} (h : ¬ In128 x) : wideE x = .tuple #[.agg #[.int .i64 0, .int .u64 0], .int .i64 7] := if_neg h
end Go.Proofs.Ytldnponbkhgijaa
end
section
namespace Go.Proofs.Ytldnponbkhgijaa
open Go.ChangeShapes Go.WideShapes Go.ChangeAt Go.RowKit
set_option linter.unusedVariables false
set_option linter.unusedSimpArgs false

theorem in192_of {x y : Int} (hx : In128 x) (hy : In128 y) : In192 (x + -y) ∧ In192 (-x) := by
  unfold In128 In192 at *; omega
set_option maxHeartbeats 2000000 in
theorem wsub_any (x y : Int) (hx : In128 x) (hy : In128 y) (w : World) :
    Calls Try.prog 107 #[.agg #[.int .i64 (hiN x), .int .u64 (loN x)], .agg #[.int .i64 (hiN y), .int .u64 (loN y)]] w fun e w' => e = .returned (wideE (x + -y)) ∧ Below w.heap.size w w' := by
  have h192 := (in192_of hx hy).1
  have B1 : T2 (((w.alloc (.cells #[.int .i64 (hiN x), .int .u64 (loN x)] 28)).alloc (.cells #[.int .i64 (hiN y), .int .u64 (loN y)] 28)).alloc (.cells #[.int .i64 0, .int .u64 0] 28)) w.heap.size (hiN x) (loN x) := ((T2.new w _ _ _).alloc _).alloc _
  have B2 : T2 (((w.alloc (.cells #[.int .i64 (hiN x), .int .u64 (loN x)] 28)).alloc (.cells #[.int .i64 (hiN y), .int .u64 (loN y)] 28)).alloc (.cells #[.int .i64 0, .int .u64 0] 28)) (w.heap.size + 1) (hiN y) (loN y) := by
    have := (T2.new (w.alloc (.cells #[.int .i64 (hiN x), .int .u64 (loN x)] 28)) (hiN y) (loN y) 28).alloc (.cells #[.int .i64 0, .int .u64 0] 28)
    rwa [World.size_alloc] at this
  have B3 : T2 (((w.alloc (.cells #[.int .i64 (hiN x), .int .u64 (loN x)] 28)).alloc (.cells #[.int .i64 (hiN y), .int .u64 (loN y)] 28)).alloc (.cells #[.int .i64 0, .int .u64 0] 28)) (w.heap.size + 1 + 1) 0 0 := by
    have := T2.new ((w.alloc (.cells #[.int .i64 (hiN x), .int .u64 (loN x)] 28)).alloc (.cells #[.int .i64 (hiN y), .int .u64 (loN y)] 28)) 0 0 28
    rwa [World.size_alloc, World.size_alloc] at this
  have uB : Below w.heap.size w (((w.alloc (.cells #[.int .i64 (hiN x), .int .u64 (loN x)] 28)).alloc (.cells #[.int .i64 (hiN y), .int .u64 (loN y)] 28)).alloc (.cells #[.int .i64 0, .int .u64 0] 28)) := (((Below.refl _ _).alloc (Nat.le_refl _) _).alloc (by simp) _).alloc (by simp; omega) _
  have tk1 : True := trivial
  have hcs := @cell_set
  by_cases hin : In128 (x + -y)
  · have HE := Lib.hid (wideE_yes hin)
    go_enter Try.func107, Try.ntmps107
    go_wp2_with fail
    · skip
      go_region_with (first
        | (go_at_call 140; first
            | (have _t := tk1; refine (long_any x hx _).mono ?_; rintro e w1 ⟨rfl, hb1⟩; have A1 := B1.drew.below hb1; have A2 := B2.drew.below hb1; have A3 := B3.drew.below hb1; have AB := since_step uB.drew hb1; obtain ⟨p0, p1, p2, q1, q2⟩ := id A1; obtain ⟨p3, p4, p5, q4, q5⟩ := id A2; unfold sumV; clear tk1 hb1)
            | (refine (long_any y hy _).mono ?_; rintro e w2 ⟨rfl, hb2⟩; have C3 := A3.below hb2; have CB := since_step AB hb2; unfold sumV; clear hb2))
        | (go_at_call 166; refine (minus_any y _).mono ?_; rintro e w3 ⟨rfl, hb3⟩; have D3 := C3.below hb3; have DB := since_step CB hb3; unfold sumV; clear hb3)
        | (go_at_call 139; refine (plus_any x (-y) _).mono ?_; rintro e w4 ⟨rfl, hb4⟩; have E3 := D3.below hb4; have EB := since_step DB hb4; unfold sumV; clear hb4)
        | (go_at_call 141; refine (narrow_yes (x + -y) hin _).mono ?_; rintro e w5 ⟨rfl, hb5⟩; have F3 := E3.below hb5; have FB := since_step EB hb5; obtain ⟨r0, r1, r2, t1, t2⟩ := id F3; clear hb5))
      all_goals
        go_wp2
        refine bodyPost_ret (v := .tuple #[.agg #[.int .i64 (hiN (x + -y)), .int .u64 (loN (x + -y))], .int .i64 0]) ?_ rfl ?_
        · simp [results, Try.results107, go_sem, cell_set, r1, r2]
        · refine ⟨by rw [HE.out], ?_⟩
          repeat' (first | with_reducible exact FB | with_reducible refine Below.setCell ?_ ?_ _)
          all_goals first | (simp; done) | (simp; omega)
  · have HE := Lib.hid (wideE_no hin)
    go_enter Try.func107, Try.ntmps107
    go_wp2_with fail
    · skip
      go_region_with (first
        | (go_at_call 140; first
            | (have _t := tk1; refine (long_any x hx _).mono ?_; rintro e w1 ⟨rfl, hb1⟩; have A1 := B1.drew.below hb1; have A2 := B2.drew.below hb1; have A3 := B3.drew.below hb1; have AB := since_step uB.drew hb1; obtain ⟨p0, p1, p2, q1, q2⟩ := id A1; obtain ⟨p3, p4, p5, q4, q5⟩ := id A2; unfold sumV; clear tk1 hb1)
            | (refine (long_any y hy _).mono ?_; rintro e w2 ⟨rfl, hb2⟩; have C3 := A3.below hb2; have CB := since_step AB hb2; unfold sumV; clear hb2))
        | (go_at_call 166; refine (minus_any y _).mono ?_; rintro e w3 ⟨rfl, hb3⟩; have D3 := C3.below hb3; have DB := since_step CB hb3; unfold sumV; clear hb3)
        | (go_at_call 139; refine (plus_any x (-y) _).mono ?_; rintro e w4 ⟨rfl, hb4⟩; have E3 := D3.below hb4; have EB := since_step DB hb4; unfold sumV; clear hb4)
        | (go_at_call 141; refine (narrow_no (x + -y) h192 hin _).mono ?_; rintro e w5 ⟨rfl, hb5⟩; have F3 := E3.below hb5; have FB := since_step EB hb5; obtain ⟨r0, r1, r2, t1, t2⟩ := id F3; clear hb5))
      all_goals
        go_wp2
        refine bodyPost_ret (v := .tuple #[.agg #[.int .i64 0, .int .u64 0], .int .i64 7]) ?_ rfl ?_
        · simp [results, Try.results107, go_sem, cell_set, r1, r2]
        · refine ⟨by rw [HE.out], ?_⟩
          repeat' (first | with_reducible exact FB | with_reducible refine Below.setCell ?_ ?_ _)
          all_goals first | (simp; done) | (simp; omega)
end Go.Proofs.Ytldnponbkhgijaa
end
section
namespace Go.Proofs.Ytldnponbkhgijaa
open Go.ChangeShapes Go.WideShapes Go.ChangeAt Go.RowKit
set_option linter.unusedVariables false
set_option linter.unusedSimpArgs false

def absI (x : Int) : Int := if x < 0 then -x else x
theorem hi_neg {x : Int} (h : In128 x) : hiN x < 0 ↔ x < 0 := by
  rw [hi_in h]; unfold In128 at h; omega
set_option maxHeartbeats 2000000 in
theorem size_any (x : Int) (hx : In128 x) (w : World) :
    Calls Try.prog 225 #[.agg #[.int .i64 (hiN x), .int .u64 (loN x)]] w fun e w' =>
      e = .returned (.tuple #[.int .u64 (IntKind.u64.wrap (hiN (absI x))), .int .u64 (loN (absI x))]) ∧ Below w.heap.size w w' := by
  by_cases hn : x < 0
  · have hneg : hiN x < 0 := (hi_neg hx).2 hn
    have HA := Lib.hid (show absI x = -x from if_pos hn)
    clear hn
    go_enter Try.func225, Try.ntmps225
    go_wp2_with fail
    refine (long_any x hx _).mono ?_
    rintro e w1 ⟨rfl, hb1⟩
    have B1 := (T2.new w (hiN x) (loN x) 28).below hb1
    have hB1 := since_step (since_alloc (Below.refl _ _) _) hb1
    have C1 := B1.alloc (.cells #[.int .i64 (hiN x), .int .u64 (loN x), .int .i64 (topN x)] 189)
    have D1 := T3.new w1 x 189
    have hC1 := since_alloc hB1 (.cells #[.int .i64 (hiN x), .int .u64 (loN x), .int .i64 (topN x)] 189)
    unfold sumV
    clear hb1
    obtain ⟨p0, p1, p2, p3, p4⟩ := id B1
    go_wp2_with fail
    refine (minus_any x _).mono ?_
    rintro e w2 ⟨rfl, hb2⟩
    have E := D1.below hb2
    have hE := since_step hC1 hb2
    obtain ⟨q0, q1, q2, q3, q4, q5, q6⟩ := id E
    have hcs := @cell_set
    unfold sumV
    have hB0 : w.heap.size ≤ w1.heap.size := hB1.size
    clear hb2 p0 p1 p2 p3 p4 B1 C1 D1 hB1 hC1
    go_wp2_with fail
    go_quiet (fail)
    go_wp2
    go_ret2
    refine ⟨by rw [HA.out]; rfl, below_drewN ?_ _⟩
    repeat' (first | with_reducible exact hE | with_reducible refine Below.setCell ?_ ?_ _)
    all_goals exact hB0
  · have hneg : ¬ hiN x < 0 := fun h => hn ((hi_neg hx).1 h)
    have HA := Lib.hid (show absI x = x from if_neg hn)
    clear hn
    go_enter Try.func225, Try.ntmps225
    go_wp2_with fail
    refine (long_any x hx _).mono ?_
    rintro e w1 ⟨rfl, hb1⟩
    have B1 := (T2.new w (hiN x) (loN x) 28).below hb1
    have hB1 := since_step (since_alloc (Below.refl _ _) _) hb1
    unfold sumV
    clear hb1
    obtain ⟨p0, p1, p2, p3, p4⟩ := id B1
    go_wp2_with fail
    go_quiet (fail)
    go_wp2
    go_ret2
    exact ⟨by rw [HA.out]; rfl, below_drewN (since_alloc hB1 _) _⟩
end Go.Proofs.Ytldnponbkhgijaa
end
section
namespace Go.Proofs
open Go.Shelf
def Try.lays264_ren : Go.Shelf.Ren := ⟨fun | 264 => 226 | n => n, fun | 53 => 26 | 46 => 187 | n => n, fun | n => n⟩
theorem Try.lays264 : Go.Proofs.Lays.n264 Try.prog Try.lays264_ren := {
  mixed := by kernel_rfl
  f264 := Try.func226.trans (congrArg some (by kernel_rfl))
  t46 := Try.underlying187
  a46 := Try.isAgg187
  z46 := Try.sizeOf187
  v46 := Try.zeroValue187
  t53 := Try.underlying26
  a53 := Try.isAgg26
  z53 := Try.sizeOf26
  v53 := Try.zeroValue26 }
open Go.RowKit Go.Lib in
theorem Try.bits_Mul64 (x y : Nat) (hx : x < 18446744073709551616) (hy : y < 18446744073709551616) (w : World) :
    Calls Try.prog 226 #[.int .u64 x, .int .u64 y] w fun e w' => e = .returned (.tuple #[.int .u64 ((x * y / 18446744073709551616 : Nat) : Int), .int .u64 ((x * y % 18446744073709551616 : Nat) : Int)]) ∧ w' = w := Any.bits_Mul64 Try.lays264 x y hx hy w
end Go.Proofs
end
