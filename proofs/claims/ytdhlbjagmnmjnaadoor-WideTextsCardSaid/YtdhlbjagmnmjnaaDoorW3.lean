/-
  The law's big and is.
-/
import Derived.Test.YtdhlbjagmnmjnaaDoorW2
import Derived.Deep.RegionHeld3
namespace Go.Proofs.YtdhlbjagmnmjnaaDoor
open Go.ChangeShapes Go.WideShapes Go.ChangeAt Go.RowKit
set_option linter.unusedVariables false
set_option linter.unusedSimpArgs false

set_option maxHeartbeats 2000000 in
theorem big_any (x : Int) (hx : In128 x) (w : World) :
    Calls Tryd.prog 11 #[.agg #[.int .i64 (hiN x), .int .u64 (loN x)]] w fun e w' => bigR w w' e x ∧ Below w.heap.size w w' := by
  have HW := Lib.hid (fun w => rwide_any x hx w)
  have hcs := @cell_set
  go_enter Tryd.func11, Tryd.ntmps11
  go_wp2_with fail
  refine (HW.out _).mono ?_
  rintro e w1 ⟨⟨s, A, n, c, rfl, hf, X⟩, hb1⟩
  have A2 : BB w1 (w.heap.size + 1) false none 0 0 := by
    have := (BB.new (w.alloc (.cells #[.int .i64 (hiN x), .int .u64 (loN x)] 24)) false none 0 0 29).below hb1
    rwa [World.size_alloc] at this
  have hB1 := since_step (since_alloc (since_alloc (Below.refl _ w) _) _) hb1
  have hf' : Fr (w.heap.size + 2) A n := by simpa using hf
  clear hb1 hf
  obtain ⟨q0, q1, q2, q3, q4⟩ := A2
  go_wp2_with fail
  refine bodyPost_ret (v := .agg #[.bool s, .slice A n c]) ?_ rfl ?_
  · simp [results, Tryd.results11, go_sem, cell_set, q1, q2]
  · refine ⟨⟨s, A, n, c, rfl, hf'.le (by omega) (Nat.le_refl _), ?_⟩, ?_⟩
    · exact (X.far (fun b o hA h0 => by have := hf' b o hA h0; simp; omega) _).far (fun b o hA h0 => by have := hf' b o hA h0; simp; omega) _
    · repeat' (first | with_reducible exact hB1 | with_reducible refine Below.setCell ?_ ?_ _)
      all_goals first | (simp; done) | (simp; omega)

theorem in128_iff (z : Int) : inN z 127 ↔ In128 z := by rw [inN_127]; exact Iff.rfl
theorem BigAt.in128 {w : World} {s : Bool} {A : Option Addr} {n c : Nat} {z : Int} (h : BigAt w s A n c z) (hz : In128 z) : n ≤ 128 := h.len.2 (by
  rw [show (2 : Nat) ^ 128 = 340282366920938463463374607431768211456 from by decide]
  unfold In128 at hz
  omega)

set_option maxRecDepth 100000 in
set_option maxHeartbeats 4000000 in
theorem is01_any (z : Int) (s : Bool) (A : Option Addr) (n c : Nat) (w : World) (la : n ≤ 100000) (hx : BigAt w s A n c z) :
    Calls Tryd.prog 23 #[.agg #[.int .i64 (eH z), .int .u64 (eL z)], .int .i64 (eE z), .agg #[.bool s, .slice A n c]] w fun e w' => e = .returned (.bool true) ∧ Below w.heap.size w w' := by
  by_cases h : In128 z
  · have HF := Lib.hid (show decide (inN z 127) = true from decide_eq_true ((in128_iff z).2 h))
    rw [show eH z = hiN z from if_pos h, show eL z = loN z from if_pos h, show eE z = 0 from if_pos h]
    have P0 := (T2.new w (hiN z) (loN z) 24).alloc (.cells #[.bool s, .slice A n c] 29)
    have Q0 : BB ((w.alloc (.cells #[.int .i64 (hiN z), .int .u64 (loN z)] 24)).alloc (.cells #[.bool s, .slice A n c] 29)) (w.heap.size + 1) s A n c := by
      have := BB.new (w.alloc (.cells #[.int .i64 (hiN z), .int .u64 (loN z)] 24)) s A n c 29
      rwa [World.size_alloc] at this
    have hB0 := since_alloc (since_alloc (Below.refl _ w) (.cells #[.int .i64 (hiN z), .int .u64 (loN z)] 24)) (.cells #[.bool s, .slice A n c] 29)
    have X0 := hx.below hB0
    have HBG := Lib.hid (fun w => big_any z h w)
    have HWI := Lib.hid (fun w hx => bwithin_any z 127 128 (by decide) (by decide) s A n c w la hx)
    have hx2 := @BigAt.in128
    have HN := Lib.hid (fun w s A n c (hz : BigAt w s A n c z) => hx2 hz h)
    have HC := Lib.hid (show cmpZ z z = 0 from by unfold cmpZ; simp)
    clear hx hx2
    go_enter Tryd.func23, Tryd.ntmps23
    go_upto_region 1 with fail
    generalize (w.alloc (.cells #[.int .i64 (hiN z), .int .u64 (loN z)] 24)).alloc (.cells #[.bool s, .slice A n c] 29) = W0 at *
    obtain ⟨q0, q1, q2, q3, q4⟩ := _root_.id Q0
    go_wp2_with fail
    refine (HWI.out _ X0).mono ?_
    rintro e w1 ⟨rfl, hb1⟩
    rw [HF.out]
    have X1 := X0.below hb1
    have P1 := P0.below hb1
    have Q1 := Q0.below hb1
    have hB1 := since_step hB0 hb1
    clear hb1 P0 X0 Q0 q0 q1 q2 q3 q4 h HWI HF
    go_upto_region 3 with fail
    have sO : ∀ W, Below w1.heap.size w1 W → (Below w1.heap.size w1 W ∧ W.cell? ⟨w.heap.size, 0, none⟩ = some (.int .i64 (hiN z)) ∧ W.cell? ⟨w.heap.size, 1, none⟩ = some (.int .u64 (loN z)) ∧ W.cell? ⟨w.heap.size + 1, 0, none⟩ = some (.bool s) ∧ W.cell? ⟨w.heap.size + 1, 1, none⟩ = some (.slice A n c)) := fun W h => ⟨h, (P1.below h).2.1, (P1.below h).2.2.1, (Q1.below h).2.1, (Q1.below h).2.2.1⟩
    have SO := Lib.hid sO
    have XO := Lib.hid (fun W (h : Below w1.heap.size w1 W) => X1.below h)
    clear sO P1 X1 Q1
    go_region_held3 (fun W => Below w1.heap.size w1 W ∧ W.cell? ⟨w.heap.size, 0, none⟩ = some (.int .i64 (hiN z)) ∧ W.cell? ⟨w.heap.size, 1, none⟩ = some (.int .u64 (loN z)) ∧ W.cell? ⟨w.heap.size + 1, 0, none⟩ = some (.bool s) ∧ W.cell? ⟨w.heap.size + 1, 1, none⟩ = some (.slice A n c))
      (first | exact SO.out _ (by assumption) | exact SO.out _ (Below.refl _ _).drew | assumption)
      (first
        | (go_at_call 11; go_split_ands; refine (HBG.out _).mono ?_; rintro e w2 ⟨⟨s2, A2, n2, c2, rfl, hfr, hbig⟩, hb2⟩; have hbW2 := since_step (by assumption) hb2; have hn2 : n2 ≤ 128 := HN.out _ _ _ _ _ hbig)
        | (go_at_call 10; go_split_ands; refine (bcmp_any z z s2 s A2 A n2 c2 n c _ (by omega) la hbig (XO.out _ (by assumption))).mono ?_; rintro e w3 ⟨rfl, hb3⟩; have hbW3 := since_step (by assumption) hb3; rw [HC.out]))
    go_wp2
    go_ret
    go_split_ands
    exact ⟨rfl, since_step hB1 (by assumption)⟩
  · have HF := Lib.hid (show decide (inN z 127) = false from decide_eq_false fun g => h ((in128_iff z).1 g))
    rw [show eH z = 0 from if_neg h, show eL z = 0 from if_neg h, show eE z = 7 from if_neg h]
    have P0 := (T2.new w 0 0 24).alloc (.cells #[.bool s, .slice A n c] 29)
    have Q0 : BB ((w.alloc (.cells #[.int .i64 0, .int .u64 0] 24)).alloc (.cells #[.bool s, .slice A n c] 29)) (w.heap.size + 1) s A n c := by
      have := BB.new (w.alloc (.cells #[.int .i64 0, .int .u64 0] 24)) s A n c 29
      rwa [World.size_alloc] at this
    have hB0 := since_alloc (since_alloc (Below.refl _ w) (.cells #[.int .i64 0, .int .u64 0] 24)) (.cells #[.bool s, .slice A n c] 29)
    have X0 := hx.below hB0
    have HWI := Lib.hid (fun w hx => bwithin_any z 127 128 (by decide) (by decide) s A n c w la hx)
    clear hx
    go_enter Tryd.func23, Tryd.ntmps23
    go_upto_region 1 with fail
    generalize (w.alloc (.cells #[.int .i64 0, .int .u64 0] 24)).alloc (.cells #[.bool s, .slice A n c] 29) = W0 at *
    obtain ⟨q0, q1, q2, q3, q4⟩ := _root_.id Q0
    go_wp2_with fail
    refine (HWI.out _ X0).mono ?_
    rintro e w1 ⟨rfl, hb1⟩
    rw [HF.out]
    obtain ⟨p0, p1, p2, p3, p4⟩ := P0.below hb1
    have hB1 := since_step hB0 hb1
    go_wp2
    go_ret
    exact ⟨rfl, hB1⟩
end Go.Proofs.YtdhlbjagmnmjnaaDoor
