/-
  WideSubs: the walk.
-/
import Derived.Test.YtdhlbjagmnmjnaaDoorW5
namespace Go.Proofs.YtdhlbjagmnmjnaaDoor
open Go.ChangeShapes Go.WideShapes Go.ChangeAt Go.RowKit
set_option linter.unusedVariables false
set_option linter.unusedSimpArgs false

theorem BigAt.in192 {w : World} {s : Bool} {A : Option Addr} {n c : Nat} {z : Int} (h : BigAt w s A n c z) (hz : In192 z) : n ≤ 192 := h.len.2 (by
  rw [show (2 : Nat) ^ 192 = 6277101735386680763835789423207666416102355444464034512896 from by decide]
  unfold In192 at hz
  omega)

set_option maxRecDepth 100000 in
set_option maxHeartbeats 16000000 in
theorem walk_WideSubs (a0 : Array Value) (a1 : Array Value) (a2 : Int) (w : World) (w0 : Rd w (.cat (.int .i64) (.cat (.int .u64) .nil)) a0.toList) (w1 : Rd w (.cat (.int .i64) (.cat (.int .u64) .nil)) a1.toList) (w2 : (Lit.int .i64 a2).wf = true) :
    Calls Tryd.prog 6 #[.agg a0, .agg a1, .int .i64 a2] w fun e w' => e = .returned (.bool true) ∧ Below w.heap.size w w' := by
  have hn : In64 a2 := bd_i64 w2
  obtain ⟨x, hx, rfl⟩ := rd_wide w0
  obtain ⟨y, hy, rfl⟩ := rd_wide w1
  clear w0 w1 w2
  generalize a2 = n at *
  have Pa := (T2.new w (hiN x) (loN x) 24).alloc (.cells #[.int .i64 (hiN y), .int .u64 (loN y)] 24)
  have Pb : T2 ((w.alloc (.cells #[.int .i64 (hiN x), .int .u64 (loN x)] 24)).alloc (.cells #[.int .i64 (hiN y), .int .u64 (loN y)] 24)) (w.heap.size + 1) (hiN y) (loN y) := by
    have := T2.new (w.alloc (.cells #[.int .i64 (hiN x), .int .u64 (loN x)] 24)) (hiN y) (loN y) 24
    rwa [World.size_alloc] at this
  have hB := since_alloc (since_alloc (Below.refl _ w) (.cells #[.int .i64 (hiN x), .int .u64 (loN x)] 24)) (.cells #[.int .i64 (hiN y), .int .u64 (loN y)] 24)
  have i1 := (in192_of hx hy).1
  have i2 := (in192_of hx hy).2
  have i3 := mul_bound x n hx hn
  have hl := @BigAt.in192
  have h128 := @BigAt.in128
  have h64 := @BigAt.l64
  have HL1 := Lib.hid (fun w s A n c (h : BigAt w s A n c (x + -y)) => hl h i1)
  have HL2 := Lib.hid (fun w s A n c (h : BigAt w s A n c (-x)) => hl h i2)
  have HL3 := Lib.hid (fun w s A m c (h : BigAt w s A m c (x * n)) => hl h i3)
  have HNX := Lib.hid (fun w s A n c (h : BigAt w s A n c x) => h128 h hx)
  have HNY := Lib.hid (fun w s A n c (h : BigAt w s A n c y) => h128 h hy)
  have HLN := Lib.hid (fun w s A m c (h : BigAt w s A m c n) => h64 h hn)
  have HBX := Lib.hid (fun w => big_any x hx w)
  have HBY := Lib.hid (fun w => big_any y hy w)
  have HON := Lib.hid (fun w => bof_any n w hn)
  have HSB := fun w => wsub_any x y hx hy w
  have HNG := fun w => wneg_any x hx w
  have HTM := fun w => wtimes_any x n hx hn w
  rw [wideE_form] at HSB HNG HTM
  have HSB := Lib.hid HSB
  have HNG := Lib.hid HNG
  have HTM := Lib.hid HTM
  have HS1 := Lib.hid (show x - y = x + -y from Int.sub_eq_add_neg)
  clear hl h128 h64 i1 i2 i3 hx hy hn
  obtain ⟨z1, hz1⟩ : ∃ z, z = x + -y := ⟨_, rfl⟩
  obtain ⟨z2, hz2⟩ : ∃ z, z = -x := ⟨_, rfl⟩
  obtain ⟨z3, hz3⟩ : ∃ z, z = x * n := ⟨_, rfl⟩
  rw [← hz1] at HL1 HSB HS1
  rw [← hz2] at HL2 HNG
  rw [← hz3] at HL3 HTM
  have HS2 := Lib.hid hz2.symm
  have HS3 := Lib.hid hz3.symm
  clear hz1 hz2 hz3
  go_enter Tryd.func6, Tryd.ntmps6
  go_upto_region 1 with fail
  generalize (w.alloc (.cells #[.int .i64 (hiN x), .int .u64 (loN x)] 24)).alloc (.cells #[.int .i64 (hiN y), .int .u64 (loN y)] 24) = W0 at *
  obtain ⟨p0, p1, p2, p3, p4⟩ := _root_.id Pa
  obtain ⟨q0, q1, q2, q3, q4⟩ := _root_.id Pb
  go_wp2_with fail
  refine (HSB.out _).mono ?_
  rintro e w1 ⟨rfl, hb1⟩
  have Pa := (Pa.below hb1).alloc (.cells #[.int .i64 (eH z1), .int .u64 (eL z1)] 24)
  have Pb := (Pb.below hb1).alloc (.cells #[.int .i64 (eH z1), .int .u64 (eL z1)] 24)
  have Pc := T2.new w1 (eH z1) (eL z1) 24
  have hB := since_alloc (since_step hB hb1) (.cells #[.int .i64 (eH z1), .int .u64 (eL z1)] 24)
  clear hb1 p0 p1 p2 p3 p4 q0 q1 q2 q3 q4
  go_upto_region 2 with fail
  generalize w1.alloc (.cells #[.int .i64 (eH z1), .int .u64 (eL z1)] 24) = W1 at *
  obtain ⟨p0, p1, p2, p3, p4⟩ := _root_.id Pa
  go_wp2_with fail
  refine (HNG.out _).mono ?_
  rintro e w2 ⟨rfl, hb2⟩
  have Pa := (Pa.below hb2).alloc (.cells #[.int .i64 (eH z2), .int .u64 (eL z2)] 24)
  have Pb := (Pb.below hb2).alloc (.cells #[.int .i64 (eH z2), .int .u64 (eL z2)] 24)
  have Pc := (Pc.below hb2).alloc (.cells #[.int .i64 (eH z2), .int .u64 (eL z2)] 24)
  have Pd := T2.new w2 (eH z2) (eL z2) 24
  have hB := since_alloc (since_step hB hb2) (.cells #[.int .i64 (eH z2), .int .u64 (eL z2)] 24)
  clear hb2 p0 p1 p2 p3 p4
  go_upto_region 3 with fail
  generalize w2.alloc (.cells #[.int .i64 (eH z2), .int .u64 (eL z2)] 24) = W2 at *
  obtain ⟨p0, p1, p2, p3, p4⟩ := _root_.id Pa
  go_wp2_with fail
  refine (HTM.out _).mono ?_
  rintro e w3 ⟨rfl, hb3⟩
  have Pa := (Pa.below hb3).alloc (.cells #[.int .i64 (eH z3), .int .u64 (eL z3)] 24)
  have Pb := (Pb.below hb3).alloc (.cells #[.int .i64 (eH z3), .int .u64 (eL z3)] 24)
  have Pc := (Pc.below hb3).alloc (.cells #[.int .i64 (eH z3), .int .u64 (eL z3)] 24)
  have Pd := (Pd.below hb3).alloc (.cells #[.int .i64 (eH z3), .int .u64 (eL z3)] 24)
  have Pe := T2.new w3 (eH z3) (eL z3) 24
  have hB := since_alloc (since_step hB hb3) (.cells #[.int .i64 (eH z3), .int .u64 (eL z3)] 24)
  clear hb3 p0 p1 p2 p3 p4 HSB HNG HTM
  go_upto_region 4 with fail
  generalize w3.alloc (.cells #[.int .i64 (eH z3), .int .u64 (eL z3)] 24) = W3 at *
  have sO : ∀ W, Below W3.heap.size W3 W → (Below W3.heap.size W3 W ∧ W.cell? ⟨w.heap.size, 0, none⟩ = some (.int .i64 (hiN x)) ∧ W.cell? ⟨w.heap.size, 1, none⟩ = some (.int .u64 (loN x)) ∧ W.cell? ⟨w.heap.size + 1, 0, none⟩ = some (.int .i64 (hiN y)) ∧ W.cell? ⟨w.heap.size + 1, 1, none⟩ = some (.int .u64 (loN y)) ∧ W.cell? ⟨w1.heap.size, 0, none⟩ = some (.int .i64 (eH z1)) ∧ W.cell? ⟨w1.heap.size, 1, none⟩ = some (.int .u64 (eL z1)) ∧ W.cell? ⟨w2.heap.size, 0, none⟩ = some (.int .i64 (eH z2)) ∧ W.cell? ⟨w2.heap.size, 1, none⟩ = some (.int .u64 (eL z2)) ∧ W.cell? ⟨w3.heap.size, 0, none⟩ = some (.int .i64 (eH z3)) ∧ W.cell? ⟨w3.heap.size, 1, none⟩ = some (.int .u64 (eL z3))) := fun W h => ⟨h, (Pa.below h).2.1, (Pa.below h).2.2.1, (Pb.below h).2.1, (Pb.below h).2.2.1, (Pc.below h).2.1, (Pc.below h).2.2.1, (Pd.below h).2.1, (Pd.below h).2.2.1, (Pe.below h).2.1, (Pe.below h).2.2.1⟩
  have SO := Lib.hid sO
  clear sO Pa Pb Pc Pd Pe
  have tk1 : True := trivial
  have tk2 : True := trivial
  have tk3 : True := trivial
  have tk4 : True := trivial
  have tk5 : True := trivial
  have tk6 : True := trivial
  have tk7 : True := trivial
  go_region_held3 (fun W => Below W3.heap.size W3 W ∧ W.cell? ⟨w.heap.size, 0, none⟩ = some (.int .i64 (hiN x)) ∧ W.cell? ⟨w.heap.size, 1, none⟩ = some (.int .u64 (loN x)) ∧ W.cell? ⟨w.heap.size + 1, 0, none⟩ = some (.int .i64 (hiN y)) ∧ W.cell? ⟨w.heap.size + 1, 1, none⟩ = some (.int .u64 (loN y)) ∧ W.cell? ⟨w1.heap.size, 0, none⟩ = some (.int .i64 (eH z1)) ∧ W.cell? ⟨w1.heap.size, 1, none⟩ = some (.int .u64 (eL z1)) ∧ W.cell? ⟨w2.heap.size, 0, none⟩ = some (.int .i64 (eH z2)) ∧ W.cell? ⟨w2.heap.size, 1, none⟩ = some (.int .u64 (eL z2)) ∧ W.cell? ⟨w3.heap.size, 0, none⟩ = some (.int .i64 (eH z3)) ∧ W.cell? ⟨w3.heap.size, 1, none⟩ = some (.int .u64 (eL z3)))
      (first | exact SO.out _ (by assumption) | exact SO.out _ (Below.refl _ _).drew | assumption)
      (first
        | (go_at_call 11; clear tk1; go_split_ands; refine (HBX.out _).mono ?_; rintro e v1 ⟨⟨s1, A1, n1, c1, rfl, hf1, X1⟩, hb1⟩; have hbW1 := since_step (by assumption) hb1; have l1 : n1 ≤ 128 := HNX.out _ _ _ _ _ X1)
        | (go_at_call 11; clear tk2; go_split_ands; refine (HBY.out _).mono ?_; rintro e v2 ⟨⟨s2, A2, n2, c2, rfl, hf2, X2⟩, hb2⟩; have hbW2 := since_step (by assumption) hb2; have l2 : n2 ≤ 128 := HNY.out _ _ _ _ _ X2; have X1 := X1.below hb2)
        | (go_at_call 27; go_split_ands; refine (bsub_any x y s1 s2 A1 A2 n1 c1 n2 c2 _ (by omega) (by omega) X1 X2).mono ?_; rintro e v3 ⟨⟨s3, A3, n3, c3, rfl, hf3, X3⟩, hb3⟩; have hbW3 := since_step (by assumption) hb3; rw [HS1.out] at X3; have l3 : n3 ≤ 192 := HL1.out _ _ _ _ _ X3)
        | (go_at_call 23; clear tk3; go_split_ands; refine (is01_any z1 s3 A3 n3 c3 _ (by omega) X3).mono ?_; rintro e v4 ⟨rfl, hb4⟩; have hbW4 := since_step (by assumption) hb4)
        | (go_at_call 11; clear tk4; go_split_ands; refine (HBX.out _).mono ?_; rintro e v5 ⟨⟨s5, A5, n5, c5, rfl, hf5, X5⟩, hb5⟩; have hbW5 := since_step (by assumption) hb5; have l5 : n5 ≤ 128 := HNX.out _ _ _ _ _ X5)
        | (go_at_call 28; go_split_ands; refine (bneg' (by omega) X5).mono ?_; rintro e v6 ⟨⟨s6, n6, c6, rfl, hf6, X6⟩, hb6⟩; have hbW6 := since_step (by assumption) hb6; rw [HS2.out] at X6; have l6 : n6 ≤ 192 := HL2.out _ _ _ _ _ X6)
        | (go_at_call 23; clear tk5; go_split_ands; refine (is01_any z2 s6 A5 n6 c6 _ (by omega) X6).mono ?_; rintro e v7 ⟨rfl, hb7⟩; have hbW7 := since_step (by assumption) hb7)
        | (go_at_call 11; clear tk6; go_split_ands; refine (HBX.out _).mono ?_; rintro e v8 ⟨⟨s8, A8, n8, c8, rfl, hf8, X8⟩, hb8⟩; have hbW8 := since_step (by assumption) hb8; have l8 : n8 ≤ 128 := HNX.out _ _ _ _ _ X8)
        | (go_at_call 13; go_split_ands; refine (HON.out _).mono ?_; rintro e v9 ⟨⟨s9, A9, n9, c9, rfl, hf9, X9⟩, hb9⟩; have hbW9 := since_step (by assumption) hb9; have l9 : n9 ≤ 64 := HLN.out _ _ _ _ _ X9; have X8 := X8.below hb9)
        | (go_at_call 12; go_split_ands; refine (bmul_any x n s8 s9 A8 A9 n8 c8 n9 c9 _ (by omega) (by omega) X8 X9).mono ?_; rintro e v10 ⟨⟨s10, A10, n10, c10, rfl, hf10, X10⟩, hb10⟩; have hbW10 := since_step (by assumption) hb10; rw [HS3.out] at X10; have l10 : n10 ≤ 192 := HL3.out _ _ _ _ _ X10)
        | (go_at_call 23; clear tk7; go_split_ands; refine (is01_any z3 s10 A10 n10 c10 _ (by omega) X10).mono ?_; rintro e v11 ⟨rfl, hb11⟩; have hbW11 := since_step (by assumption) hb11)
        | (go_at_call 15; go_split_ands; refine (lives01_any _).mono ?_; rintro e v12 ⟨rfl, hb12⟩; have hbW12 := since_step (by assumption) hb12))
  all_goals
    go_wp2
    go_ret
    go_split_ands
    exact ⟨rfl, since_step hB (by assumption)⟩
end Go.Proofs.YtdhlbjagmnmjnaaDoor
