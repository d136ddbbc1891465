/-
  WideDivs: the walk.
-/
import Derived.Test.YtdhlbjagmnmjnaaDoorW4
namespace Go.Proofs.YtdhlbjagmnmjnaaDoor
open Go.ChangeShapes Go.WideShapes Go.ChangeAt Go.RowKit
set_option linter.unusedVariables false
set_option linter.unusedSimpArgs false

theorem rd_wide {w : World} {a : Array Value} (h : Rd w (.cat (.int .i64) (.cat (.int .u64) .nil)) a.toList) : ∃ x : Int, In128 x ∧ a = #[.int .i64 (hiN x), .int .u64 (loN x)] := by
  obtain ⟨x, y, e, ⟨n, rfl, hn⟩, ⟨x2, y2, rfl, ⟨m, rfl, hm⟩, rfl⟩⟩ := h
  have h1 : In64 n := bd_i64 hn
  have h2 : 0 ≤ m ∧ m < 18446744073709551616 := bd_u64 hm
  obtain ⟨e1, e2, e3⟩ := of_parts h1 h2
  refine ⟨n * 18446744073709551616 + m, e3, ?_⟩
  rw [e1, e2]
  cases a
  simpa using e

theorem div_in128 {z : Int} (h : In128 z) (d : Nat) (hd : 0 < d) : In128 (z / (d : Int)) := by
  unfold In128 at *
  have h1 := Int.ediv_mul_le z (show (d : Int) ≠ 0 by omega)
  have h2 := Int.lt_ediv_add_one_mul_self z (show (0 : Int) < (d : Int) by omega)
  generalize z / (d : Int) = q at *
  have hd1 : (1 : Int) ≤ (d : Int) := by omega
  constructor
  · rcases Int.lt_or_le q (-170141183460469231731687303715884105728) with h | h
    · exfalso
      have : (q + 1) * (d : Int) ≤ (q + 1) * 1 := Int.mul_le_mul_of_nonpos_left (by omega) hd1
      omega
    · exact h
  · rcases Int.lt_or_le 170141183460469231731687303715884105727 q with h | h
    · exfalso
      have : q * 1 ≤ q * (d : Int) := Int.mul_le_mul_of_nonneg_left hd1 (by omega)
      omega
    · exact h

theorem retE (z : Int) (h : In128 z) : eH z = hiN z ∧ eL z = loN z ∧ eE z = 0 := ⟨if_pos h, if_pos h, if_pos h⟩
theorem retN (z : Int) (h : ¬ In128 z) : eH z = 0 ∧ eL z = 0 ∧ eE z = 7 := ⟨if_neg h, if_neg h, if_neg h⟩
theorem mod_in {z : Int} {d : Nat} (hd0 : 0 < d) (hd : d < 9223372036854775808) : In64 (z % (d : Int)) := by
  have h1 := Int.emod_nonneg z (show (d : Int) ≠ 0 by omega)
  have h2 := Int.emod_lt_of_pos z (show (0 : Int) < (d : Int) by omega)
  unfold In64
  omega

set_option maxRecDepth 100000 in
set_option maxHeartbeats 8000000 in
theorem walk_WideDivs (a0 : Array Value) (a1 : Int) (w : World) (w0 : Rd w (.cat (.int .i64) (.cat (.int .u64) .nil)) a0.toList) (w1 : (Lit.int .i64 a1).wf = true) :
    Calls Tryd.prog 7 #[.agg a0, .int .i64 a1] w fun e w' => e = .returned (.bool true) ∧ Below w.heap.size w w' := by
  have hd : In64 a1 := bd_i64 w1
  obtain ⟨x, hx, rfl⟩ := rd_wide w0
  clear w0 w1
  have P0 := T2.new w (hiN x) (loN x) 24
  have hB0 := since_alloc (Below.refl _ w) (.cells #[.int .i64 (hiN x), .int .u64 (loN x)] 24)
  rcases (show a1 = 0 ∨ a1 < 0 ∨ 0 < a1 by omega) with h0 | h0 | h0
  · subst h0
    go_enter Tryd.func7, Tryd.ntmps7
    go_wp2_with fail
    refine (wdiv_zero _ _ _).mono ?_
    rintro e w1 ⟨rfl, hb1⟩
    have hB1 := since_step hB0 hb1
    clear hb1
    go_wp2_with fail
    refine (lives01_any _).mono ?_
    rintro e w2 ⟨rfl, hb2⟩
    have hB2 := since_step (since_alloc hB1 _) hb2
    go_wp2_with fail
    go_ret
    exact ⟨rfl, hB2⟩
  · have HD := Lib.hid (fun h l w => wdiv_neg h l a1 h0 w)
    have k1 : decide (a1 ≤ 0) = true := decide_eq_true (by omega)
    have k2 : (a1 == 0) = false := by simp; omega
    have k3 : ¬ a1 = 0 := by omega
    go_enter Tryd.func7, Tryd.ntmps7
    go_wp2_with fail
    refine (HD.out _ _ _).mono ?_
    rintro e w1 ⟨rfl, hb1⟩
    have hB1 := since_step hB0 hb1
    clear hb1
    go_wp2_with fail
    refine (lives01_any _).mono ?_
    rintro e w2 ⟨rfl, hb2⟩
    have hB2 := since_step (since_alloc hB1 _) hb2
    go_wp2_with fail
    go_ret
    exact ⟨rfl, hB2⟩
  · obtain ⟨d, rfl⟩ := Int.eq_ofNat_of_zero_le (show 0 ≤ a1 by omega)
    have hd0 : 0 < d := by omega
    have hd1 : d < 9223372036854775808 := by unfold In64 at hd; omega
    have HDV := Lib.hid (fun w => wdiv_pos x d hx hd0 hd1 w)
    have hq := div_in128 hx d hd0
    have hr := @mod_in x d hd0 hd1
    have hr1 := Int.emod_nonneg x (show (d : Int) ≠ 0 by omega)
    have hqr := Int.mul_ediv_add_emod x (d : Int)
    rw [Int.mul_comm] at hqr
    have k1 : decide ((d : Int) ≤ 0) = false := decide_eq_false (by omega)
    have k1' : ¬ (d : Int) ≤ 0 := by omega
    have k2 : IntKind.u64.wrap (d : Int) = (d : Int) := by rw [IntKind.wrap_u64]; omega
    have HBD := Lib.hid (fun s A n c w la hx => bdiv_any x s A n c d w la hd0 hd1 hx)
    have HBX := Lib.hid (fun w => big_any x hx w)
    have HBQ := Lib.hid (fun w => big_any (x / (d : Int)) hq w)
    have hn := @BigAt.in128
    have HNX := Lib.hid (fun w s A n c (h : BigAt w s A n c x) => hn h hx)
    have HNQ := Lib.hid (fun w s A n c (h : BigAt w s A n c (x / (d : Int))) => hn h hq)
    have HT := Lib.hid (fun w => wtimes_any (x / (d : Int)) (d : Int) hq hd w)
    have k3 : IntKind.u64.wrap (x % (d : Int)) = x % (d : Int) := by rw [IntKind.wrap_u64]; unfold In64 at hr; omega
    have k4 : decide (x % (d : Int) < 0) = false := decide_eq_false (by omega)
    have HX := Lib.hid hx
    have HQR := Lib.hid hqr
    have HRI := Lib.hid hr
    have HDI := Lib.hid hd
    clear h0 hx hd hd0 hd1 hq hn hr hqr
    generalize x / (d : Int) = q at *
    generalize x % (d : Int) = r at *
    have HCQ := Lib.hid (cmp_same q)
    go_enter Tryd.func7, Tryd.ntmps7
    go_wp2_with fail
    refine (HDV.out _).mono ?_
    rintro e w1 ⟨rfl, hb1⟩
    have P1 := (P0.below hb1).alloc (.cells #[.int .i64 (hiN q), .int .u64 (loN q)] 24)
    have Q1 := T2.new w1 (hiN q) (loN q) 24
    have hB1 := since_alloc (since_step hB0 hb1) (.cells #[.int .i64 (hiN q), .int .u64 (loN q)] 24)
    clear hb1 P0 hB0
    go_upto_region 7 with fail
    generalize w1.alloc (.cells #[.int .i64 (hiN q), .int .u64 (loN q)] 24) = W1 at *
    obtain ⟨p0, p1, p2, p3, p4⟩ := _root_.id P1
    go_wp2_with fail
    refine (HBX.out _).mono ?_
    rintro e w2 ⟨⟨s2, A2, n2, c2, rfl, hf2, X2⟩, hb2⟩
    have hB2 := since_step hB1 hb2
    have P2 := P1.below hb2
    have Q2 := Q1.below hb2
    have n2l := HNX.out _ _ _ _ _ X2
    clear hb2 hf2 hB1 P1 Q1 p0 p1 p2 p3 p4
    go_wp2_with fail
    refine (HBD.out _ _ _ _ _ (by omega) X2).mono ?_
    rintro e w3 ⟨⟨s3, A3, n3, c3, rfl, hf3, X3⟩, hb3⟩
    have n3l := HNQ.out _ _ _ _ _ X3
    have hB3 := since_alloc (since_step hB2 hb3) (.cells #[.bool s3, .slice A3 n3 c3] 29)
    have P3 := (P2.below hb3).alloc (.cells #[.bool s3, .slice A3 n3 c3] 29)
    have Q3 := (Q2.below hb3).alloc (.cells #[.bool s3, .slice A3 n3 c3] 29)
    have R3 := BB.new w3 s3 A3 n3 c3 29
    have X4 := X3.alloc (.cells #[.bool s3, .slice A3 n3 c3] 29)
    clear hb3 hf3 hB2 P2 Q2 X2 X3 HBD
    go_upto_region 8 with fail
    generalize w3.alloc (.cells #[.bool s3, .slice A3 n3 c3] 29) = W3 at *
    have sO : ∀ W, Below W3.heap.size W3 W → (Below W3.heap.size W3 W ∧ W.cell? ⟨w1.heap.size, 0, none⟩ = some (.int .i64 (hiN q)) ∧ W.cell? ⟨w1.heap.size, 1, none⟩ = some (.int .u64 (loN q)) ∧ W.cell? ⟨w3.heap.size, 0, none⟩ = some (.bool s3) ∧ W.cell? ⟨w3.heap.size, 1, none⟩ = some (.slice A3 n3 c3)) := fun W h => ⟨h, (Q3.below h).2.1, (Q3.below h).2.2.1, (R3.below h).2.1, (R3.below h).2.2.1⟩
    have SO := Lib.hid sO
    have XO := Lib.hid (fun W (h : Below W3.heap.size W3 W) => X4.below h)
    have PO := Lib.hid (fun W (h : Below W3.heap.size W3 W) => P3.below h)
    have QO := Lib.hid (fun W (h : Below W3.heap.size W3 W) => Q3.below h)
    clear sO X4 P3 Q3 R3
    go_region_held3 (fun W => Below W3.heap.size W3 W ∧ W.cell? ⟨w1.heap.size, 0, none⟩ = some (.int .i64 (hiN q)) ∧ W.cell? ⟨w1.heap.size, 1, none⟩ = some (.int .u64 (loN q)) ∧ W.cell? ⟨w3.heap.size, 0, none⟩ = some (.bool s3) ∧ W.cell? ⟨w3.heap.size, 1, none⟩ = some (.slice A3 n3 c3))
      (first | exact SO.out _ (by assumption) | exact SO.out _ (Below.refl _ _).drew | assumption)
      (first
        | (go_at_call 11; go_split_ands; refine (HBQ.out _).mono ?_; rintro e w4 ⟨⟨s4, A4, n4, c4, rfl, hfr, hbig⟩, hb4⟩; have hbW4 := since_step (by assumption) hb4; have hn4 : n4 ≤ 128 := HNQ.out _ _ _ _ _ hbig)
        | (go_at_call 10; go_split_ands; refine (bcmp_any q q s4 s3 A4 A3 n4 c4 n3 c3 _ (by omega) (by omega) hbig (XO.out _ (by assumption))).mono ?_; rintro e w5 ⟨rfl, hb5⟩; have hbW5 := since_step (by assumption) hb5; rw [HCQ.out]))
    go_split_ands
    have hB5 := since_step hB3 hbW5
    have P5 := PO.out _ hbW5
    have Q5 := QO.out _ hbW5
    clear hbW5 hbW4 hb4 hb5 hbig hfr hB3 PO QO SO XO
    obtain ⟨q0, q1, q2, q3, q4⟩ := _root_.id Q5
    go_wp2_with fail
    refine (HT.out _).mono ?_
    rintro e w6 ⟨rfl, hb6⟩
    have P6 := P5.below hb6
    have Q6 := Q5.below hb6
    have hB6 := since_step hB5 hb6
    clear hb6 hB5 P5 Q5 q0 q1 q2 q3 q4 HT
    by_cases hin : In128 (q * (d : Int))
    · rw [wideE_yes hin]
      have HE := Lib.hid (wideE_yes HX.out)
      have HS := Lib.hid (show [q * (d : Int), r].sum = x by simp; exact HQR.out)
      have hri := HRI.out
      have hr128 : In128 r := (of_in r hri).2.2
      clear HQR HBQ HBX HNX HNQ HDV HRI HDI Q6
      generalize q * (d : Int) = P at *
      have P7 := P6.alloc (.cells #[.int .i64 (hiN P), .int .u64 (loN P)] 24)
      have ht := T2.new w6 (hiN P) (loN P) 24
      have hB := since_alloc hB6 (.cells #[.int .i64 (hiN P), .int .u64 (loN P)] 24)
      clear hB6 P6
      go_upto_region 13 with fail
      have hlw : w.heap.size < w6.heap.size + 1 := by have := P7.1; simpa using this
      generalize w6.alloc (.cells #[.int .i64 (hiN P), .int .u64 (loN P)] 24) = wr at *
      obtain ⟨a0, a1, a2, f1, f2⟩ := _root_.id ht
      have hcs := @cell_set
      have hwr := P7.1
      go_cut [13, 14] (fun s13 s14 wx => ∃ g : Nat, s13 = .pointer (some ⟨g, 0, none⟩) ∧ s14 = .int .i64 0 ∧ T2 wx g (hiN x) (loN x) ∧ T2 wx w.heap.size (hiN x) (loN x) ∧ Below w.heap.size w wx)
      case first =>
        go_region_with (first
          | (go_at_call 14; refine (wof_any r hri _).mono ?_; rintro e w7 ⟨rfl, hb7⟩; have hT1 : T2 w7 w6.heap.size (hiN P) (loN P) := (by first | exact ht.drew.below hb7 | exact (ht.drew.alloc _).below hb7); have hX1 : T2 w7 w.heap.size (hiN x) (loN x) := (by first | exact P7.drew.below hb7 | exact (P7.drew.alloc _).below hb7); have hB1 : Below w.heap.size w w7 := (by first | exact since_step hB.drew hb7 | exact since_step (since_alloc hB.drew _) hb7); (first | have G1 : T2 w7 wr.heap.size 0 0 := (T2.new wr.drew 0 0 24).below hb7 | skip); have hz1 : wr.heap.size ≤ w7.heap.size := (by have := hb7.size; simp at this; omega); obtain ⟨b0, b1, b2, b3, b4⟩ := _root_.id hT1; clear hb7)
          | (go_at_call 22; refine (wadd_any _ 2 [P, r] _ (by simp) (by intro z hz; simp at hz; rcases hz with rfl | rfl; exact hin; exact hr128) (by first | exact Sl.new_ _ _ _ | exact (Sl.new_ _ _ _).alloc _ | exact Sl.new1 _ _ _ _)).mono ?_; rintro e w8 ⟨rfl, hb8⟩; have hX2 : T2 w8 w.heap.size (hiN x) (loN x) := (by first | exact (hX1.alloc _).below hb8 | exact ((hX1.alloc _).alloc _).below hb8); have hB2 : Below w.heap.size w w8 := (by first | exact since_step (since_alloc hB1 _) hb8 | exact since_step (since_alloc (since_alloc hB1 _) _) hb8); (first | have G2 := (G1.alloc _).below hb8 | have G2 := ((T2.new w7 0 0 24).alloc _).below hb8 | (have G2 := (T2.new (w7.alloc (.cells #[.int .i64 (hiN P), .int .u64 (loN P), .int .i64 (hiN r), .int .u64 (loN r)] 24)) 0 0 24).below hb8; rw [World.size_alloc] at G2) | skip); (first | obtain ⟨g0, g1, g2, g3, g4⟩ := _root_.id G2 | skip); rw [HS.out, HE.out]; have hz2 : w7.heap.size < w8.heap.size := (by have := hb8.size; simp at this; omega); clear hb8))
        all_goals
          go_wp2_with fail
          go_meet
          case rel =>
            first
              | exact ⟨_, rfl, rfl, G2.set2 _ _, (hX2.far (by simp; omega) _).far (by simp; omega) _, by
                  refine Below.setCell (Below.setCell hB2 ?_ _) ?_ _ <;> (simp; omega)⟩
              | exact ⟨_, rfl, rfl, T2.new _ _ _ _, hX2.alloc _, since_alloc hB2 _⟩
      case rest =>
        obtain ⟨g, rfl, rfl, hG, hX, hBx⟩ := hcut
        obtain ⟨g0, g1, g2, g3, g4⟩ := hG
        obtain ⟨t0, t1, t2, t3, t4⟩ := hX
        clear a0 a1 a2 f1 f2 ht P7 hB
        go_wp2_with fail
        refine (lives01_any _).mono ?_
        rintro e w9 ⟨rfl, hb9⟩
        have hB9 := since_step hBx hb9
        go_wp2_with fail
        go_ret
        exact ⟨rfl, hB9⟩
    · rw [wideE_no hin]
      have HOD := Lib.hid (fun w => bof_any (d : Int) w HDI.out)
      have HOR := Lib.hid (fun w => bof_any r w HRI.out)
      have hl := @BigAt.l64
      have HLD := Lib.hid (fun w s A n c (h : BigAt w s A n c (d : Int)) => hl h HDI.out)
      have HLR := Lib.hid (fun w s A n c (h : BigAt w s A n c r) => hl h HRI.out)
      have HZ := Lib.hid (show cmpZ (q * (d : Int) + r) x = 0 by rw [HQR.out]; exact cmp_same x)
      clear hl
      have P7 := P6.alloc (.cells #[.int .i64 0, .int .u64 0] 24)
      have Q7 := Q6.alloc (.cells #[.int .i64 0, .int .u64 0] 24)
      have hB7 := since_alloc hB6 (.cells #[.int .i64 0, .int .u64 0] 24)
      clear hB6 P6 Q6
      go_upto_region 12 with fail
      generalize w6.alloc (.cells #[.int .i64 0, .int .u64 0] 24) = W6 at *
      have sO : ∀ W, Below W6.heap.size W6 W → (Below W6.heap.size W6 W ∧ W.cell? ⟨w.heap.size, 0, none⟩ = some (.int .i64 (hiN x)) ∧ W.cell? ⟨w.heap.size, 1, none⟩ = some (.int .u64 (loN x)) ∧ W.cell? ⟨w1.heap.size, 0, none⟩ = some (.int .i64 (hiN q)) ∧ W.cell? ⟨w1.heap.size, 1, none⟩ = some (.int .u64 (loN q))) := fun W h => ⟨h, (P7.below h).2.1, (P7.below h).2.2.1, (Q7.below h).2.1, (Q7.below h).2.2.1⟩
      have SO := Lib.hid sO
      clear sO P7 Q7
      have tkq : True := trivial
      have tkd : True := trivial
      go_region_held3 (fun W => Below W6.heap.size W6 W ∧ W.cell? ⟨w.heap.size, 0, none⟩ = some (.int .i64 (hiN x)) ∧ W.cell? ⟨w.heap.size, 1, none⟩ = some (.int .u64 (loN x)) ∧ W.cell? ⟨w1.heap.size, 0, none⟩ = some (.int .i64 (hiN q)) ∧ W.cell? ⟨w1.heap.size, 1, none⟩ = some (.int .u64 (loN q)))
        (first | exact SO.out _ (by assumption) | exact SO.out _ (Below.refl _ _).drew | assumption)
        (first
          | (go_at_call 11; clear tkq; go_split_ands; refine (HBQ.out _).mono ?_; rintro e w7 ⟨⟨s7, A7, n7, c7, rfl, hf7, X7⟩, hb7⟩; have hbW7 := since_step (by assumption) hb7; have n7l : n7 ≤ 128 := HNQ.out _ _ _ _ _ X7)
          | (go_at_call 13; clear tkd; go_split_ands; refine (HOD.out _).mono ?_; rintro e w8 ⟨⟨s8, A8, n8, c8, rfl, hf8, X8⟩, hb8⟩; have hbW8 := since_step (by assumption) hb8; have n8l : n8 ≤ 64 := HLD.out _ _ _ _ _ X8; have X7' := X7.below hb8)
          | (go_at_call 12; go_split_ands; refine (bmul_any q (d : Int) s7 s8 A7 A8 n7 c7 n8 c8 _ (by omega) (by omega) X7' X8).mono ?_; rintro e w9 ⟨⟨s9, A9, n9, c9, rfl, hf9, X9⟩, hb9⟩; have hbW9 := since_step (by assumption) hb9; have n9l := len_mul X7' X8 X9)
          | (go_at_call 13; go_split_ands; refine (HOR.out _).mono ?_; rintro e w10 ⟨⟨s10, A10, n10, c10, rfl, hf10, X10⟩, hb10⟩; have hbW10 := since_step (by assumption) hb10; have n10l : n10 ≤ 64 := HLR.out _ _ _ _ _ X10; have X9' := X9.below hb10)
          | (go_at_call 21; go_split_ands; refine (badd' (x := q * (d : Int)) (y := r) (sx := s9) (sy := s10) (A := A9) (B := A10) (by omega) (by omega) X9' X10).mono ?_; rintro e w11 ⟨⟨s11, A11, n11, c11, rfl, hf11, X11⟩, hb11⟩; have hbW11 := since_step (by assumption) hb11; have n11l := len_add X9' X10 X11)
          | (go_at_call 11; go_split_ands; refine (HBX.out _).mono ?_; rintro e w12 ⟨⟨s12, A12, n12, c12, rfl, hf12, X12⟩, hb12⟩; have hbW12 := since_step (by assumption) hb12; have n12l : n12 ≤ 128 := HNX.out _ _ _ _ _ X12; have X11' := X11.below hb12)
          | (go_at_call 10; go_split_ands; refine (bcmp_any _ _ s11 s12 A11 A12 n11 c11 n12 c12 _ (by omega) (by omega) X11' X12).mono ?_; rintro e w13 ⟨rfl, hb13⟩; have hbW13 := since_step (by assumption) hb13; rw [HZ.out])
          | (go_at_call 15; go_split_ands; refine (lives01_any _).mono ?_; rintro e w14 ⟨rfl, hb14⟩; have hbW14 := since_step (by assumption) hb14))
      go_wp2
      go_ret
      go_split_ands
      exact ⟨rfl, since_step hB7 (by assumption)⟩
end Go.Proofs.YtdhlbjagmnmjnaaDoor
