/-
  Layer 13, seventh part: InstParts: the walk (laid by gen_inst7.py).
-/
import Derived.Test.YtckgifhidomhaaaDoorInst6
namespace Go.Proofs.YtckgifhidomhaaaDoor
open Go.ChangeShapes Go.WideShapes Go.ChangeAt Go.RowKit
set_option linter.unusedVariables false
set_option linter.unusedSimpArgs false

set_option maxRecDepth 100000 in
set_option maxHeartbeats 8000000 in
theorem walk_InstParts (a0 : Array Value) (a1 : Int) (a2 : Int) (a3 : Int) (a4 : Int) (a5 : Int) (w : World) (w0 : Rd w (.cat (.int .i64) (.cat (.int .i64) (.cat (.int .i64) (.cat (.int .i64) (.cat (.sl (.int .i64)) .nil))))) a0.toList) (w1 : (Lit.int .i64 a1).wf = true) (w2 : (Lit.int .i64 a2).wf = true) (w3 : (Lit.int .i64 a3).wf = true) (w4 : (Lit.int .i64 a4).wf = true) (w5 : (Lit.int .i64 a5).wf = true) :
    Calls Tryd.prog 6 #[.agg a0, .int .i64 a1, .int .i64 a2, .int .i64 a3, .int .i64 a4, .int .i64 a5] w fun e w' => e = .returned (.bool true) ∧ Below w.heap.size w w' := by
  obtain ⟨i0, A, c, e0, hI0⟩ := rd_inst w0
  rw [e0]
  have h1 : In64 a1 := bd_i64 w1
  have h2 : In64 a2 := bd_i64 w2
  have h3 : In64 a3 := bd_i64 w3
  have h4 : In64 a4 := bd_i64 w4
  have h5 : In64 a5 := bd_i64 w5
  obtain ⟨i, hi⟩ : ∃ i, i = shortI i0 := ⟨_, rfl⟩
  have hI : InsAt w i A c := by rw [hi]; exact hI0.short
  have HSH := fun W (hb : Below w.heap.size w W) => short_any i0 A c W (hI0.below hb)
  rw [← hi] at HSH
  have HG1 := fun W (hb : Below w.heap.size w W) => gain_any i A c a1 a3 a4 W (hI.below hb) h1 h3 h4
  have HG2 := fun W (hb : Below w.heap.size w W) => gain_any i A c a1 a4 a5 W (hI.below hb) h1 h4 h5
  have HG3 := fun W (hb : Below w.heap.size w W) => gain_any i A c a1 a3 a5 W (hI.below hb) h1 h3 h5
  have HG4 := fun W (hb : Below w.heap.size w W) => gain_any i A c a2 a3 a5 W (hI.below hb) h2 h3 h5
  have HG5 := fun (hm : In64 (a1 + a2)) W (hb : Below w.heap.size w W) => gain_any i A c (a1 + a2) a3 a5 W (hI.below hb) hm h3 h5
  unfold insV at HSH HG1 HG2 HG3 HG4 HG5 ⊢
  have e12 : gainZ i a1 a3 a4 + gainZ i a1 a4 a5 = gainZ i a1 a3 a5 := by
    unfold gainZ
    rw [← Int.add_mul, ← Int.mul_add]
    congr 2
    omega
  have e34 : gainZ i a1 a3 a5 + gainZ i a2 a3 a5 = gainZ i (a1 + a2) a3 a5 := by
    unfold gainZ
    rw [← Int.add_mul, ← Int.add_mul]
  have K12 : Hid (gainE i a1 a3 a4 = 0 → gainE i a1 a4 a5 = 0 → gainE i a1 a3 a5 = 0 → In64 (gainV i a1 a3 a4) ∧ In64 (gainV i a1 a4 a5) ∧ In64 (gainV i a1 a3 a5) ∧ gainV i a1 a3 a4 + gainV i a1 a4 a5 = gainV i a1 a3 a5) := Lib.hid (fun p q r => by
    obtain ⟨u1, u2, _⟩ := gain_some p
    obtain ⟨v1, v2, _⟩ := gain_some q
    obtain ⟨z1, z2, _⟩ := gain_some r
    rw [u1, v1, z1]
    exact ⟨u2, v2, z2, e12⟩)
  have K34 : Hid (gainE i a1 a3 a5 = 0 → gainE i a2 a3 a5 = 0 → gainE i (a1 + a2) a3 a5 = 0 → In64 (gainV i a1 a3 a5) ∧ In64 (gainV i a2 a3 a5) ∧ In64 (gainV i (a1 + a2) a3 a5) ∧ gainV i a1 a3 a5 + gainV i a2 a3 a5 = gainV i (a1 + a2) a3 a5) := Lib.hid (fun p q r => by
    obtain ⟨u1, u2, _⟩ := gain_some p
    obtain ⟨v1, v2, _⟩ := gain_some q
    obtain ⟨z1, z2, _⟩ := gain_some r
    rw [u1, v1, z1]
    exact ⟨u2, v2, z2, e34⟩)
  have hB0 := since_alloc (Below.refl _ w) (.cells #[.int .i64 i0.id, .int .i64 i0.mult, .int .i64 i0.price, .int .i64 i0.nxt, .slice A i0.mv.length c] 25)
  have hX0 := IB.new w i0 A c 25
  have HSH := Lib.hid HSH
  have HG1 := Lib.hid HG1
  have HG2 := Lib.hid HG2
  have HG3 := Lib.hid HG3
  have HG4 := Lib.hid HG4
  have HG5 := Lib.hid HG5
  have HX0 := Lib.hid hX0
  have HH1 := Lib.hid h1
  have HH2 := Lib.hid h2
  clear w0 w1 w2 w3 w4 w5 e0 hI0 hi hX0 h1 h2 h3 h4 h5 hI e12 e34
  generalize gainV i a1 a3 a4 = v1 at *
  generalize gainE i a1 a3 a4 = f1 at *
  generalize gainV i a1 a4 a5 = v2 at *
  generalize gainE i a1 a4 a5 = f2 at *
  generalize gainV i a1 a3 a5 = v3 at *
  generalize gainE i a1 a3 a5 = f3 at *
  generalize gainV i a2 a3 a5 = v4 at *
  generalize gainE i a2 a3 a5 = f4 at *
  generalize gainV i (a1 + a2) a3 a5 = v5 at *
  generalize gainE i (a1 + a2) a3 a5 = f5 at *
  go_enter Tryd.func6, Tryd.ntmps6
  go_wp2_with fail
  refine (HSH.out _ hB0).mono ?_
  rintro e w1 ⟨rfl, hb1⟩
  have X1 := HX0.out.below hb1
  have hB1 := since_step hB0 hb1
  have z0 : w1.frozen? ⟨w.heap.size, 0, none⟩ = false := (hb1.frozen (p := ⟨w.heap.size, 0, none⟩) (by simp)).trans (by simp)
  have z1 : w1.frozen? ⟨w.heap.size, 1, none⟩ = false := (hb1.frozen (p := ⟨w.heap.size, 1, none⟩) (by simp)).trans (by simp)
  have z2 : w1.frozen? ⟨w.heap.size, 2, none⟩ = false := (hb1.frozen (p := ⟨w.heap.size, 2, none⟩) (by simp)).trans (by simp)
  have z3 : w1.frozen? ⟨w.heap.size, 3, none⟩ = false := (hb1.frozen (p := ⟨w.heap.size, 3, none⟩) (by simp)).trans (by simp)
  have z4 : w1.frozen? ⟨w.heap.size, 4, none⟩ = false := (hb1.frozen (p := ⟨w.heap.size, 4, none⟩) (by simp)).trans (by simp)
  clear hb1 hB0
  obtain ⟨x0, x1, x2, x3, x4, x5⟩ := _root_.id X1
  have HX5 := Lib.hid (X1.put (i := i) (A' := A) (c' := c))
  have hB2 : Below w.heap.size w ((((((w1.setCell ⟨w.heap.size, 0, none⟩ (.int .i64 i.id)).setCell ⟨w.heap.size, 1, none⟩ (.int .i64 i.mult)).setCell ⟨w.heap.size, 2, none⟩ (.int .i64 i.price)).setCell ⟨w.heap.size, 3, none⟩ (.int .i64 i.nxt)).setCell ⟨w.heap.size, 4, none⟩ (.slice A i.mv.length c))) :=
    Below.setCell (Below.setCell (Below.setCell (Below.setCell (Below.setCell hB1 (by simp) _) (by simp) _) (by simp) _) (by simp) _) (by simp) _
  go_upto_region 2 with fail
  generalize ((((((w1.setCell ⟨w.heap.size, 0, none⟩ (.int .i64 i.id)).setCell ⟨w.heap.size, 1, none⟩ (.int .i64 i.mult)).setCell ⟨w.heap.size, 2, none⟩ (.int .i64 i.price)).setCell ⟨w.heap.size, 3, none⟩ (.int .i64 i.nxt)).setCell ⟨w.heap.size, 4, none⟩ (.slice A i.mv.length c))) = w2 at *
  clear hB1 x0 x1 x2 x3 x4 x5 X1 z0 z1 z2 z3 z4
  obtain ⟨x0, x1, x2, x3, x4, x5⟩ := _root_.id HX5.out
  go_wp2_with fail
  refine (HG1.out _ hB2).mono ?_
  rintro e w3 ⟨rfl, hb3⟩
  have X3 := HX5.out.below hb3
  have hB3 := since_step hB2 hb3
  clear hb3 hB2 x0 x1 x2 x3 x4 x5 HX5
  obtain ⟨x0, x1, x2, x3, x4, x5⟩ := _root_.id X3
  go_wp2_with fail
  refine (HG2.out _ hB3).mono ?_
  rintro e w4 ⟨rfl, hb4⟩
  have X4 := X3.below hb4
  have hB4 := since_step hB3 hb4
  clear hb4 hB3 x0 x1 x2 x3 x4 x5 X3
  obtain ⟨x0, x1, x2, x3, x4, x5⟩ := _root_.id X4
  go_wp2_with fail
  refine (HG3.out _ hB4).mono ?_
  rintro e w5 ⟨rfl, hb5⟩
  have X5 := X4.below hb5
  have hB5 := since_step hB4 hb5
  clear hb5 hB4 x0 x1 x2 x3 x4 x5 X4
  obtain ⟨x0, x1, x2, x3, x4, x5⟩ := _root_.id X5
  go_upto_region 5 with fail
  go_cut [70] (fun s wx => s = .bool false ∧ Below w5.heap.size w5 wx)
  case first =>
    by_cases hf1 : f1 = 0
    · have b1 : (f1 == 0) = true := by rw [hf1]; rfl
      by_cases hf2 : f2 = 0
      · have b2 : (f2 == 0) = true := by rw [hf2]; rfl
        by_cases hf3 : f3 = 0
        · have b3 : (f3 == 0) = true := by rw [hf3]; rfl
          obtain ⟨v64, u64, z64, hvu⟩ := K12.out hf1 hf2 hf3
          clear hf1 hf2 hf3
          have HV := Lib.hid v64
          have HU := Lib.hid u64
          have HZ := Lib.hid z64
          have HVU := Lib.hid hvu
          have HCZ := Lib.hid (cmp_self v3)
          clear v64 u64 z64 hvu
          go_wp2_with fail
          refine (bof_any v1 _ HV.out).mono ?_
          rintro e w6 ⟨⟨s5, A5, n5, c5, rfl, hq5, Y5⟩, hb5⟩
          have M5 := Y5.l64 HV.out
          clear hq5
          go_wp2_with fail
          refine (bof_any v2 _ HU.out).mono ?_
          rintro e w7 ⟨⟨s6, A6, n6, c6, rfl, hq6, Y6⟩, hb6⟩
          have M6 := Y6.l64 HU.out
          have Y5 := Y5.below hb6
          have hb6 := since_step hb5 hb6
          clear hq6 hb5
          go_wp2_with fail
          refine (badd' (by omega) (by omega) Y5 Y6).mono ?_
          rintro e w8 ⟨⟨s7, A7, n7, c7, rfl, hq7, Y7⟩, hb7⟩
          have M7 := len_add Y5 Y6 Y7
          rw [HVU.out] at Y7
          have hb7 := since_step hb6 hb7
          clear hq7 hb6 Y5 Y6
          go_wp2_with fail
          refine (bof_any v3 _ HZ.out).mono ?_
          rintro e w9 ⟨⟨s8, A8, n8, c8, rfl, hq8, Y8⟩, hb8⟩
          have M8 := Y8.l64 HZ.out
          have Y7 := Y7.below hb8
          have hb8 := since_step hb7 hb8
          clear hq8 hb7
          go_wp2_with fail
          refine (bcmp_any v3 v3 _ _ _ _ _ _ _ _ _ (by omega) (by omega) Y7 Y8).mono ?_
          rintro e w10 ⟨rfl, hb9⟩
          rw [HCZ.out]
          have hb9 := since_step hb8 hb9
          clear hb8 Y7 Y8
          go_wp2_with fail
          go_meet
          case rel => exact ⟨rfl, hb9⟩
        · have b3 : (f3 == 0) = false := by rw [beq_eq_false_iff_ne]; exact hf3
          clear hf1 hf2 hf3
          go_wp2_with fail
          go_meet
          case rel => exact ⟨rfl, Below.refl _ _⟩
      · have b2 : (f2 == 0) = false := by rw [beq_eq_false_iff_ne]; exact hf2
        clear hf1 hf2
        go_wp2_with fail
        go_meet
        case rel => exact ⟨rfl, Below.refl _ _⟩
    · have b1 : (f1 == 0) = false := by rw [beq_eq_false_iff_ne]; exact hf1
      clear hf1
      go_wp2_with fail
      go_meet
      case rel => exact ⟨rfl, Below.refl _ _⟩
  case rest =>
    obtain ⟨rfl, hcut⟩ := hcut
    have hB6 := since_step hB5 hcut
    have X6 := X5.below hcut
    clear hcut hB5 x0 x1 x2 x3 x4 x5 X5 K12 HG1 HG2 HG3
    generalize wc = w6 at *
    obtain ⟨x0, x1, x2, x3, x4, x5⟩ := _root_.id X6
    go_wp2_with fail
    refine (HG4.out _ hB6).mono ?_
    rintro e w7 ⟨rfl, hb7⟩
    have X7 := X6.below hb7
    have hB7 := since_step hB6 hb7
    clear hb7 hB6 x0 x1 x2 x3 x4 x5 X6
    go_wp2_with fail
    refine (bof_any a1 _ HH1.out).mono ?_
    rintro e w8 ⟨⟨s5, A5, n5, c5, rfl, hq5, Y5⟩, hb8⟩
    have M5 := Y5.l64 HH1.out
    have X8 := X7.below hb8
    have hB8 := since_step hB7 hb8
    clear hq5 hb8 hB7 X7
    go_wp2_with fail
    refine (bof_any a2 _ HH2.out).mono ?_
    rintro e w9 ⟨⟨s6, A6, n6, c6, rfl, hq6, Y6⟩, hb9⟩
    have M6 := Y6.l64 HH2.out
    have Y5 := Y5.below hb9
    have X9 := X8.below hb9
    have hB9 := since_step hB8 hb9
    clear hq6 hb9 hB8 X8
    go_wp2_with fail
    refine (badd' (by omega) (by omega) Y5 Y6).mono ?_
    rintro e w10 ⟨⟨s7, A7, n7, c7, rfl, hq7, Y7⟩, hb10⟩
    have M7 := len_add Y5 Y6 Y7
    have X10 := X9.below hb10
    have hB10 := since_step hB9 hb10
    clear hq7 hb10 hB9 X9 Y5 Y6
    have hB11 := since_alloc hB10 (.cells #[.bool s7, .slice A7 n7 c7] 50)
    have X11 := X10.below ((Below.refl _ _).alloc (Nat.le_refl _) (.cells #[.bool s7, .slice A7 n7 c7] 50))
    have Y11 := Y7.alloc (.cells #[.bool s7, .slice A7 n7 c7] 50)
    have P11 := BB.new w10 s7 A7 n7 c7 50
    go_upto_region 9 with fail
    generalize w10.alloc (.cells #[.bool s7, .slice A7 n7 c7] 50) = W at *
    generalize w10.heap.size = gb at *
    clear hB10 X10 Y7
    obtain ⟨p0, p1, p2, p3, p4⟩ := _root_.id P11
    by_cases hf3 : f3 = 0
    · have b3 : (f3 != 0) = false := by rw [hf3]; rfl
      by_cases hf4 : f4 = 0
      · have b4 : (f4 != 0) = false := by rw [hf4]; rfl
        have HF3 := Lib.hid hf3
        have HF4 := Lib.hid hf4
        clear hf3 hf4
        go_wp2_with fail
        refine (bfits_any (a1 + a2) s7 A7 n7 c7 _ (by omega) Y11).mono ?_
        rintro e w12 ⟨rfl, hb12⟩
        have X12 := X11.below hb12
        have Y12 := Y11.below hb12
        have P12 := P11.below hb12
        have hB12 := since_step hB11 hb12
        clear hb12 hB11 X11 Y11 P11 p0 p1 p2 p3 p4
        by_cases h64 : In64 (a1 + a2)
        · rw [show decide (inN (a1 + a2) 63) = true from decide_eq_true ((in64_iff _).2 h64)]
          have H64 := Lib.hid h64
          have HG5 := Lib.hid (HG5.out h64)
          have HX := Lib.hid X12
          have HP := Lib.hid P12
          clear h64
          go_upto_region 11 with fail
          generalize w12 = W at *
          refine wp_region_held_drew (S := (fun V => Below W.heap.size W V)) (by kernel_rfl) (by exact (Below.refl _ _).drew) (fun hHeld => ?_)
          refine wpAnyH_take (i := 0) (oi := { dst := some 97, op := _, type := _, pos := _, after := _, guard := _ }) (v := ?_) rfl (by kernel_rfl) (by kernel_rfl) (by kernel_rfl) (fun _ _ _ h => h) (Or.inl ⟨by rfl, ?_⟩) hHeld ?_
          rotate_left
          · (intro w hSw; obtain ⟨o0, o1, o2, o3, o4, o5⟩ := HX.out.below hSw; obtain ⟨r0, r1, r2, r3, r4⟩ := HP.out.below hSw; go_simp <;> with_reducible rfl)
          try simp only [Act.put, List.setIfInBounds_toArray, List.set_cons_zero, List.set_cons_succ]
          refine wpAnyH_take (i := 1) (oi := { dst := some 98, op := _, type := _, pos := _, after := _, guard := _ }) (v := ?_) rfl (by kernel_rfl) (by kernel_rfl) (by kernel_rfl) (fun _ _ _ h => h) (Or.inl ⟨by rfl, ?_⟩) hHeld ?_
          rotate_left
          · (intro w hSw; obtain ⟨o0, o1, o2, o3, o4, o5⟩ := HX.out.below hSw; obtain ⟨r0, r1, r2, r3, r4⟩ := HP.out.below hSw; go_simp <;> with_reducible rfl)
          try simp only [Act.put, List.setIfInBounds_toArray, List.set_cons_zero, List.set_cons_succ]
          refine wpAnyH_take (i := 3) (oi := { dst := some 100, op := _, type := _, pos := _, after := _, guard := _ }) (v := ?_) rfl (by kernel_rfl) (by kernel_rfl) (by kernel_rfl) (fun _ _ _ h => h) (Or.inl ⟨by rfl, ?_⟩) hHeld ?_
          rotate_left
          · (intro w hSw; obtain ⟨o0, o1, o2, o3, o4, o5⟩ := HX.out.below hSw; obtain ⟨r0, r1, r2, r3, r4⟩ := HP.out.below hSw; go_simp <;> with_reducible rfl)
          try simp only [Act.put, List.setIfInBounds_toArray, List.set_cons_zero, List.set_cons_succ]
          refine wpAnyH_take (i := 4) (oi := { dst := some 101, op := _, type := _, pos := _, after := _, guard := _ }) (v := ?_) rfl (by kernel_rfl) (by kernel_rfl) (by kernel_rfl) (fun _ _ _ h => h) (Or.inl ⟨by rfl, ?_⟩) hHeld ?_
          rotate_left
          · (intro w hSw; obtain ⟨o0, o1, o2, o3, o4, o5⟩ := HX.out.below hSw; obtain ⟨r0, r1, r2, r3, r4⟩ := HP.out.below hSw; go_simp <;> with_reducible rfl)
          try simp only [Act.put, List.setIfInBounds_toArray, List.set_cons_zero, List.set_cons_succ]
          refine wpAnyH_ready (rs := [2]) (by kernel_rfl) (by simp) ?_
          refine AllReadyH.cons (o := { dst := some 99, op := _, type := _, pos := _, after := _, guard := _ }) rfl (fun K hK => ?_) AllReadyH.nil
          go_simp
          (refine (rint_any (a1 + a2) H64.out _ _ _ _ _ (Y12.below hHeld)).mono ?_; rintro e u1 ⟨rfl, hk1⟩; have hKeep := since_step hHeld hk1)
          go_wp2_with fail
          refine hK.out _ _ (by (try dsimp only); exact hKeep) (fun hHeld => ?_)
          clear hK K hKeep
          try simp only [Act.put, List.setIfInBounds_toArray, List.set_cons_zero, List.set_cons_succ]
          refine wpAnyH_ready (rs := [5]) (by kernel_rfl) (by simp) ?_
          refine AllReadyH.cons (o := { dst := some 102, op := _, type := _, pos := _, after := _, guard := _ }) rfl (fun K hK => ?_) AllReadyH.nil
          go_simp
          (refine (HG5.out _ (since_step hB12 hHeld)).mono ?_; rintro e u2 ⟨rfl, hk2⟩; have hKeep := since_step hHeld hk2)
          go_wp2_with fail
          refine hK.out _ _ (by (try dsimp only); exact hKeep) (fun hHeld => ?_)
          clear hK K hKeep
          try simp only [Act.put, List.setIfInBounds_toArray, List.set_cons_zero, List.set_cons_succ]
          refine wpAnyH_take (i := 6) (oi := { dst := some 96, op := _, type := _, pos := _, after := _, guard := _ }) (v := ?_) rfl (by kernel_rfl) (by kernel_rfl) (by kernel_rfl) (fun _ _ _ h => h) (Or.inl ⟨by rfl, ?_⟩) hHeld ?_
          rotate_left
          · (intro w hSw; obtain ⟨o0, o1, o2, o3, o4, o5⟩ := HX.out.below hSw; obtain ⟨r0, r1, r2, r3, r4⟩ := HP.out.below hSw; go_simp <;> with_reducible rfl)
          try simp only [Act.put, List.setIfInBounds_toArray, List.set_cons_zero, List.set_cons_succ]
          refine wpAnyH_take (i := 7) (oi := { dst := some 103, op := _, type := _, pos := _, after := _, guard := _ }) (v := ?_) rfl (by kernel_rfl) (by kernel_rfl) (by kernel_rfl) (fun _ _ _ h => h) (Or.inl ⟨by rfl, ?_⟩) hHeld ?_
          rotate_left
          · (intro w hSw; obtain ⟨o0, o1, o2, o3, o4, o5⟩ := HX.out.below hSw; obtain ⟨r0, r1, r2, r3, r4⟩ := HP.out.below hSw; go_simp <;> with_reducible rfl)
          try simp only [Act.put, List.setIfInBounds_toArray, List.set_cons_zero, List.set_cons_succ]
          refine wpAnyH_take (i := 8) (oi := { dst := some 104, op := _, type := _, pos := _, after := _, guard := _ }) (v := ?_) rfl (by kernel_rfl) (by kernel_rfl) (by kernel_rfl) (fun _ _ _ h => h) (Or.inl ⟨by rfl, ?_⟩) hHeld ?_
          rotate_left
          · (intro w hSw; obtain ⟨o0, o1, o2, o3, o4, o5⟩ := HX.out.below hSw; obtain ⟨r0, r1, r2, r3, r4⟩ := HP.out.below hSw; go_simp <;> with_reducible rfl)
          try simp only [Act.put, List.setIfInBounds_toArray, List.set_cons_zero, List.set_cons_succ]
          refine wpAnyH_take (i := 9) (oi := { dst := some 22, op := _, type := _, pos := _, after := _, guard := _ }) (v := ?_) rfl (by kernel_rfl) (by kernel_rfl) (by kernel_rfl) (fun _ _ _ h => h) (Or.inl ⟨by rfl, ?_⟩) hHeld ?_
          rotate_left
          · (intro w hSw; obtain ⟨o0, o1, o2, o3, o4, o5⟩ := HX.out.below hSw; obtain ⟨r0, r1, r2, r3, r4⟩ := HP.out.below hSw; go_simp <;> with_reducible rfl)
          try simp only [Act.put, List.setIfInBounds_toArray, List.set_cons_zero, List.set_cons_succ]
          refine wpAnyH_take (i := 10) (oi := { dst := some 23, op := _, type := _, pos := _, after := _, guard := _ }) (v := ?_) rfl (by kernel_rfl) (by kernel_rfl) (by kernel_rfl) (fun _ _ _ h => h) (Or.inl ⟨by rfl, ?_⟩) hHeld ?_
          rotate_left
          · (intro w hSw; obtain ⟨o0, o1, o2, o3, o4, o5⟩ := HX.out.below hSw; obtain ⟨r0, r1, r2, r3, r4⟩ := HP.out.below hSw; go_simp <;> with_reducible rfl)
          try simp only [Act.put, List.setIfInBounds_toArray, List.set_cons_zero, List.set_cons_succ]
          refine wpAnyH_done (by kernel_rfl) ?_ _
          have hB13 := since_step hB12 hHeld
          clear hHeld hB12
          by_cases hf5 : f5 = 0
          · have b5 : (f5 != 0) = false := by rw [hf5]; rfl
            obtain ⟨v64, u64, z64, hvu⟩ := K34.out HF3.out HF4.out hf5
            clear hf5
            have HV := Lib.hid v64
            have HU := Lib.hid u64
            have HZ := Lib.hid z64
            have HVU := Lib.hid hvu
            have HCZ := Lib.hid (cmp_self v5)
            clear v64 u64 z64 hvu
            go_wp2_with fail
            refine (bof_any v3 _ HV.out).mono ?_
            rintro e w14 ⟨⟨r5, D5, k5, d5, rfl, hq5, Q5⟩, hb14⟩
            have M5 := Q5.l64 HV.out
            have hB14 := since_step hB13 hb14
            clear hq5 hb14 hB13
            go_wp2_with fail
            refine (bof_any v4 _ HU.out).mono ?_
            rintro e w15 ⟨⟨r6, D6, k6, d6, rfl, hq6, Q6⟩, hb15⟩
            have M6 := Q6.l64 HU.out
            have Q5 := Q5.below hb15
            have hB15 := since_step hB14 hb15
            clear hq6 hb15 hB14
            go_wp2_with fail
            refine (badd' (by omega) (by omega) Q5 Q6).mono ?_
            rintro e w16 ⟨⟨r7, D7, k7, d7, rfl, hq7, Q7⟩, hb16⟩
            have M7 := len_add Q5 Q6 Q7
            rw [HVU.out] at Q7
            have hB16 := since_step hB15 hb16
            clear hq7 hb16 Q5 Q6 hB15
            go_wp2_with fail
            refine (bof_any v5 _ HZ.out).mono ?_
            rintro e w17 ⟨⟨r8, D8, k8, d8, rfl, hq8, Q8⟩, hb17⟩
            have M8 := Q8.l64 HZ.out
            have Q7 := Q7.below hb17
            have hB17 := since_step hB16 hb17
            clear hq8 hb17 hB16
            go_wp2_with fail
            refine (bcmp_any v5 v5 _ _ _ _ _ _ _ _ _ (by omega) (by omega) Q7 Q8).mono ?_
            rintro e w18 ⟨rfl, hb18⟩
            rw [HCZ.out]
            have hB18 := since_step hB17 hb18
            clear hb18 Q7 Q8 hB17
            go_wp2_with fail
            refine (lives13_any _).mono ?_
            rintro e w19 ⟨rfl, hb19⟩
            have hB19 := since_step hB18 hb19
            go_wp2_with fail
            go_ret
            exact ⟨rfl, hB19⟩
          · have b5 : (f5 != 0) = true := bne_iff_ne.2 hf5
            clear hf5
            go_wp2_with fail
            refine (lives13_any _).mono ?_
            rintro e w19 ⟨rfl, hb19⟩
            have hB19 := since_step hB13 hb19
            go_wp2_with fail
            go_ret
            exact ⟨rfl, hB19⟩
        · rw [show decide (inN (a1 + a2) 63) = false from decide_eq_false fun g => h64 ((in64_iff _).1 g)]
          clear h64
          go_wp2_with fail
          refine (lives13_any _).mono ?_
          rintro e w19 ⟨rfl, hb19⟩
          have hB19 := since_step hB12 hb19
          go_wp2_with fail
          go_ret
          exact ⟨rfl, hB19⟩
      · have b4 : (f4 != 0) = true := bne_iff_ne.2 hf4
        clear hf3 hf4
        go_wp2_with fail
        refine (lives13_any _).mono ?_
        rintro e w19 ⟨rfl, hb19⟩
        have hB19 := since_step hB11 hb19
        go_wp2_with fail
        go_ret
        exact ⟨rfl, hB19⟩
    · have b3 : (f3 != 0) = true := bne_iff_ne.2 hf3
      clear hf3
      go_wp2_with fail
      refine (lives13_any _).mono ?_
      rintro e w19 ⟨rfl, hb19⟩
      have hB19 := since_step hB11 hb19
      go_wp2_with fail
      go_ret
      exact ⟨rfl, hB19⟩
end Go.Proofs.YtckgifhidomhaaaDoor
