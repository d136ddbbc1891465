import Derived.Test.YtldnponbkhgijaaGL23
import Derived.Test.YtldnponbkhgijaaGL25
section
namespace Go.Proofs.Ytldnponbkhgijaa
open Go.ChangeShapes Go.WideShapes Go.ChangeAt Go.RowKit
set_option linter.unusedVariables false
set_option linter.unusedSimpArgs false

def WRes24d (w' : World) (e : Ending) (R : Int × Int × Int) : Prop := ∃ s A n c, e = .returned (.tuple #[.agg #[.bool s, .slice A n c], .int .i64 R.2.1, .int .i64 R.2.2]) ∧ BigAt w' s A n c R.1
set_option maxHeartbeats 16000000 in
set_option maxRecDepth 100000 in
theorem rgmost_any (A : Option Addr) (cap : Nat) (l : List Iq) (is : List Ins) (LA : Option Addr) (LC : Nat) (M : List Lg) (w : World) (hl : l.length ≤ 900000) (hMl : M.length ≤ 1000) (hM6 : ∀ y ∈ M, In64 y.qty) (hs : Sl w A (rc Iq.cells l)) (ht : InTab w l is) (hM : Sl w LA (rc Lg.cells M)) :
    Calls Try.prog 49 #[.slice A l.length cap, .slice LA M.length LC] w fun e w' => WRes24d w' e (worstR is M) ∧ Below w.heap.size w w' := by
  have hB0 := since_alloc (since_alloc (Below.refl _ w) (.cells #[.bool false, .slice none 0 0] 35)) (.cells #[.bool false, .slice none 0 0] 35)
  have T40 := (BB.new w false none 0 0 35).alloc (.cells #[.bool false, .slice none 0 0] 35)
  have X70 : BX (w.heap.size + 1 + 1) ((w.alloc (.cells #[.bool false, .slice none 0 0] 35)).alloc (.cells #[.bool false, .slice none 0 0] 35)) (w.heap.size + 1) false none 0 0 0 := by
    have h := BX.new (w := w.alloc (.cells #[.bool false, .slice none 0 0] 35)) (B := w.heap.size + 1 + 1) (by rw [World.size_alloc]; omega) 35
    rw [World.size_alloc] at h; exact h
  have HLS := Lib.hid (fun s hs6 V h1 h2 h3 => rgloss_any A cap l is LA LC M s V hl hMl hM6 hs6 h1 h2 h3)
  have HH : Hid (∀ V, Below w.heap.size w V → Sl V A (rc Iq.cells l) ∧ InTab V l is ∧ Sl V LA (rc Lg.cells M)) := Lib.hid fun V hV => ⟨hs.below hV, ht.below hV, hM.below hV⟩
  have H128 := Lib.hid (fun k => mostR_128 (is := is) hM6 hMl k)
  have H129 := Lib.hid (fun s => lossZ_128 (is := is) (s := s) hM6 hMl)
  clear hs ht hM
  rcases code_cases is M with ⟨hc, hL⟩ | ⟨hc, hL⟩
  rotate_left
  · have HR := Lib.hid (worstR_no hc)
    have HL0 : Hid (∀ V, Below w.heap.size w V → Calls Try.prog 45 #[.slice A l.length cap, .slice LA M.length LC, .int .i64 0] V fun e w' => LRes24d V.heap.size w' e (0, codeI is M) ∧ Below V.heap.size V w') := Lib.hid fun V hV => by
      obtain ⟨h1, h2, h3⟩ := HH.out V hV
      have h := HLS.out 0 (by unfold In64; omega) V h1 h2 h3
      rw [hL 0] at h
      exact h
    generalize codeI is M = c at *
    have hcb : (c != 0) = true := by simpa using hc
    have hcb2 : (c == 0) = false := by simpa using hc
    clear hc hL HLS
    go_enter Try.func49, Try.ntmps49
    go_upto_region 2 with fail
    generalize hWW : (w.alloc (.cells #[.bool false, .slice none 0 0] 35)).alloc (.cells #[.bool false, .slice none 0 0] 35) = W at *
    clear hWW
    go_wp2_with fail
    go_loopw [8, 9] (fun av iv wr => iv = .int .i64 0 ∧ BB wr w.heap.size false none 0 0 ∧ Below w.heap.size w wr) (fun _ iv _ => 8 - (intOf iv).toNat)
    case atStart => exact ⟨rfl, T40, hB0⟩
    case round =>
      obtain ⟨rfl, T4, hB⟩ := hrel
      have HL1 := Lib.hid (HL0.out wr hB)
      have hcs := @cell_set
      unfold LRes24d at HL1
      simp only at HL1
      go_wp2_with fail
      refine HL1.out.mono ?_
      rintro e u1 ⟨⟨s5, A5, n5, c5, rfl, _, _⟩, hb⟩
      have hB1 := since_step hB hb
      have T4b := T4.below hb
      obtain ⟨t0, t1, t2, t3, t4⟩ := id T4b
      go_wp2_with fail
      refine bodyPost_ret (v := .tuple #[.agg #[.bool false, .slice none 0 0], .int .i64 (-1), .int .i64 c]) ?_ rfl ⟨?_, ?_⟩
      · simp [results, Try.results49, go_sem, t0, t1, t2, hcs]
      · rw [HR.out]; exact ⟨false, none, 0, 0, rfl, BigAt.zero _⟩
      · repeat' (first | with_reducible exact hB1 | with_reducible refine Below.setCell ?_ ?_ _ | with_reducible refine Below.alloc ?_ ?_ _)
        all_goals first | (simp; done) | (simp; omega)
  · have HR := Lib.hid (worstR_ok hc)
    have HL := Lib.hid hL
    clear hc hL
    go_enter Try.func49, Try.ntmps49
    go_upto_region 2 with fail
    generalize hWW : (w.alloc (.cells #[.bool false, .slice none 0 0] 35)).alloc (.cells #[.bool false, .slice none 0 0] 35) = W at *
    clear hWW
    go_wp2_with fail
    go_loopw [8, 9] (fun av iv wr => ∃ (k : Nat) (s7 : Bool) (A7 : Option Addr) (n7 c7 : Nat), k ≤ 8 ∧ iv = .int .i64 k ∧ av = .int .i64 (mostR is M k).2 ∧ BB wr w.heap.size false none 0 0 ∧ BX (w.heap.size + 1 + 1) wr (w.heap.size + 1) s7 A7 n7 c7 (mostR is M k).1 ∧ Below w.heap.size w wr) (fun _ iv _ => 8 - (intOf iv).toNat)
    case atStart => exact ⟨0, false, none, 0, 0, by omega, rfl, rfl, T40, X70, hB0⟩
    case round =>
      obtain ⟨k, s7, A7, n7, c7, hk, rfl, rfl, T4, X7, hB⟩ := hrel
      by_cases hlt : k < 8
      · have hlk : (k : Int) < 8 := by omega
        obtain ⟨h1, h2, h3⟩ := HH.out _ hB
        have hL1 := HLS.out (k : Int) (by unfold In64; omega) wr h1 h2 h3
        rw [HL.out] at hL1
        have HL1 := Lib.hid hL1
        have H5 := Lib.hid (H129.out (k : Int))
        have H7 := Lib.hid (H128.out k)
        have HST : Hid (mostR is M (k + 1) = if (mostR is M k).1 < lossZ is k M then (lossZ is k M, (k : Int)) else mostR is M k) := Lib.hid rfl
        clear h1 h2 h3 hL1
        obtain ⟨q, hq0⟩ : ∃ q, mostR is M (k + 1) = q := ⟨_, rfl⟩
        have HQG := Lib.hid hq0
        rw [hq0] at HST
        clear hq0
        generalize mostR is M k = p at *
        generalize lossZ is k M = x at *
        obtain ⟨pz, pa⟩ := p
        simp only at X7 H7 HST
        unfold LRes24d at HL1
        simp only at HL1
        have hcs := @cell_set
        by_cases hx : pz < x
        · have HCM : Hid (cmpZ x pz = 1) := Lib.hid (by unfold cmpZ; rw [if_neg (by omega), if_neg (by omega)])
          have HQ : Hid (q = (x, (k : Int))) := Lib.hid (by rw [HST.out, if_pos hx])
          clear hx HST
          go_wp2_with fail
          refine HL1.out.mono ?_
          rintro e u1 ⟨⟨s5, A5, n5, c5, rfl, hf5, Y5⟩, hb⟩
          have hB1 := since_alloc (since_step hB hb) (.cells #[.bool s5, .slice A5 n5 c5] 35)
          have T4b := (T4.below hb).alloc (.cells #[.bool s5, .slice A5 n5 c5] 35)
          have X7b := (X7.below hb).alloc (.cells #[.bool s5, .slice A5 n5 c5] 35)
          have T10 := BB.new u1 s5 A5 n5 c5 35
          have Y5 := Y5.alloc (.cells #[.bool s5, .slice A5 n5 c5] 35)
          have hf5 : Fr (w.heap.size + 1 + 1) A5 n5 := hf5.le (by have := X7.bb.1; omega) (Nat.le_refl _)
          clear hb
          go_upto_region 8 with fail
          generalize hYY : u1.alloc (.cells #[.bool s5, .slice A5 n5 c5] 35) = Y at *
          generalize hGG : u1.heap.size = g10 at *
          clear hYY hGG
          have L5 := Y5.l128 H5.out
          have L7 := X7b.at_.l128 H7.out
          obtain ⟨r0, r1, r2, r3, r4⟩ := id X7b.bb
          obtain ⟨s0, s1, s2, s3, s4⟩ := id T10
          go_wp2_with fail
          refine (bcmp_any _ _ _ _ _ _ _ _ _ _ _ (by omega) (by omega) Y5 X7b.at_).mono ?_
          rw [HCM.out]
          rintro e u2 ⟨rfl, hb⟩
          have hB2 := since_step hB1 hb
          have T4c := T4b.below hb
          have X7c := X7b.below hb
          have T10c := T10.below hb
          have Y5 := Y5.below hb
          clear hb r0 r1 r2 r3 r4 s0 s1 s2 s3 s4
          obtain ⟨r0, r1, r2, r3, r4⟩ := id X7c.bb
          obtain ⟨s0, s1, s2, s3, s4⟩ := id T10c
          go_wp2_with fail
          have X7n := X7c.put Y5 hf5
          have T4n := (BB.far T4c (p := ⟨w.heap.size + 1, 0, none⟩) (by show w.heap.size + 1 ≠ w.heap.size; omega) (.bool s5)).far (p := ⟨w.heap.size + 1, 1, none⟩) (by show w.heap.size + 1 ≠ w.heap.size; omega) (.slice A5 n5 c5)
          have hBn := Below.setCell (Below.setCell hB2 (p := ⟨w.heap.size + 1, 0, none⟩) (Nat.le_succ _) (.bool s5)) (p := ⟨w.heap.size + 1, 1, none⟩) (Nat.le_succ _) (.slice A5 n5 c5)
          clear hcs
          go_roundw
          case rel =>
            have hq := HQG.out.trans HQ.out
            exact ⟨k + 1, s5, A5, n5, c5, by omega, by go_num, by rw [hq], T4n, by rw [hq]; exact X7n, hBn⟩
          case measure => simp [intOf]; omega
        · have hcm : ∃ z, cmpZ x pz = z ∧ ¬ (0 < z) := by
            unfold cmpZ
            split
            · exact ⟨_, rfl, by omega⟩
            · rw [if_pos (by omega)]; exact ⟨_, rfl, by omega⟩
          obtain ⟨z, hz, hz0⟩ := hcm
          have HCM := Lib.hid hz
          have HQ : Hid (q = (pz, pa)) := Lib.hid (by rw [HST.out, if_neg hx])
          clear hz hx HST
          go_wp2_with fail
          refine HL1.out.mono ?_
          rintro e u1 ⟨⟨s5, A5, n5, c5, rfl, hf5, Y5⟩, hb⟩
          have hB1 := since_alloc (since_step hB hb) (.cells #[.bool s5, .slice A5 n5 c5] 35)
          have T4b := (T4.below hb).alloc (.cells #[.bool s5, .slice A5 n5 c5] 35)
          have X7b := (X7.below hb).alloc (.cells #[.bool s5, .slice A5 n5 c5] 35)
          have T10 := BB.new u1 s5 A5 n5 c5 35
          have Y5 := Y5.alloc (.cells #[.bool s5, .slice A5 n5 c5] 35)
          have hf5 : Fr (w.heap.size + 1 + 1) A5 n5 := hf5.le (by have := X7.bb.1; omega) (Nat.le_refl _)
          clear hb
          go_upto_region 8 with fail
          generalize hYY : u1.alloc (.cells #[.bool s5, .slice A5 n5 c5] 35) = Y at *
          generalize hGG : u1.heap.size = g10 at *
          clear hYY hGG
          have L5 := Y5.l128 H5.out
          have L7 := X7b.at_.l128 H7.out
          obtain ⟨r0, r1, r2, r3, r4⟩ := id X7b.bb
          obtain ⟨s0, s1, s2, s3, s4⟩ := id T10
          go_wp2_with fail
          refine (bcmp_any _ _ _ _ _ _ _ _ _ _ _ (by omega) (by omega) Y5 X7b.at_).mono ?_
          rw [HCM.out]
          rintro e u2 ⟨rfl, hb⟩
          have hB2 := since_step hB1 hb
          have T4c := T4b.below hb
          have X7c := X7b.below hb
          have T10c := T10.below hb
          have Y5 := Y5.below hb
          clear hb r0 r1 r2 r3 r4 s0 s1 s2 s3 s4
          clear hcs
          go_wp2_with fail
          go_roundw
          case rel =>
            have hq := HQG.out.trans HQ.out
            exact ⟨k + 1, s7, A7, n7, c7, by omega, by go_num, by rw [hq], T4c, by rw [hq]; exact X7c, hB2⟩
          case measure => simp [intOf]; omega
      · obtain rfl : k = 8 := by omega
        have hcs := @cell_set
        generalize mostR is M 8 = p at *
        obtain ⟨pz, pa⟩ := p
        simp only at X7
        obtain ⟨r0, r1, r2, r3, r4⟩ := id X7.bb
        obtain ⟨s0, s1, s2, s3, s4⟩ := id T4
        have hfr := X7.fr
        go_wp2_with fail
        refine bodyPost_ret (v := .tuple #[.agg #[.bool s7, .slice A7 n7 c7], .int .i64 pa, .int .i64 0]) ?_ rfl ⟨?_, ?_⟩
        · simp [results, Try.results49, go_sem, s0, s1, s2, hcs]
        · rw [HR.out]
          exact ⟨s7, A7, n7, c7, rfl, BigAt.far (BigAt.far X7.at_ (fun b o hA hn => by have := hfr b o hA hn; show b ≠ w.heap.size; omega) _) (fun b o hA hn => by have := hfr b o hA hn; show b ≠ w.heap.size; omega) _⟩
        · repeat' (first | with_reducible exact hB | with_reducible refine Below.setCell ?_ ?_ _ | with_reducible refine Below.alloc ?_ ?_ _)
          all_goals first | (simp; done) | (simp; omega)
set_option maxHeartbeats 4000000 in
set_option maxRecDepth 100000 in
theorem rgmargin_any (A : Option Addr) (cap : Nat) (l : List Iq) (is : List Ins) (LA : Option Addr) (LC : Nat) (M : List Lg) (w : World) (hl : l.length ≤ 900000) (hMl : M.length ≤ 1000) (hM6 : ∀ y ∈ M, In64 y.qty) (hs : Sl w A (rc Iq.cells l)) (ht : InTab w l is) (hM : Sl w LA (rc Lg.cells M)) :
    Calls Try.prog 47 #[.slice A l.length cap, .slice LA M.length LC] w fun e w' => e = .returned (.tuple #[.int .i64 (marginR is M).1, .int .i64 (marginR is M).2]) ∧ Below w.heap.size w w' := by
  have HW := Lib.hid (rgmost_any A cap l is LA LC M w hl hMl hM6 hs ht hM)
  have H128 := Lib.hid (worstR_128 (is := is) hM6 hMl)
  unfold marginR
  generalize worstR is M = R at *
  obtain ⟨x, at_, c⟩ := R
  unfold WRes24d at HW
  simp only at HW H128 ⊢
  clear hs ht hM
  by_cases hc : c = 0
  · subst hc
    have HE : Hid ((if (0 : Int) ≠ 0 then ((0 : Int), (0 : Int)) else (fV x, fE x)) = (fV x, fE x)) := Lib.hid (by simp)
    rw [HE.out]
    by_cases h6 : In64 x
    · have hv : fV x = x := by unfold fV; rw [if_pos h6]
      have hw : fE x = 0 := by unfold fE; rw [if_pos h6]
      have HFT : Hid (decide (inN x 63) = true) := Lib.hid (decide_eq_true ((in64_iff _).2 h6))
      have HRI := Lib.hid (fun s A' k d V h => rint_any x h6 s A' k d V h)
      rw [hv, hw]
      clear hv hw h6 HE
      go_enter Try.func47, Try.ntmps47
      go_wp2_with fail
      refine HW.out.mono ?_
      rintro e w1 ⟨⟨s, A', n, c, rfl, Y⟩, hb⟩
      have hB1 := since_alloc hb (.cells #[.bool s, .slice A' n c] 35)
      have Y := Y.alloc (.cells #[.bool s, .slice A' n c] 35)
      have G := BB.new w1 s A' n c 35
      have L := Y.l128 H128.out
      clear hb
      go_upto_region 4 with fail
      generalize hVV : w1.alloc (.cells #[.bool s, .slice A' n c] 35) = V at *
      generalize hGG : w1.heap.size = gg at *
      clear hVV hGG
      obtain ⟨b0, b1, b2, b3, b4⟩ := id G
      go_wp2_with fail
      refine (bfits_any _ _ _ _ _ _ (by omega) Y).mono ?_
      rw [HFT.out]
      rintro e w2 ⟨rfl, hb⟩
      have hB2 := since_step hB1 hb
      have Y := Y.below hb
      have G := G.below hb
      clear hb b0 b1 b2 b3 b4
      obtain ⟨b0, b1, b2, b3, b4⟩ := id G
      go_wp2_with fail
      refine (HRI.out _ _ _ _ _ Y).mono ?_
      rintro e w3 ⟨rfl, hb⟩
      have hB3 := since_step hB2 hb
      go_wp2_with fail
      go_ret2
      exact ⟨rfl, hB3⟩
    · have hv : fV x = 0 := by unfold fV; rw [if_neg h6]
      have hw : fE x = 7 := by unfold fE; rw [if_neg h6]
      have HFT : Hid (decide (inN x 63) = false) := Lib.hid (decide_eq_false (fun h => h6 ((in64_iff _).1 h)))
      rw [hv, hw]
      clear hv hw h6 HE
      go_enter Try.func47, Try.ntmps47
      go_wp2_with fail
      refine HW.out.mono ?_
      rintro e w1 ⟨⟨s, A', n, c, rfl, Y⟩, hb⟩
      have hB1 := since_alloc hb (.cells #[.bool s, .slice A' n c] 35)
      have Y := Y.alloc (.cells #[.bool s, .slice A' n c] 35)
      have G := BB.new w1 s A' n c 35
      have L := Y.l128 H128.out
      clear hb
      go_upto_region 4 with fail
      generalize hVV : w1.alloc (.cells #[.bool s, .slice A' n c] 35) = V at *
      generalize hGG : w1.heap.size = gg at *
      clear hVV hGG
      obtain ⟨b0, b1, b2, b3, b4⟩ := id G
      go_wp2_with fail
      refine (bfits_any _ _ _ _ _ _ (by omega) Y).mono ?_
      rw [HFT.out]
      rintro e w2 ⟨rfl, hb⟩
      have hB2 := since_step hB1 hb
      clear hb
      go_wp2_with fail
      go_ret2
      exact ⟨rfl, hB2⟩
  · have hcb : (c != 0) = true := by simpa using hc
    have hcb2 : (c == 0) = false := by simpa using hc
    rw [if_pos hc]
    clear hc
    go_enter Try.func47, Try.ntmps47
    go_wp2_with fail
    refine HW.out.mono ?_
    rintro e w1 ⟨⟨s, A', n, c5, rfl, Y⟩, hb⟩
    have hB1 := since_alloc hb (.cells #[.bool s, .slice A' n c5] 35)
    clear hb
    go_wp2_with fail
    go_ret2
    exact ⟨rfl, hB1⟩
set_option maxHeartbeats 16000000 in
set_option maxRecDepth 100000 in
theorem walk_GridLosses (a0 : Option Addr) (n0 c0 : Nat) (a1 : Option Addr) (n1 c1 : Nat) (a2 : Int) (w : World) (w0 : Rd w (.sl (.cat (.int .i64) (.cat (.int .i64) (.cat (.int .i64) (.cat (.int .i64) (.cat (.sl (.int .i64)) .nil)))))) [.slice a0 n0 c0]) (w1 : Rd w (.sl (.cat (.int .i64) (.cat (.int .i64) .nil))) [.slice a1 n1 c1]) (w2 : (Lit.int .i64 a2).wf = true) :
    Calls Try.prog 8 #[.slice a0 n0 c0, .slice a1 n1 c1, .int .i64 a2] w fun e w' => e = .returned (.bool true) ∧ Below w.heap.size w w' := by
  obtain ⟨l, rfl, _, _, hs, hd⟩ := rd_rowsP (f := Iq.cells) (fun r => rd_insrow) w0
  obtain ⟨M1, hM1, hq1, hs1, HF1⟩ := rd_legs24 w1
  have ha6 : In64 a2 := bd_i64 w2
  clear w0 w1 w2
  have HI := Lib.hid (insts_any a0 c0 l w hs hd)
  have HLV := Lib.hid (fun V => lives24_any V)
  clear hs hd
  go_enter Try.func8, Try.ntmps8
  go_wp2_with fail
  refine HI.out.mono ?_
  rintro e z1 ⟨⟨R, is, A, c, rfl, hs, ht, hR, h9⟩, hb⟩
  have hB := hb
  have HF1 := Lib.hid (HF1.out _ hb)
  have hs1 := hs1.below hb
  have hR9 : R.length ≤ 900000 := by omega
  have hcl9 : ∀ i ∈ is, i.mv.length ≤ 900000 := fun i hi => Nat.le_trans (h9 i hi) (by omega)
  have HT := Lib.hid (And.intro hs ht)
  clear hs ht h9 HI hb
  go_wp2_with fail
  refine HF1.out.mono ?_
  rintro e z2 ⟨rfl, hb⟩
  have hB := since_step hB hb
  have hs1 := hs1.below hb
  have HT := Lib.hid (And.intro (HT.out.1.below hb) (HT.out.2.below hb))
  clear HF1
  clear hb
  have hM9 : M1.length ≤ 1000 := by omega
  have HL1 := Lib.hid (fun V h1 h2 h3 => gloss_any A c R is a1 c1 M1 a2 V hR9 hcl9 hM9 hq1 ha6 h1 h2 h3)
  have HL2 := Lib.hid (fun V h1 h2 h3 => rgloss_any A c R is a1 c1 M1 a2 V hR9 hM9 hq1 ha6 h1 h2 h3)
  have HG1 := Lib.hid (fun V h1 h2 h3 => gmargin_any A c R is a1 c1 M1 V hR9 hcl9 hM9 hq1 h1 h2 h3)
  have HG2 := Lib.hid (fun V h1 h2 h3 => rgmargin_any A c R is a1 c1 M1 V hR9 hM9 hq1 h1 h2 h3)
  have HW1 := Lib.hid (fun V h1 h2 h3 => gworst2_any A c R is a1 c1 M1 V hR9 hcl9 hM9 hq1 h1 h2 h3)
  have HW2 := Lib.hid (fun V h1 h2 h3 => rgmost_any A c R is a1 c1 M1 V hR9 hM9 hq1 h1 h2 h3)
  have H128 : Hid (In128 (lossR is M1 a2).1) := Lib.hid (by
    unfold lossR
    split
    · unfold In128; simp only; omega
    · split
      · unfold In128; simp only; omega
      · exact lossZ_128 hq1 hM9)
  have HWD := Lib.hid (fun V => rwide_any (lossR is M1 a2).1 H128.out V)
  generalize lossR is M1 a2 = LR at *
  generalize marginR is M1 = MR at *
  generalize worstR is M1 = WR at *
  obtain ⟨lz, lc⟩ := LR
  obtain ⟨mz, mc⟩ := MR
  obtain ⟨wz, wa, wc⟩ := WR
  unfold LRes24 at HL1
  unfold LRes24d at HL2
  unfold WRes24d at HW2
  simp only at HL1 HL2 HG1 HG2 HW1 HW2 H128 HWD
  have e1 : (lc == lc) = true := by simp
  have e2 : (mz == mz) = true := by simp
  have e3 : (mc == mc) = true := by simp
  have e4 : (wa == wa) = true := by simp
  have e5 : (wc == wc) = true := by simp
  clear hR9 hcl9 hM9 hq1 ha6 hM1 hR
  go_wp2_with fail
  refine (HL1.out _ HT.out.1 HT.out.2 hs1).mono ?_
  rintro e z3 ⟨rfl, hb⟩
  have hb := since_alloc hb (.cells #[.int .i64 (hiN lz), .int .u64 (loN lz)] 28)
  have K7 := Bk.new z3 #[.int .i64 (hiN lz), .int .u64 (loN lz)] 28
  have hB := since_step hB hb
  have hs1 := hs1.below hb
  have HT := Lib.hid (And.intro (HT.out.1.below hb) (HT.out.2.below hb))
  clear hb
  go_upto_region 3 with fail
  generalize hVV : z3.alloc (.cells #[.int .i64 (hiN lz), .int .u64 (loN lz)] 28) = V3 at *
  generalize hGG : z3.heap.size = g7 at *
  clear hVV hGG
  go_wp2_with fail
  refine (HL2.out _ HT.out.1 HT.out.2 hs1).mono ?_
  rintro e z4 ⟨⟨s4, A4, n4, c4, rfl, _, Y4⟩, hb⟩
  have hb := since_alloc hb (.cells #[.bool s4, .slice A4 n4 c4] 35)
  have K9 := Bk.new z4 #[.bool s4, .slice A4 n4 c4] 35
  have Y4 := Y4.alloc (.cells #[.bool s4, .slice A4 n4 c4] 35)
  have K7 := K7.below hb
  have hB := since_step hB hb
  have hs1 := hs1.below hb
  have HT := Lib.hid (And.intro (HT.out.1.below hb) (HT.out.2.below hb))
  clear hb
  go_upto_region 4 with fail
  generalize hVV : z4.alloc (.cells #[.bool s4, .slice A4 n4 c4] 35) = V4 at *
  generalize hGG : z4.heap.size = g9 at *
  clear hVV hGG
  go_wp2_with fail
  refine (HG1.out _ HT.out.1 HT.out.2 hs1).mono ?_
  rintro e z5 ⟨rfl, hb⟩
  have K7 := K7.below hb
  have K9 := K9.below hb
  have Y4 := Y4.below hb
  have hB := since_step hB hb
  have hs1 := hs1.below hb
  have HT := Lib.hid (And.intro (HT.out.1.below hb) (HT.out.2.below hb))
  clear hb
  go_wp2_with fail
  refine (HG2.out _ HT.out.1 HT.out.2 hs1).mono ?_
  rintro e z6 ⟨rfl, hb⟩
  have K7 := K7.below hb
  have K9 := K9.below hb
  have Y4 := Y4.below hb
  have hB := since_step hB hb
  have hs1 := hs1.below hb
  have HT := Lib.hid (And.intro (HT.out.1.below hb) (HT.out.2.below hb))
  clear hb
  go_wp2_with fail
  refine (HW1.out _ HT.out.1 HT.out.2 hs1).mono ?_
  rintro e z7 ⟨rfl, hb⟩
  have K7 := K7.below hb
  have K9 := K9.below hb
  have Y4 := Y4.below hb
  have hB := since_step hB hb
  have hs1 := hs1.below hb
  have HT := Lib.hid (And.intro (HT.out.1.below hb) (HT.out.2.below hb))
  clear hb
  go_wp2_with fail
  refine (HW2.out _ HT.out.1 HT.out.2 hs1).mono ?_
  rintro e z8 ⟨⟨s8, A8, n8, c8, rfl, _⟩, hb⟩
  have hb := since_alloc hb (.cells #[.bool s8, .slice A8 n8 c8] 35)
  have K7 := K7.below hb
  have K9 := K9.below hb
  have Y4 := Y4.below hb
  have hB := since_step hB hb
  clear hb hs1 HT
  go_upto_region 8 with fail
  generalize hUU : z8.alloc (.cells #[.bool s8, .slice A8 n8 c8] 35) = U at *
  clear hUU
  have HC : Hid (∀ V, Below U.heap.size U V → (V.cell? ⟨g7, 0, none⟩ = some (.int .i64 (hiN lz)) ∧ V.cell? ⟨g7, 1, none⟩ = some (.int .u64 (loN lz))) ∧ V.cell? ⟨g9, 0, none⟩ = some (.bool s4) ∧ V.cell? ⟨g9, 1, none⟩ = some (.slice A4 n4 c4)) := Lib.hid fun V h => ⟨⟨(K7.below h).2 0, (K7.below h).2 1⟩, (K9.below h).2 0, (K9.below h).2 1⟩
  have HBA : Hid (∀ V, Below U.heap.size U V → BigAt V s4 A4 n4 c4 lz) := Lib.hid fun V h => Y4.below h
  clear K7 K9 Y4
  go_wp2_with fail
  refine wp_region_held_drew (S := (fun V => Below U.heap.size U V)) (by kernel_rfl) (by exact (Below.refl _ _).drew) (fun hHeld => ?_)
  refine wpAnyH_take (i := 0) (oi := { dst := some 63, op := _, type := _, pos := _, after := _, guard := _ }) (v := ?_) rfl (by kernel_rfl) (by kernel_rfl) (by kernel_rfl) (fun _ _ _ h => h) (Or.inl ⟨by rfl, ?_⟩) hHeld ?_
  rotate_left
  · (intro w hSw; clear hSw; go_simp <;> with_reducible rfl)
  try simp only [Act.put, List.setIfInBounds_toArray, List.set_cons_zero, List.set_cons_succ]
  refine wpAnyH_take (i := 1) (oi := { dst := some 64, op := _, type := _, pos := _, after := _, guard := _ }) (v := ?_) rfl (by kernel_rfl) (by kernel_rfl) (by kernel_rfl) (fun _ _ _ h => h) (Or.inl ⟨by rfl, ?_⟩) hHeld ?_
  rotate_left
  · (intro w hSw; obtain ⟨⟨q0, q1⟩, q2, q3⟩ := HC.out _ hSw; go_simp <;> with_reducible rfl)
  try simp only [Act.put, List.setIfInBounds_toArray, List.set_cons_zero, List.set_cons_succ]
  refine wpAnyH_take (i := 2) (oi := { dst := some 65, op := _, type := _, pos := _, after := _, guard := _ }) (v := ?_) rfl (by kernel_rfl) (by kernel_rfl) (by kernel_rfl) (fun _ _ _ h => h) (Or.inl ⟨by rfl, ?_⟩) hHeld ?_
  rotate_left
  · (intro w hSw; clear hSw; go_simp <;> with_reducible rfl)
  try simp only [Act.put, List.setIfInBounds_toArray, List.set_cons_zero, List.set_cons_succ]
  refine wpAnyH_take (i := 3) (oi := { dst := some 66, op := _, type := _, pos := _, after := _, guard := _ }) (v := ?_) rfl (by kernel_rfl) (by kernel_rfl) (by kernel_rfl) (fun _ _ _ h => h) (Or.inl ⟨by rfl, ?_⟩) hHeld ?_
  rotate_left
  · (intro w hSw; obtain ⟨⟨q0, q1⟩, q2, q3⟩ := HC.out _ hSw; go_simp <;> with_reducible rfl)
  try simp only [Act.put, List.setIfInBounds_toArray, List.set_cons_zero, List.set_cons_succ]
  refine wpAnyH_take (i := 5) (oi := { dst := some 68, op := _, type := _, pos := _, after := _, guard := _ }) (v := ?_) rfl (by kernel_rfl) (by kernel_rfl) (by kernel_rfl) (fun _ _ _ h => h) (Or.inl ⟨by rfl, ?_⟩) hHeld ?_
  rotate_left
  · (intro w hSw; obtain ⟨⟨q0, q1⟩, q2, q3⟩ := HC.out _ hSw; go_simp <;> with_reducible rfl)
  try simp only [Act.put, List.setIfInBounds_toArray, List.set_cons_zero, List.set_cons_succ]
  refine wpAnyH_ready (rs := [4]) (by kernel_rfl) (by simp) ?_
  refine AllReadyH.cons (o := { dst := some 67, op := _, type := _, pos := _, after := _, guard := _ }) rfl (fun K hK => ?_) AllReadyH.nil
  go_simp
  refine (HWD.out _).mono ?_
  rintro e x1 ⟨⟨s1, B1, n1, d1, rfl, hf1, Y1⟩, hk1⟩
  have hKeep := since_step hHeld hk1
  have L1 := Y1.l128 H128.out
  go_wp2_with fail
  refine hK.out _ _ (by (try dsimp only); exact hKeep) (fun hHeld => ?_)
  clear hK K hKeep
  try simp only [Act.put, List.setIfInBounds_toArray, List.set_cons_zero, List.set_cons_succ]
  refine wpAnyH_ready (rs := [6]) (by kernel_rfl) (by simp) ?_
  refine AllReadyH.cons (o := { dst := some 69, op := _, type := _, pos := _, after := _, guard := _ }) rfl (fun K hK => ?_) AllReadyH.nil
  go_simp
  have Y2 := HBA.out _ hHeld
  have L2 := Y2.l128 H128.out
  refine (bcmp_any _ _ _ _ _ _ _ _ _ _ _ (by omega) (by omega) Y1 Y2).mono ?_
  rintro e x2 ⟨rfl, hk2⟩
  have hKeep := since_step hHeld hk2
  have hcz : cmpZ lz lz = 0 := by unfold cmpZ; rw [if_pos rfl]
  rw [hcz]
  go_wp2_with fail
  refine hK.out _ _ (by (try dsimp only); exact hKeep) (fun hHeld => ?_)
  clear hK K hKeep
  try simp only [Act.put, List.setIfInBounds_toArray, List.set_cons_zero, List.set_cons_succ]
  refine wpAnyH_take (i := 7) (oi := { dst := some 70, op := _, type := _, pos := _, after := _, guard := _ }) (v := ?_) rfl (by kernel_rfl) (by kernel_rfl) (by kernel_rfl) (fun _ _ _ h => h) (Or.inl ⟨by rfl, ?_⟩) hHeld ?_
  rotate_left
  · (intro w hSw; clear hSw; go_simp <;> with_reducible rfl)
  try simp only [Act.put, List.setIfInBounds_toArray, List.set_cons_zero, List.set_cons_succ]
  refine wpAnyH_take (i := 8) (oi := { dst := some 71, op := _, type := _, pos := _, after := _, guard := _ }) (v := ?_) rfl (by kernel_rfl) (by kernel_rfl) (by kernel_rfl) (fun _ _ _ h => h) (Or.inl ⟨by rfl, ?_⟩) hHeld ?_
  rotate_left
  · (intro w hSw; clear hSw; go_simp <;> with_reducible rfl)
  try simp only [Act.put, List.setIfInBounds_toArray, List.set_cons_zero, List.set_cons_succ]
  refine wpAnyH_take (i := 9) (oi := { dst := some 72, op := _, type := _, pos := _, after := _, guard := _ }) (v := ?_) rfl (by kernel_rfl) (by kernel_rfl) (by kernel_rfl) (fun _ _ _ h => h) (Or.inl ⟨by rfl, ?_⟩) hHeld ?_
  rotate_left
  · (intro w hSw; clear hSw; go_simp <;> with_reducible rfl)
  try simp only [Act.put, List.setIfInBounds_toArray, List.set_cons_zero, List.set_cons_succ]
  refine wpAnyH_take (i := 10) (oi := { dst := some 73, op := _, type := _, pos := _, after := _, guard := _ }) (v := ?_) rfl (by kernel_rfl) (by kernel_rfl) (by kernel_rfl) (fun _ _ _ h => h) (Or.inl ⟨by rfl, ?_⟩) hHeld ?_
  rotate_left
  · (intro w hSw; clear hSw; go_simp <;> with_reducible rfl)
  try simp only [Act.put, List.setIfInBounds_toArray, List.set_cons_zero, List.set_cons_succ]
  refine wpAnyH_take (i := 11) (oi := { dst := some 74, op := _, type := _, pos := _, after := _, guard := _ }) (v := ?_) rfl (by kernel_rfl) (by kernel_rfl) (by kernel_rfl) (fun _ _ _ h => h) (Or.inl ⟨by rfl, ?_⟩) hHeld ?_
  rotate_left
  · (intro w hSw; clear hSw; go_simp <;> with_reducible rfl)
  try simp only [Act.put, List.setIfInBounds_toArray, List.set_cons_zero, List.set_cons_succ]
  refine wpAnyH_take (i := 12) (oi := { dst := some 75, op := _, type := _, pos := _, after := _, guard := _ }) (v := ?_) rfl (by kernel_rfl) (by kernel_rfl) (by kernel_rfl) (fun _ _ _ h => h) (Or.inl ⟨by rfl, ?_⟩) hHeld ?_
  rotate_left
  · (intro w hSw; clear hSw; go_simp <;> with_reducible rfl)
  try simp only [Act.put, List.setIfInBounds_toArray, List.set_cons_zero, List.set_cons_succ]
  refine wpAnyH_take (i := 13) (oi := { dst := some 76, op := _, type := _, pos := _, after := _, guard := _ }) (v := ?_) rfl (by kernel_rfl) (by kernel_rfl) (by kernel_rfl) (fun _ _ _ h => h) (Or.inl ⟨by rfl, ?_⟩) hHeld ?_
  rotate_left
  · (intro w hSw; clear hSw; go_simp <;> with_reducible rfl)
  try simp only [Act.put, List.setIfInBounds_toArray, List.set_cons_zero, List.set_cons_succ]
  refine wpAnyH_take (i := 14) (oi := { dst := some 77, op := _, type := _, pos := _, after := _, guard := _ }) (v := ?_) rfl (by kernel_rfl) (by kernel_rfl) (by kernel_rfl) (fun _ _ _ h => h) (Or.inl ⟨by rfl, ?_⟩) hHeld ?_
  rotate_left
  · (intro w hSw; clear hSw; go_simp <;> with_reducible rfl)
  try simp only [Act.put, List.setIfInBounds_toArray, List.set_cons_zero, List.set_cons_succ]
  refine wpAnyH_take (i := 15) (oi := { dst := some 78, op := _, type := _, pos := _, after := _, guard := _ }) (v := ?_) rfl (by kernel_rfl) (by kernel_rfl) (by kernel_rfl) (fun _ _ _ h => h) (Or.inl ⟨by rfl, ?_⟩) hHeld ?_
  rotate_left
  · (intro w hSw; clear hSw; go_simp <;> with_reducible rfl)
  try simp only [Act.put, List.setIfInBounds_toArray, List.set_cons_zero, List.set_cons_succ]
  refine wpAnyH_take (i := 16) (oi := { dst := some 79, op := _, type := _, pos := _, after := _, guard := _ }) (v := ?_) rfl (by kernel_rfl) (by kernel_rfl) (by kernel_rfl) (fun _ _ _ h => h) (Or.inl ⟨by rfl, ?_⟩) hHeld ?_
  rotate_left
  · (intro w hSw; clear hSw; go_simp <;> with_reducible rfl)
  try simp only [Act.put, List.setIfInBounds_toArray, List.set_cons_zero, List.set_cons_succ]
  refine wpAnyH_take (i := 17) (oi := { dst := some 80, op := _, type := _, pos := _, after := _, guard := _ }) (v := ?_) rfl (by kernel_rfl) (by kernel_rfl) (by kernel_rfl) (fun _ _ _ h => h) (Or.inl ⟨by rfl, ?_⟩) hHeld ?_
  rotate_left
  · (intro w hSw; clear hSw; go_simp <;> with_reducible rfl)
  try simp only [Act.put, List.setIfInBounds_toArray, List.set_cons_zero, List.set_cons_succ]
  refine wpAnyH_take (i := 18) (oi := { dst := some 81, op := _, type := _, pos := _, after := _, guard := _ }) (v := ?_) rfl (by kernel_rfl) (by kernel_rfl) (by kernel_rfl) (fun _ _ _ h => h) (Or.inl ⟨by rfl, ?_⟩) hHeld ?_
  rotate_left
  · (intro w hSw; clear hSw; go_simp <;> with_reducible rfl)
  try simp only [Act.put, List.setIfInBounds_toArray, List.set_cons_zero, List.set_cons_succ]
  refine wpAnyH_take (i := 19) (oi := { dst := some 82, op := _, type := _, pos := _, after := _, guard := _ }) (v := ?_) rfl (by kernel_rfl) (by kernel_rfl) (by kernel_rfl) (fun _ _ _ h => h) (Or.inl ⟨by rfl, ?_⟩) hHeld ?_
  rotate_left
  · (intro w hSw; clear hSw; go_simp <;> with_reducible rfl)
  try simp only [Act.put, List.setIfInBounds_toArray, List.set_cons_zero, List.set_cons_succ]
  refine wpAnyH_take (i := 20) (oi := { dst := some 83, op := _, type := _, pos := _, after := _, guard := _ }) (v := ?_) rfl (by kernel_rfl) (by kernel_rfl) (by kernel_rfl) (fun _ _ _ h => h) (Or.inl ⟨by rfl, ?_⟩) hHeld ?_
  rotate_left
  · (intro w hSw; clear hSw; go_simp <;> with_reducible rfl)
  try simp only [Act.put, List.setIfInBounds_toArray, List.set_cons_zero, List.set_cons_succ]
  refine wpAnyH_take (i := 21) (oi := { dst := some 84, op := _, type := _, pos := _, after := _, guard := _ }) (v := ?_) rfl (by kernel_rfl) (by kernel_rfl) (by kernel_rfl) (fun _ _ _ h => h) (Or.inl ⟨by rfl, ?_⟩) hHeld ?_
  rotate_left
  · (intro w hSw; clear hSw; go_simp <;> with_reducible rfl)
  try simp only [Act.put, List.setIfInBounds_toArray, List.set_cons_zero, List.set_cons_succ]
  refine wpAnyH_take (i := 22) (oi := { dst := some 85, op := _, type := _, pos := _, after := _, guard := _ }) (v := ?_) rfl (by kernel_rfl) (by kernel_rfl) (by kernel_rfl) (fun _ _ _ h => h) (Or.inl ⟨by rfl, ?_⟩) hHeld ?_
  rotate_left
  · (intro w hSw; clear hSw; go_simp <;> with_reducible rfl)
  try simp only [Act.put, List.setIfInBounds_toArray, List.set_cons_zero, List.set_cons_succ]
  refine wpAnyH_take (i := 23) (oi := { dst := some 86, op := _, type := _, pos := _, after := _, guard := _ }) (v := ?_) rfl (by kernel_rfl) (by kernel_rfl) (by kernel_rfl) (fun _ _ _ h => h) (Or.inl ⟨by rfl, ?_⟩) hHeld ?_
  rotate_left
  · (intro w hSw; clear hSw; go_simp <;> with_reducible rfl)
  try simp only [Act.put, List.setIfInBounds_toArray, List.set_cons_zero, List.set_cons_succ]
  refine wpAnyH_take (i := 24) (oi := { dst := some 87, op := _, type := _, pos := _, after := _, guard := _ }) (v := ?_) rfl (by kernel_rfl) (by kernel_rfl) (by kernel_rfl) (fun _ _ _ h => h) (Or.inl ⟨by rfl, ?_⟩) hHeld ?_
  rotate_left
  · (intro w hSw; clear hSw; go_simp <;> with_reducible rfl)
  try simp only [Act.put, List.setIfInBounds_toArray, List.set_cons_zero, List.set_cons_succ]
  refine wpAnyH_take (i := 25) (oi := { dst := some 88, op := _, type := _, pos := _, after := _, guard := _ }) (v := ?_) rfl (by kernel_rfl) (by kernel_rfl) (by kernel_rfl) (fun _ _ _ h => h) (Or.inl ⟨by rfl, ?_⟩) hHeld ?_
  rotate_left
  · (intro w hSw; clear hSw; go_simp <;> with_reducible rfl)
  try simp only [Act.put, List.setIfInBounds_toArray, List.set_cons_zero, List.set_cons_succ]
  refine wpAnyH_take (i := 26) (oi := { dst := some 89, op := _, type := _, pos := _, after := _, guard := _ }) (v := ?_) rfl (by kernel_rfl) (by kernel_rfl) (by kernel_rfl) (fun _ _ _ h => h) (Or.inl ⟨by rfl, ?_⟩) hHeld ?_
  rotate_left
  · (intro w hSw; clear hSw; go_simp <;> with_reducible rfl)
  try simp only [Act.put, List.setIfInBounds_toArray, List.set_cons_zero, List.set_cons_succ]
  refine wpAnyH_take (i := 27) (oi := { dst := some 90, op := _, type := _, pos := _, after := _, guard := _ }) (v := ?_) rfl (by kernel_rfl) (by kernel_rfl) (by kernel_rfl) (fun _ _ _ h => h) (Or.inl ⟨by rfl, ?_⟩) hHeld ?_
  rotate_left
  · (intro w hSw; clear hSw; go_simp <;> with_reducible rfl)
  try simp only [Act.put, List.setIfInBounds_toArray, List.set_cons_zero, List.set_cons_succ]
  refine wpAnyH_take (i := 28) (oi := { dst := some 91, op := _, type := _, pos := _, after := _, guard := _ }) (v := ?_) rfl (by kernel_rfl) (by kernel_rfl) (by kernel_rfl) (fun _ _ _ h => h) (Or.inl ⟨by rfl, ?_⟩) hHeld ?_
  rotate_left
  · (intro w hSw; clear hSw; go_simp <;> with_reducible rfl)
  try simp only [Act.put, List.setIfInBounds_toArray, List.set_cons_zero, List.set_cons_succ]
  refine wpAnyH_take (i := 29) (oi := { dst := some 92, op := _, type := _, pos := _, after := _, guard := _ }) (v := ?_) rfl (by kernel_rfl) (by kernel_rfl) (by kernel_rfl) (fun _ _ _ h => h) (Or.inl ⟨by rfl, ?_⟩) hHeld ?_
  rotate_left
  · (intro w hSw; clear hSw; go_simp <;> with_reducible rfl)
  try simp only [Act.put, List.setIfInBounds_toArray, List.set_cons_zero, List.set_cons_succ]
  refine wpAnyH_take (i := 30) (oi := { dst := some 93, op := _, type := _, pos := _, after := _, guard := _ }) (v := ?_) rfl (by kernel_rfl) (by kernel_rfl) (by kernel_rfl) (fun _ _ _ h => h) (Or.inl ⟨by rfl, ?_⟩) hHeld ?_
  rotate_left
  · (intro w hSw; clear hSw; go_simp <;> with_reducible rfl)
  try simp only [Act.put, List.setIfInBounds_toArray, List.set_cons_zero, List.set_cons_succ]
  refine wpAnyH_take (i := 31) (oi := { dst := some 94, op := _, type := _, pos := _, after := _, guard := _ }) (v := ?_) rfl (by kernel_rfl) (by kernel_rfl) (by kernel_rfl) (fun _ _ _ h => h) (Or.inl ⟨by rfl, ?_⟩) hHeld ?_
  rotate_left
  · (intro w hSw; clear hSw; go_simp <;> with_reducible rfl)
  try simp only [Act.put, List.setIfInBounds_toArray, List.set_cons_zero, List.set_cons_succ]
  refine wpAnyH_take (i := 32) (oi := { dst := some 95, op := _, type := _, pos := _, after := _, guard := _ }) (v := ?_) rfl (by kernel_rfl) (by kernel_rfl) (by kernel_rfl) (fun _ _ _ h => h) (Or.inl ⟨by rfl, ?_⟩) hHeld ?_
  rotate_left
  · (intro w hSw; clear hSw; go_simp <;> with_reducible rfl)
  try simp only [Act.put, List.setIfInBounds_toArray, List.set_cons_zero, List.set_cons_succ]
  refine wpAnyH_take (i := 33) (oi := { dst := some 96, op := _, type := _, pos := _, after := _, guard := _ }) (v := ?_) rfl (by kernel_rfl) (by kernel_rfl) (by kernel_rfl) (fun _ _ _ h => h) (Or.inl ⟨by rfl, ?_⟩) hHeld ?_
  rotate_left
  · (intro w hSw; clear hSw; go_simp <;> with_reducible rfl)
  try simp only [Act.put, List.setIfInBounds_toArray, List.set_cons_zero, List.set_cons_succ]
  refine wpAnyH_ready (rs := [34]) (by kernel_rfl) (by simp) ?_
  refine AllReadyH.cons (o := { dst := some 97, op := _, type := _, pos := _, after := _, guard := _ }) rfl (fun K hK => ?_) AllReadyH.nil
  go_simp
  refine (HLV.out _).mono ?_
  rintro e x3 ⟨rfl, hk3⟩
  have hKeep := since_step hHeld hk3
  go_wp2_with fail
  refine hK.out _ _ (by (try dsimp only); exact hKeep) (fun hHeld => ?_)
  clear hK K hKeep
  try simp only [Act.put, List.setIfInBounds_toArray, List.set_cons_zero, List.set_cons_succ]
  refine wpAnyH_take (i := 35) (oi := { dst := some 98, op := _, type := _, pos := _, after := _, guard := _ }) (v := ?_) rfl (by kernel_rfl) (by kernel_rfl) (by kernel_rfl) (fun _ _ _ h => h) (Or.inl ⟨by rfl, ?_⟩) hHeld ?_
  rotate_left
  · (intro w hSw; clear hSw; go_simp <;> with_reducible rfl)
  try simp only [Act.put, List.setIfInBounds_toArray, List.set_cons_zero, List.set_cons_succ]
  refine wpAnyH_take (i := 36) (oi := { dst := some 6, op := _, type := _, pos := _, after := _, guard := _ }) (v := ?_) rfl (by kernel_rfl) (by kernel_rfl) (by kernel_rfl) (fun _ _ _ h => h) (Or.inl ⟨by rfl, ?_⟩) hHeld ?_
  rotate_left
  · (intro w hSw; clear hSw; go_simp <;> with_reducible rfl)
  try simp only [Act.put, List.setIfInBounds_toArray, List.set_cons_zero, List.set_cons_succ]
  refine wpAnyH_done (by kernel_rfl) ?_ _
  have hBf := hB.trans (hHeld.mono hB.size)
  go_wp2_with fail
  go_ret
  exact ⟨rfl, hBf⟩
end Go.Proofs.Ytldnponbkhgijaa
end
