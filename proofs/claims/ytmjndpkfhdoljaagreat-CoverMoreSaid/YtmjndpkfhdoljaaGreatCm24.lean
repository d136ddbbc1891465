import Derived.Test.YtmjndpkfhdoljaaGreatCm19
import Derived.Test.YtmjndpkfhdoljaaGreatCm23
import Derived.Test.YtmjndpkfhdoljaaGreatCm14
set_option maxHeartbeats 16000000
set_option maxRecDepth 100000
set_option linter.unusedVariables false
set_option linter.unusedSimpArgs false
namespace Go.Proofs.YtmjndpkfhdoljaaGreat
open Go.ChangeShapes Go.WideShapes Go.ChangeAt Go.RowKit
section
def mostR (is : List Ins) (M : List Lg) : Nat → Int × Int
  | 0 => (0, -1)
  | k + 1 => if (mostR is M k).1 < lossZ is k M then (lossZ is k M, (k : Int)) else mostR is M k
def codeI (is : List Ins) (M : List Lg) : Int := if isG M = false then 3 else if missI is M = true then 11 else 0
theorem code_cases (is : List Ins) (M : List Lg) : (codeI is M = 0 ∧ ∀ s, lossR is M s = (lossZ is s M, 0)) ∨ (codeI is M ≠ 0 ∧ ∀ s, lossR is M s = (0, codeI is M)) := by
  unfold codeI lossR
  by_cases h : isG M = false
  · rw [if_pos h]
    exact .inr ⟨by decide, fun s => by rw [if_pos h]⟩
  · rw [if_neg h]
    by_cases h2 : missI is M = true
    · rw [if_pos h2]
      exact .inr ⟨by decide, fun s => by rw [if_neg h, if_pos h2]⟩
    · rw [if_neg h2]
      exact .inl ⟨rfl, fun s => by rw [if_neg h, if_neg h2]⟩
theorem mostR_cases (is : List Ins) (M : List Lg) : ∀ k, (mostR is M k).1 = 0 ∨ ∃ s : Int, (mostR is M k).1 = lossZ is s M
  | 0 => .inl rfl
  | k + 1 => by
    rw [mostR]
    split
    · exact .inr ⟨k, rfl⟩
    · exact mostR_cases is M k
theorem mostR_128 {is : List Ins} {M : List Lg} (h : ∀ y ∈ M, In64 y.qty) (hl : M.length ≤ 1000) (k : Nat) : In128 (mostR is M k).1 := by
  rcases mostR_cases is M k with e | ⟨s, e⟩
  · rw [e]; unfold In128; omega
  · rw [e]; exact lossZ_128 h hl
def worstR (is : List Ins) (M : List Lg) : Int × Int × Int := if codeI is M = 0 then ((mostR is M 8).1, (mostR is M 8).2, 0) else (0, -1, codeI is M)
theorem worstR_no {is : List Ins} {M : List Lg} (h : codeI is M ≠ 0) : worstR is M = (0, -1, codeI is M) := if_neg h
theorem worstR_ok {is : List Ins} {M : List Lg} (h : codeI is M = 0) : worstR is M = ((mostR is M 8).1, (mostR is M 8).2, 0) := if_pos h
def WRes24 (e : Ending) (R : Int × Int × Int) : Prop := e = .returned (.tuple #[.agg #[.int .i64 (hiN R.1), .int .u64 (loN R.1)], .int .i64 R.2.1, .int .i64 R.2.2])
theorem gworst_any (A : Option Addr) (cap : Nat) (l : List Iq) (is : List Ins) (LA : Option Addr) (LC : Nat) (M : List Lg) (w : World) (hl : l.length ≤ 900000) (hcl : ∀ i ∈ is, i.mv.length ≤ 900000) (hMl : M.length ≤ 1000) (hM6 : ∀ y ∈ M, In64 y.qty) (hs : Sl w A (rc Iq.cells l)) (ht : InTab w l is) (hM : Sl w LA (rc Lg.cells M)) :
    Calls Tryz.prog 98 #[.slice A l.length cap, .slice LA M.length LC] w fun e w' => WRes24 e (worstR is M) ∧ Below w.heap.size w w' := by
  obtain ⟨z1, z2, z3⟩ := zero_parts
  have hB0 := since_alloc (since_alloc (Below.refl _ w) (.cells #[.int .i64 0, .int .u64 0] 123)) (.cells #[.int .i64 0, .int .u64 0] 123)
  have T40 := (T2.new w 0 0 123).alloc (.cells #[.int .i64 0, .int .u64 0] 123)
  have T70 := T2.new (w.alloc (.cells #[.int .i64 0, .int .u64 0] 123)) 0 0 123
  rw [World.size_alloc] at T70
  have HLS := Lib.hid (fun s hs6 V h1 h2 h3 => gloss_any A cap l is LA LC M s V hl hcl hMl hM6 hs6 h1 h2 h3)
  have HH : Hid (∀ V, Below w.heap.size w V → Sl V A (rc Iq.cells l) ∧ InTab V l is ∧ Sl V LA (rc Lg.cells M)) := Lib.hid fun V hV => ⟨hs.below hV, ht.below hV, hM.below hV⟩
  have HZ0 : Hid (hiN 0 = 0 ∧ loN 0 = 0) := Lib.hid ⟨z1, z2⟩
  have H128 := Lib.hid (fun k => mostR_128 (is := is) hM6 hMl k)
  have H129 := Lib.hid (fun s => lossZ_128 (is := is) (s := s) hM6 hMl)
  clear hs ht hM z1 z2 z3
  rcases code_cases is M with ⟨hc, hL⟩ | ⟨hc, hL⟩
  rotate_left
  · have HR := Lib.hid (worstR_no hc)
    have hL0 := HLS.out 0 (by unfold In64; omega)
    rw [hL 0] at hL0
    have HL := Lib.hid hL0
    generalize codeI is M = c at *
    have hcb : (c != 0) = true := by simpa using hc
    have hcb2 : (c == 0) = false := by simpa using hc
    clear hc hL hL0 HLS
    go_enter Tryz.func98, Tryz.ntmps98
    go_upto_region 3 with fail
    generalize hWW : (w.alloc (.cells #[.int .i64 0, .int .u64 0] 123)).alloc (.cells #[.int .i64 0, .int .u64 0] 123) = W at *
    clear hWW
    go_wp2_with fail
    go_loopw [8, 12] (fun av iv wr => iv = .int .i64 0 ∧ T2 wr w.heap.size 0 0 ∧ Below w.heap.size w wr) (fun _ iv _ => 8 - (intOf iv).toNat)
    case atStart => exact ⟨rfl, T40, hB0⟩
    case round =>
      obtain ⟨rfl, T4, hB⟩ := hrel
      obtain ⟨h1, h2, h3⟩ := HH.out _ hB
      have HL1 := Lib.hid (HL.out wr h1 h2 h3)
      have hcs := @cell_set
      unfold LRes24 at HL1
      simp only at HL1
      have z0 : hiN 0 = 0 := HZ0.out.1
      have z9 : loN 0 = 0 := HZ0.out.2
      rw [z0, z9] at HL1
      clear h1 h2 h3 z0 z9
      go_wp2_with fail
      refine HL1.out.mono ?_
      rintro e u1 ⟨rfl, hb⟩
      have hB1 := since_step hB hb
      have T4b := (T4.below hb)
      obtain ⟨t0, t1, t2, t3, t4⟩ := id T4b
      go_wp2_with fail
      refine bodyPost_ret (v := .tuple #[.agg #[.int .i64 0, .int .u64 0], .int .i64 (-1), .int .i64 c]) ?_ rfl ⟨?_, ?_⟩
      · simp [results, Tryz.results98, go_sem, t0, t1, t2, hcs]
      · rw [HR.out]; unfold WRes24; simp only; rw [HZ0.out.1, HZ0.out.2]
      · repeat' (first | with_reducible exact hB1 | with_reducible refine Below.setCell ?_ ?_ _ | with_reducible refine Below.alloc ?_ ?_ _)
        all_goals first | (simp; done) | (simp; omega)
  · have HR := Lib.hid (worstR_ok hc)
    have HL := Lib.hid hL
    clear hc hL
    go_enter Tryz.func98, Tryz.ntmps98
    go_upto_region 3 with fail
    generalize hWW : (w.alloc (.cells #[.int .i64 0, .int .u64 0] 123)).alloc (.cells #[.int .i64 0, .int .u64 0] 123) = W at *
    clear hWW
    go_wp2_with fail
    go_loopw [8, 12] (fun av iv wr => ∃ k : Nat, k ≤ 8 ∧ iv = .int .i64 k ∧ av = .int .i64 (mostR is M k).2 ∧ T2 wr w.heap.size 0 0 ∧ T2 wr (w.heap.size + 1) (hiN (mostR is M k).1) (loN (mostR is M k).1) ∧ Below w.heap.size w wr) (fun _ iv _ => 8 - (intOf iv).toNat)
    case atStart => exact ⟨0, by omega, rfl, rfl, T40, (by rw [show (mostR is M 0).1 = 0 from rfl, HZ0.out.1, HZ0.out.2]; exact T70), hB0⟩
    case round =>
      obtain ⟨k, hk, rfl, rfl, T4, T7, hB⟩ := hrel
      by_cases hlt : k < 8
      · have hlk : (k : Int) < 8 := by omega
        obtain ⟨h1, h2, h3⟩ := HH.out _ hB
        have hL1 := HLS.out (k : Int) (by unfold In64; omega) wr h1 h2 h3
        rw [HL.out] at hL1
        have HL1 := Lib.hid hL1
        have HCM := Lib.hid (fun V => wcmp_any (lossZ is k M) (mostR is M k).1 (H129.out _) (H128.out _) V)
        have HST : Hid (mostR is M (k + 1) = if (mostR is M k).1 < lossZ is k M then (lossZ is k M, (k : Int)) else mostR is M k) := Lib.hid rfl
        clear h1 h2 h3 hL1
        obtain ⟨q, hq0⟩ : ∃ q, mostR is M (k + 1) = q := ⟨_, rfl⟩
        have HQG := Lib.hid hq0
        rw [hq0] at HST
        clear hq0
        generalize mostR is M k = p at *
        generalize lossZ is k M = x at *
        obtain ⟨pz, pa⟩ := p
        simp only at T7 HCM HST
        unfold LRes24 at HL1
        simp only at HL1
        have hcs := @cell_set
        by_cases hx : pz < x
        · have hcm : cmpZ x pz = 1 := by unfold cmpZ; rw [if_neg (by omega), if_neg (by omega)]
          rw [hcm] at HCM
          have HQ : Hid (q = (x, (k : Int))) := Lib.hid (by rw [HST.out, if_pos hx])
          clear hcm hx HST
          go_wp2_with fail
          refine HL1.out.mono ?_
          rintro e u1 ⟨rfl, hb⟩
          have hB1 := since_alloc (since_step hB hb) (.cells #[.int .i64 (hiN x), .int .u64 (loN x)] 123)
          have T4b := (T4.below hb).alloc (.cells #[.int .i64 (hiN x), .int .u64 (loN x)] 123)
          have T7b := (T7.below hb).alloc (.cells #[.int .i64 (hiN x), .int .u64 (loN x)] 123)
          have T10 := T2.new u1 (hiN x) (loN x) 123
          clear hb
          go_upto_region 9 with fail
          generalize hYY : u1.alloc (.cells #[.int .i64 (hiN x), .int .u64 (loN x)] 123) = Y at *
          generalize hGG : u1.heap.size = g10 at *
          clear hYY hGG
          obtain ⟨r0, r1, r2, r3, r4⟩ := id T7b
          obtain ⟨s0, s1, s2, s3, s4⟩ := id T10
          go_wp2_with fail
          refine (HCM.out _).mono ?_
          rintro e u2 ⟨rfl, hb⟩
          have hB2 := since_step hB1 hb
          have T4c := T4b.below hb
          have T7c := T7b.below hb
          have T10c := T10.below hb
          clear hb r0 r1 r2 r3 r4 s0 s1 s2 s3 s4
          obtain ⟨r0, r1, r2, r3, r4⟩ := id T7c
          obtain ⟨s0, s1, s2, s3, s4⟩ := id T10c
          go_wp2_with fail
          have T7n := T2.set2 T7c (hiN x) (loN x)
          have T4n := (T2.far T4c (p := ⟨w.heap.size + 1, 0, none⟩) (by show w.heap.size + 1 ≠ w.heap.size; omega) (.int .i64 (hiN x))).far (p := ⟨w.heap.size + 1, 1, none⟩) (by show w.heap.size + 1 ≠ w.heap.size; omega) (.int .u64 (loN x))
          have hBn := Below.setCell (Below.setCell hB2 (p := ⟨w.heap.size + 1, 0, none⟩) (Nat.le_succ _) (.int .i64 (hiN x))) (p := ⟨w.heap.size + 1, 1, none⟩) (Nat.le_succ _) (.int .u64 (loN x))
          clear hcs
          go_roundw
          case rel =>
            have hq := HQG.out.trans HQ.out
            exact ⟨k + 1, by omega, by go_num, by rw [hq], T4n, by rw [hq]; exact T7n, hBn⟩
          case measure => simp [intOf]; omega
        · have hcm : ∃ z, cmpZ x pz = z ∧ ¬ (0 < z) := by
            unfold cmpZ
            split
            · exact ⟨_, rfl, by omega⟩
            · rw [if_pos (by omega)]; exact ⟨_, rfl, by omega⟩
          obtain ⟨z, hz, hz0⟩ := hcm
          rw [hz] at HCM
          have HQ : Hid (q = (pz, pa)) := Lib.hid (by rw [HST.out, if_neg hx])
          clear hz hx HST
          go_wp2_with fail
          refine HL1.out.mono ?_
          rintro e u1 ⟨rfl, hb⟩
          have hB1 := since_alloc (since_step hB hb) (.cells #[.int .i64 (hiN x), .int .u64 (loN x)] 123)
          have T4b := (T4.below hb).alloc (.cells #[.int .i64 (hiN x), .int .u64 (loN x)] 123)
          have T7b := (T7.below hb).alloc (.cells #[.int .i64 (hiN x), .int .u64 (loN x)] 123)
          have T10 := T2.new u1 (hiN x) (loN x) 123
          clear hb
          go_upto_region 9 with fail
          generalize hYY : u1.alloc (.cells #[.int .i64 (hiN x), .int .u64 (loN x)] 123) = Y at *
          generalize hGG : u1.heap.size = g10 at *
          clear hYY hGG
          obtain ⟨r0, r1, r2, r3, r4⟩ := id T7b
          obtain ⟨s0, s1, s2, s3, s4⟩ := id T10
          go_wp2_with fail
          refine (HCM.out _).mono ?_
          rintro e u2 ⟨rfl, hb⟩
          have hB2 := since_step hB1 hb
          have T4c := T4b.below hb
          have T7c := T7b.below hb
          clear hb r0 r1 r2 r3 r4 s0 s1 s2 s3 s4 hcs
          go_wp2_with fail
          go_roundw
          case rel =>
            have hq := HQG.out.trans HQ.out
            exact ⟨k + 1, by omega, by go_num, by rw [hq], T4c, by rw [hq]; exact T7c, hB2⟩
          case measure => simp [intOf]; omega
      · obtain rfl : k = 8 := by omega
        have hcs := @cell_set
        generalize mostR is M 8 = p at *
        obtain ⟨pz, pa⟩ := p
        simp only at T7
        obtain ⟨r0, r1, r2, r3, r4⟩ := id T7
        obtain ⟨s0, s1, s2, s3, s4⟩ := id T4
        go_wp2_with fail
        refine bodyPost_ret (v := .tuple #[.agg #[.int .i64 (hiN pz), .int .u64 (loN pz)], .int .i64 pa, .int .i64 0]) ?_ rfl ⟨?_, ?_⟩
        · simp [results, Tryz.results98, go_sem, s0, s1, s2, hcs]
        · rw [HR.out]; rfl
        · repeat' (first | with_reducible exact hB | with_reducible refine Below.setCell ?_ ?_ _ | with_reducible refine Below.alloc ?_ ?_ _)
          all_goals first | (simp; done) | (simp; omega)
noncomputable def marginR (is : List Ins) (M : List Lg) : Int × Int := if (worstR is M).2.2 ≠ 0 then (0, (worstR is M).2.2) else (fV (worstR is M).1, fE (worstR is M).1)
theorem worstR_128 {is : List Ins} {M : List Lg} (h : ∀ y ∈ M, In64 y.qty) (hl : M.length ≤ 1000) : In128 (worstR is M).1 := by
  unfold worstR
  split
  · exact mostR_128 h hl 8
  · unfold In128; simp only; omega
theorem gmargin_any (A : Option Addr) (cap : Nat) (l : List Iq) (is : List Ins) (LA : Option Addr) (LC : Nat) (M : List Lg) (w : World) (hl : l.length ≤ 900000) (hcl : ∀ i ∈ is, i.mv.length ≤ 900000) (hMl : M.length ≤ 1000) (hM6 : ∀ y ∈ M, In64 y.qty) (hs : Sl w A (rc Iq.cells l)) (ht : InTab w l is) (hM : Sl w LA (rc Lg.cells M)) :
    Calls Tryz.prog 58 #[.slice A l.length cap, .slice LA M.length LC] w fun e w' => e = .returned (.tuple #[.int .i64 (marginR is M).1, .int .i64 (marginR is M).2]) ∧ Below w.heap.size w w' := by
  have HW := Lib.hid (gworst_any A cap l is LA LC M w hl hcl hMl hM6 hs ht hM)
  have H128 := worstR_128 (is := is) hM6 hMl
  unfold marginR
  generalize worstR is M = R at *
  obtain ⟨x, at_, c⟩ := R
  unfold WRes24 at HW
  simp only at HW H128 ⊢
  have HI := Lib.hid (fun V => int_any x H128 V)
  clear hs ht hM H128
  by_cases hc : c = 0
  · subst hc
    have HE : Hid ((if (0 : Int) ≠ 0 then ((0 : Int), (0 : Int)) else (fV x, fE x)) = (fV x, fE x)) := Lib.hid (by simp)
    rw [HE.out]
    go_enter Tryz.func58, Tryz.ntmps58
    go_wp2_with fail
    refine HW.out.mono ?_
    rintro e w1 ⟨rfl, hb⟩
    have hB1 := since_alloc hb (.cells #[.int .i64 (hiN x), .int .u64 (loN x)] 123)
    clear hb
    go_wp2_with fail
    refine (HI.out _).mono ?_
    rintro e w2 ⟨rfl, hb⟩
    have hB2 := since_step hB1 hb
    go_wp2_with fail
    go_ret2
    exact ⟨rfl, hB2⟩
  · have hcb : (c != 0) = true := by simpa using hc
    have hcb2 : (c == 0) = false := by simpa using hc
    rw [if_pos hc]
    clear hc
    go_enter Tryz.func58, Tryz.ntmps58
    go_wp2_with fail
    refine HW.out.mono ?_
    rintro e w1 ⟨rfl, hb⟩
    have hB1 := since_alloc hb (.cells #[.int .i64 (hiN x), .int .u64 (loN x)] 123)
    clear hb
    go_wp2_with fail
    go_ret2
    exact ⟨rfl, hB1⟩
end
section
theorem margin_in (is : List Ins) (M : List Lg) : In64 (marginR is M).1 := by
  unfold marginR
  split
  · unfold In64; simp only; omega
  · simp only
    unfold fV
    split
    · rename_i h; exact h
    · unfold In64; omega
end
end Go.Proofs.YtmjndpkfhdoljaaGreat
