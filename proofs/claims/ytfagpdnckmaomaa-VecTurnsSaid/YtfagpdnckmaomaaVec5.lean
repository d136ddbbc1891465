/-
  Layer 11, fifth part: Gross of both sides (laid by gen_vec5.py).
-/
import Derived.Test.YtfagpdnckmaomaaVec4
namespace Go.Proofs.Ytfagpdnckmaomaa
open Go.ChangeShapes Go.WideShapes Go.ChangeAt Go.RowKit
set_option linter.unusedVariables false
set_option linter.unusedSimpArgs false

theorem EI64 : Elem Try.prog 102 2 1 8 := Elem.mk' (z := .int .i64 0) (by kernel_rfl) (by kernel_rfl) (by decide) (by decide)
theorem absG_in {l : List Lg} (h : ∀ y ∈ l, In64 y.qty) (hl : l.length ≤ 900000) (k : Nat) : In128 (absG (l.take k)) := by
  have h1 := absG_bd (l := l.take k) fun y hy => h y (List.mem_of_mem_take hy)
  rw [List.length_take] at h1
  unfold In128
  omega

set_option maxHeartbeats 8000000 in
set_option maxRecDepth 100000 in
theorem rvgross_any (A : Option Addr) (cap : Nat) (l : List Lg) (w : World) (hl : l.length ≤ 900000) (h6 : ∀ y ∈ l, In64 y.qty) (hs : Sl w A (rc Lg.cells l)) :
    Calls Try.prog 26 #[.slice A l.length cap] w fun e w' => e = .returned (.tuple #[.int .i64 (grossR l).1, .int .i64 (grossR l).2]) ∧ Below w.heap.size w w' := by
  have HIS := rvis_any A cap l w (by omega) hs
  obtain ⟨ga, gb, hgr⟩ : ∃ a b, grossR l = (a, b) := ⟨_, _, rfl⟩
  rw [hgr]
  cases hi : isG l with
  | false =>
    have HE : Hid (((0 : Int), (3 : Int)) = (ga, gb)) := Lib.hid (by rw [← hgr]; unfold grossR; rw [if_pos hi])
    rw [hi] at HIS
    clear hi hgr
    go_enter Try.func26, Try.ntmps26
    go_wp2_with fail
    refine HIS.mono ?_
    rintro e w1 ⟨rfl, hb⟩
    go_wp2_with fail
    go_ret2
    have he := HE.out
    injection he with e1 e2
    subst e1; subst e2
    exact ⟨rfl, hb⟩
  | true =>
    have HOV : Hid (∀ k, (h : k < l.length) → ¬ In64 (l[k].qty.natAbs : Int) → ((0 : Int), (7 : Int)) = (ga, gb)) := Lib.hid fun k h hb => by rw [← hgr]; exact (gross_over hi (List.getElem_mem h) hb).symm
    have HEN : Hid ((fV (absG l), fE (absG l)) = (ga, gb)) := Lib.hid (by rw [← hgr]; unfold grossR; rw [if_neg (by rw [hi]; simp)])
    have HQ := Lib.hid h6
    have H128 : Hid (∀ k, In128 (absG (l.take k))) := Lib.hid fun k => absG_in h6 hl k
    rw [hi] at HIS
    clear hi h6 hgr
    go_enter Try.func26, Try.ntmps26
    go_wp2_with fail
    refine HIS.mono ?_
    rintro e w1 ⟨rfl, hb0⟩
    have hs0 := hs.below hb0
    have hz0 := hb0.size
    clear HIS hs
    have hs1 := hs0.alloc (.cells #[.bool false, .slice none 0 0] 59)
    have X0 := BX.new (w := w1) (B := w1.heap.size + 1) (by omega) 59
    have hB1 := since_alloc (Below.refl w1.heap.size w1) (.cells #[.bool false, .slice none 0 0] 59)
    go_upto_region 4 with fail
    generalize hWW : w1.alloc (.cells #[.bool false, .slice none 0 0] 59) = W at *
    clear hWW
    go_wp2_with fail
    go_loopw [5] (fun i wr => ∃ (k : Nat) (s : Bool) (A' : Option Addr) (n' c' : Nat), k ≤ l.length ∧ i = .int .i64 k ∧ BX (w1.heap.size + 1) wr w1.heap.size s A' n' c' (absG (l.take k)) ∧ Below w1.heap.size w1 wr) (fun i _ => l.length - (intOf i).toNat)
    case atStart => exact ⟨0, false, none, 0, 0, by omega, rfl, X0, hB1⟩
    case round =>
      obtain ⟨k, s6, A6, n6, c6, hk, rfl, X6, hB⟩ := hrel
      clear X0 hB1
      by_cases hlt : k < l.length
      · obtain ⟨b, o, rfl, hbw, hg⟩ := (hs0.below hB).lg hlt
        have hlk : (k : Int) < (l.length : Int) := by omega
        have hx6 := HQ.out _ (List.getElem_mem hlt)
        have HBK := Lib.hid (HOV.out k hlt)
        have HT := Lib.hid (absG_take l hlt)
        have HY := Lib.hid (H128.out k)
        obtain ⟨v, hv⟩ : ∃ v, l[k] = v := ⟨_, rfl⟩
        obtain ⟨y, hy⟩ : ∃ y, absG (l.take k) = y := ⟨_, rfl⟩
        rw [hv] at hg hx6 HBK HT
        rw [hy] at X6 HT HY
        obtain ⟨va, vq⟩ := v
        obtain ⟨g0, g1⟩ := hg
        simp only at g0 g1 hx6 HBK HT
        have HOF := Lib.hid (fun V => bof_any vq V hx6)
        have HX64 := Lib.hid hx6
        clear hv hy hx6 hbw
        go_wp2_with fail
        refine (HOF.out _).mono ?_
        rintro e u1 ⟨⟨s1, A1, m1, k1, rfl, hf1, Y1⟩, hk1⟩
        have hBu := since_step hB hk1
        have hgu := X6.bb.1
        have X6 := X6.below hk1
        have L1 := Y1.l64 HX64.out
        have YA := Y1.abs.alloc (.cells #[.bool false, .slice A1 m1 k1] 59)
        have Z1 := BB.new u1 false A1 m1 k1 59
        have X6 := X6.alloc (.cells #[.bool false, .slice A1 m1 k1] 59)
        have hBU := since_alloc hBu (.cells #[.bool false, .slice A1 m1 k1] 59)
        have HBF := Lib.hid (bfits_any _ _ _ _ _ (u1.alloc (.cells #[.bool false, .slice A1 m1 k1] 59)) (by omega) YA)
        have hgz : w1.heap.size < u1.heap.size := Nat.lt_of_lt_of_le hgu hk1.size
        clear hk1 g0 g1
        by_cases h64 : In64 (vq.natAbs : Int)
        · have HT2 : Hid (decide (inN (vq.natAbs : Int) 63) = true) := Lib.hid (decide_eq_true ((in64_iff _).2 h64))
          rw [HT2.out] at HBF
          have H128n := Lib.hid (H128.out (k + 1))
          clear HBK h64
          go_upto_region 9 with fail
          generalize hWU : u1.alloc (.cells #[.bool false, .slice A1 m1 k1] 59) = U at *
          clear hWU Y1
          obtain ⟨z1, z2, z3, z4, z5⟩ := id Z1
          go_wp2_with fail
          refine HBF.out.mono ?_
          rintro e u2 ⟨rfl, hk2⟩
          have hBv := since_step hBU hk2
          have X6 := X6.below hk2
          have Z1 := Z1.below hk2
          have YA := YA.below hk2
          have L6 := X6.at_.l128 HY.out
          have hgv := X6.bb.1
          clear hk2 z1 z2 z3 z4 z5 HBF
          obtain ⟨z1, z2, z3, z4, z5⟩ := id Z1
          obtain ⟨b1, b2, b3, b4, b5⟩ := id X6.bb
          go_wp2_with fail
          refine (badd' (by omega) (by omega) X6.at_ YA).mono ?_
          rintro e u3 ⟨⟨s2, A2, m2, k2, rfl, hf2, Y2⟩, hk3⟩
          have hB3 := since_step hBv hk3
          have X6 := X6.below hk3
          have hF : Fr (w1.heap.size + 1) A2 m2 := hf2.le (by omega) (Nat.le_refl _)
          have X6n := X6.put Y2 hF
          have hB4 := Below.setCell (Below.setCell hB3 (p := ⟨w1.heap.size, 0, none⟩) (Nat.le_refl _) (.bool s2)) (p := ⟨w1.heap.size, 1, none⟩) (Nat.le_refl _) (.slice A2 m2 k2)
          clear hk3 z1 z2 z3 z4 z5 b1 b2 b3 b4 b5
          obtain ⟨b1, b2, b3, b4, b5⟩ := id X6.bb
          clear X6
          go_wp2_with fail
          generalize hFW : ((u3.setCell ⟨w1.heap.size, 0, none⟩ (.bool s2)).setCell ⟨w1.heap.size, 1, none⟩ (.slice A2 m2 k2)) = FW at *
          clear hFW b1 b2 b3 b4 b5
          go_roundw
          case rel => exact ⟨k + 1, s2, A2, m2, k2, by omega, by go_num, by rw [HT.out]; exact X6n, hB4⟩
          case measure => simp [intOf]; omega
        · have HT2 : Hid (decide (inN (vq.natAbs : Int) 63) = false) := Lib.hid (decide_eq_false (fun h => h64 ((in64_iff _).1 h)))
          rw [HT2.out] at HBF
          have HE := Lib.hid (HBK.out h64)
          clear HBK h64
          go_upto_region 9 with fail
          generalize hWU : u1.alloc (.cells #[.bool false, .slice A1 m1 k1] 59) = U at *
          clear hWU Y1
          obtain ⟨z1, z2, z3, z4, z5⟩ := id Z1
          go_wp2_with fail
          refine HBF.out.mono ?_
          rintro e u2 ⟨rfl, hk2⟩
          have hBv := since_step hBU hk2
          go_wp2_with fail
          go_ret2
          have he := HE.out
          injection he with e1 e2
          subst e1; subst e2
          exact ⟨rfl, hb0.trans (hBv.mono hz0)⟩
      · obtain rfl : k = l.length := by omega
        rw [List.take_length] at X6
        have h128 := H128.out l.length
        rw [List.take_length] at h128
        have L6 := X6.at_.l128 h128
        obtain ⟨z, hz⟩ : ∃ z, absG l = z := ⟨_, rfl⟩
        rw [hz] at X6 HEN
        have HBF := Lib.hid (bfits_any _ _ _ _ _ wr (by omega) X6.at_)
        obtain ⟨b1, b2, b3, b4, b5⟩ := id X6.bb
        clear hz h128 hs1
        by_cases h64 : In64 z
        · have HT2 : Hid (decide (inN z 63) = true) := Lib.hid (decide_eq_true ((in64_iff _).2 h64))
          rw [HT2.out] at HBF
          have HE : Hid ((z, (0 : Int)) = (ga, gb)) := Lib.hid (by rw [← HEN.out]; unfold fV fE; rw [if_pos h64, if_pos h64])
          have HI := Lib.hid h64
          clear h64
          go_wp2_with fail
          refine HBF.out.mono ?_
          rintro e u1 ⟨rfl, hk1⟩
          have hB1 := since_step hB hk1
          have X6 := X6.below hk1
          clear hk1 b1 b2 b3 b4 b5 HBF
          obtain ⟨b1, b2, b3, b4, b5⟩ := id X6.bb
          go_wp2_with fail
          refine (rint_any z HI.out _ _ _ _ _ X6.at_).mono ?_
          rintro e u2 ⟨rfl, hk2⟩
          have hB2 := since_step hB1 hk2
          go_wp2_with fail
          go_ret2
          have he := HE.out
          injection he with e1 e2
          subst e1; subst e2
          exact ⟨rfl, hb0.trans (hB2.mono hz0)⟩
        · have HT2 : Hid (decide (inN z 63) = false) := Lib.hid (decide_eq_false (fun h => h64 ((in64_iff _).1 h)))
          rw [HT2.out] at HBF
          have HE : Hid (((0 : Int), (7 : Int)) = (ga, gb)) := Lib.hid (by rw [← HEN.out]; unfold fV fE; rw [if_neg h64, if_neg h64])
          clear h64
          go_wp2_with fail
          refine HBF.out.mono ?_
          rintro e u1 ⟨rfl, hk1⟩
          have hB1 := since_step hB hk1
          go_wp2_with fail
          go_ret2
          have he := HE.out
          injection he with e1 e2
          subst e1; subst e2
          exact ⟨rfl, hb0.trans (hB1.mono hz0)⟩

set_option maxHeartbeats 8000000 in
set_option maxRecDepth 100000 in
theorem vgross_any (A : Option Addr) (cap : Nat) (l : List Lg) (w : World) (hl : l.length ≤ 900000) (h6 : ∀ y ∈ l, In64 y.qty) (hs : Sl w A (rc Lg.cells l)) :
    Calls Try.prog 25 #[.slice A l.length cap] w fun e w' => e = .returned (.tuple #[.int .i64 (grossR l).1, .int .i64 (grossR l).2]) ∧ Below w.heap.size w w' := by
  have HIS := vis_any A cap l w (by omega) hs
  obtain ⟨ga, gb, hgr⟩ : ∃ a b, grossR l = (a, b) := ⟨_, _, rfl⟩
  rw [hgr]
  cases hi : isG l with
  | false =>
    have HE : Hid (((0 : Int), (3 : Int)) = (ga, gb)) := Lib.hid (by rw [← hgr]; unfold grossR; rw [if_pos hi])
    rw [hi] at HIS
    clear hi hgr
    go_enter Try.func25, Try.ntmps25
    go_wp2_with fail
    refine HIS.mono ?_
    rintro e w1 ⟨rfl, hb⟩
    go_wp2_with fail
    go_ret2
    have he := HE.out
    injection he with e1 e2
    subst e1; subst e2
    exact ⟨rfl, hb⟩
  | true =>
    have HOV : Hid (∀ k, (h : k < l.length) → ¬ In64 (l[k].qty.natAbs : Int) → ((0 : Int), (7 : Int)) = (ga, gb)) := Lib.hid fun k h hb => by rw [← hgr]; exact (gross_over hi (List.getElem_mem h) hb).symm
    have HEN : Hid ((fV (absG l), fE (absG l)) = (ga, gb)) := Lib.hid (by rw [← hgr]; unfold grossR; rw [if_neg (by rw [hi]; simp)])
    have HQ := Lib.hid h6
    have H128 : Hid (∀ k, In128 (absG (l.take k))) := Lib.hid fun k => absG_in h6 hl k
    rw [hi] at HIS
    clear hi h6 hgr
    go_enter Try.func25, Try.ntmps25
    go_wp2_with fail
    refine HIS.mono ?_
    rintro e w1 ⟨rfl, hb0⟩
    have hs0 := hs.below hb0
    have hz0 := hb0.size
    clear HIS hs
    go_wp2_with (first | (at_make; refine wpList_mk rfl (.const (.int .i64 0)) (.tmp 13) rfl EI64 l.length rfl rfl rfl (by omega) (by unfold maxLen; omega) (Nat.le_refl _) ?_; intro w2 own1 hb1) | fail)
    go_loopw [4, 17] (fun ov i wr => ∃ (k : Nat) (D : List Int) (A2 : Option Addr) (c2 : Nat), k ≤ l.length ∧ i = .int .i64 k ∧ D = (l.take k).map (fun x => (x.qty.natAbs : Int)) ∧ ov = .slice A2 D.length c2 ∧ wr.ownsRow w1.heap.size 2 1 (.slice A2 D.length c2) D.length (ints .i64 D) ∧ All64 D ∧ Below w1.heap.size w1 wr) (fun _ i _ => l.length - (intOf i).toNat)
    case atStart => exact ⟨0, [], _, _, by omega, rfl, rfl, rfl, own1, (fun y hy => by cases hy), hb1⟩
    case round =>
      clear own1 hb1
      obtain ⟨k, D, A2, c2, hk, rfl, hD, rfl, own2, hin, hB⟩ := hrel
      by_cases hlt : k < l.length
      · obtain ⟨b, o, rfl, hbw, hg⟩ := (hs0.below hB).lg hlt
        have hlk : (k : Int) < (l.length : Int) := by omega
        have hx6 := HQ.out _ (List.getElem_mem hlt)
        have HBK := Lib.hid (HOV.out k hlt)
        have HT : Hid (D ++ [(l[k].qty.natAbs : Int)] = (l.take (k + 1)).map (fun x => (x.qty.natAbs : Int))) := Lib.hid (by rw [List.take_succ_eq_append_getElem hlt, List.map_append, hD]; rfl)
        have hDl : D.length ≤ 900000 := by rw [hD, List.length_map, List.length_take]; omega
        have hA := since_alloc hB (.cells l[k].cells.toArray 36)
        have HIN := Lib.hid hin
        obtain ⟨v, hv⟩ : ∃ v, l[k] = v := ⟨_, rfl⟩
        rw [hv] at hg hx6 HBK HT hA
        obtain ⟨va, vq⟩ := v
        obtain ⟨g0, g1⟩ := hg
        unfold Lg.cells at hA
        simp only at g0 g1 hx6 HBK HT hA
        have HAB := Lib.hid (fun V => fabs_any vq hx6 V)
        have own2 := own2.alloc (.cells #[.int .i64 va, .int .i64 vq] 36)
        clear hin hv hx6 hbw hD
        obtain ⟨q, hq⟩ : ∃ q, (vq.natAbs : Int) = q := ⟨_, rfl⟩
        rw [hq] at HAB HBK HT
        clear hq
        by_cases h64 : In64 q
        · have h1 : fV q = q := if_pos h64
          have h2 : fE q = 0 := if_pos h64
          rw [h1, h2] at HAB
          have HN : Hid (All64 (D ++ [q])) := Lib.hid (fun y hy => by
            rcases List.mem_append.1 hy with hy | hy
            · exact HIN.out y hy
            · simp only [List.mem_singleton] at hy; subst hy; exact h64)
          clear h1 h2 h64 HBK
          go_wp2_with fail
          refine (HAB.out _).mono ?_
          rintro e w3 ⟨rfl, hb⟩
          have hB2 := since_step hA hb
          have own2 := own_below own2 hb
          have hsz := hB2.size
          clear hb g0 g1
          go_wp2_with (first
            | (at_builtin; refine wpList_app rfl (.tmp 30) (.tmp 32) rfl EI64 rfl rfl (own2.alloc _) (m := 1) (news := ints .i64 [q]) rfl (Sl.new_ _ _ _) (ints_one _ _) (by unfold maxLen; omega) (by omega) (by simp only [World.size_alloc]; omega) ?_; intro A3 c3 w4 own3 hg3 hb3)
            | fail)
          have hB3 := (since_alloc hB2 (.cells #[.int .i64 q] 2)).trans hb3
          go_roundw
          case rel => exact ⟨k + 1, D ++ [q], A3, c3, by omega, by go_num, HT.out, by simp, by simpa [ints] using own3, HN.out, hB3⟩
          case measure => simp [intOf]; omega
        · have h1 : fV q = 0 := if_neg h64
          have h2 : fE q = 7 := if_neg h64
          rw [h1, h2] at HAB
          have HE := Lib.hid (HBK.out h64)
          clear h1 h2 h64 HBK
          go_wp2_with fail
          refine (HAB.out _).mono ?_
          rintro e w3 ⟨rfl, hb⟩
          have hB2 := since_step hA hb
          go_wp2_with fail
          go_ret2
          have he := HE.out
          injection he with e1 e2
          subst e1; subst e2
          exact ⟨rfl, hb0.trans (hB2.mono hz0)⟩
      · obtain rfl : k = l.length := by omega
        rw [List.take_length] at hD
        have hDl : D.length ≤ 1000000 := by rw [hD, List.length_map]; omega
        have hDs : D.sum = absG l := by rw [hD]; rfl
        have HSM := Lib.hid (fsum_any A2 c2 D wr hDl hin (Sl.of_own own2))
        rw [hDs] at HSM
        clear hD hDs hin
        obtain ⟨z, hz⟩ : ∃ z, fV (absG l) = z := ⟨_, rfl⟩
        obtain ⟨z', hz'⟩ : ∃ z', fE (absG l) = z' := ⟨_, rfl⟩
        rw [hz, hz'] at HSM HEN
        clear hz hz'
        go_wp2_with fail
        refine HSM.out.mono ?_
        rintro e u1 ⟨rfl, hk1⟩
        have hB1 := since_step hB hk1
        go_wp2_with fail
        go_ret2
        have he := HEN.out
        injection he with e1 e2
        subst e1; subst e2
        exact ⟨rfl, hb0.trans (hB1.mono hz0)⟩
end Go.Proofs.Ytfagpdnckmaomaa
