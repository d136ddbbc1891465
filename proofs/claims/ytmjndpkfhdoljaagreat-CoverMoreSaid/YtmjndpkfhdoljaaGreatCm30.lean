import Derived.BigQuiet
import Derived.Deep.RegionHeld3
import Derived.Test.YtmjndpkfhdoljaaGreatCm11
import Derived.Test.YtmjndpkfhdoljaaGreatCm12
import Derived.Test.YtmjndpkfhdoljaaGreatCm19
import Derived.Test.YtmjndpkfhdoljaaGreatCm29
set_option maxHeartbeats 16000000
set_option maxRecDepth 100000
set_option linter.unusedVariables false
set_option linter.unusedSimpArgs false
namespace Go.Proofs.YtmjndpkfhdoljaaGreat
open Go.ChangeShapes Go.WideShapes Go.ChangeAt Go.RowKit
section
theorem rput_any (A : Option Addr) (cap : Nat) (l : List Lt) (x : Lt) (w : World) (hl : l.length ≤ 900000) (hx : In64 x.qty) (hq : ∀ y ∈ l, In64 y.qty) (hs : Sl w A (rc Lt.cells l)) :
  Calls Tryz.prog 30 #[.slice A l.length cap, x.val] w fun e w' => LRes w.heap.size w' e (putLR l x) ∧ Below w.heap.size w w' := by
 have hh64 := getL_in hq x.ast x.tag
 have hB0 := since_alloc (Below.refl _ w) (.cells x.cells.toArray 33)
 have hV0 := Lt.Bx.new w x
 have HS : Hid (∀ V, Below w.heap.size w V → Sl V A (rc Lt.cells l)) := Lib.hid fun V h => hs.below h
 have HIS := Lib.hid (fun V h => ris_any_Lots3 A cap l V (by omega) h)
 have HON := Lib.hid (fun V => one_any x V)
 have HG := Lib.hid (fun V h => rlget_any A cap l x.ast x.tag V (by omega) h)
 have HSET := Lib.hid (fun V q h => rset_any A cap l ⟨x.ast, x.tag, q⟩ V (by omega) h)
 clear hs
 rcases chkL_cases l x with hc | hc | hc
 ·have HR : Hid (putLR l x = (3, [])) := Lib.hid (by rw [putLR, if_pos (by rw [hc]; decide), hc])
  have HI := Lib.hid (chkL_three hc)
  clear hc hh64 hx hq
  obtain ⟨xa, xt, xq⟩ := x
  unfold Lt.val at *
  unfold Lt.cells at hB0 hV0
  simp only at *
  go_enter Tryz.func30, Tryz.ntmps30
  go_upto_region 1 with fail
  have fz0 : (w.alloc (.cells #[.int .i64 xa, .int .i64 xt, .int .i64 xq] 33)).frozen? ⟨w.heap.size, 2, none⟩ = false := by simp
  generalize hWW : w.alloc (.cells #[.int .i64 xa, .int .i64 xt, .int .i64 xq] 33) = w0 at *
  clear hWW
  obtain ⟨q0, q1, q2⟩ := hV0.got
  simp only at q0 q1 q2
  have lq := hV0.lt
  go_wp2_with fail
  refine (HIS.out _ (HS.out _ hB0)).mono ?_
  rw [HI.out]
  rintro e w1 ⟨rfl, hb⟩
  have hB1 := since_step hB0 hb
  have hV1 := hV0.below hb
  have fz1 := (hb.frozen (p := ⟨w.heap.size, 2, none⟩) lq).trans fz0
  clear hb q0 q1 q2 lq hV0 fz0
  obtain ⟨q0, q1, q2⟩ := hV1.got
  simp only at q0 q1 q2
  have lq := hV1.lt
  go_wp2_with fail
  go_ret2
  rw [HR.out]
  exact ⟨LRes.nil _ _ _, hB1⟩
 ·have HR : Hid (putLR l x = (2, [])) := Lib.hid (by rw [putLR, if_pos (by rw [hc]; decide), hc])
  have HI := Lib.hid (chkL_two hc).1
  have HO := Lib.hid (chkL_two hc).2
  clear hc hh64 hx hq
  obtain ⟨xa, xt, xq⟩ := x
  unfold Lt.val at *
  unfold Lt.cells at hB0 hV0
  simp only at *
  go_enter Tryz.func30, Tryz.ntmps30
  go_upto_region 1 with fail
  have fz0 : (w.alloc (.cells #[.int .i64 xa, .int .i64 xt, .int .i64 xq] 33)).frozen? ⟨w.heap.size, 2, none⟩ = false := by simp
  generalize hWW : w.alloc (.cells #[.int .i64 xa, .int .i64 xt, .int .i64 xq] 33) = w0 at *
  clear hWW
  obtain ⟨q0, q1, q2⟩ := hV0.got
  simp only at q0 q1 q2
  have lq := hV0.lt
  go_wp2_with fail
  refine (HIS.out _ (HS.out _ hB0)).mono ?_
  rw [HI.out]
  rintro e w1 ⟨rfl, hb⟩
  have hB1 := since_step hB0 hb
  have hV1 := hV0.below hb
  have fz1 := (hb.frozen (p := ⟨w.heap.size, 2, none⟩) lq).trans fz0
  clear hb q0 q1 q2 lq hV0 fz0
  obtain ⟨q0, q1, q2⟩ := hV1.got
  simp only at q0 q1 q2
  have lq := hV1.lt
  go_wp2_with fail
  refine (HON.out _).mono ?_
  rw [HO.out]
  rintro e w2 ⟨rfl, hb⟩
  have hB2 := since_step hB1 hb
  have hV2 := hV1.below hb
  have fz2 := (hb.frozen (p := ⟨w.heap.size, 2, none⟩) lq).trans fz1
  clear hb q0 q1 q2 lq hV1 fz1
  obtain ⟨q0, q1, q2⟩ := hV2.got
  simp only at q0 q1 q2
  have lq := hV2.lt
  go_wp2_with fail
  go_ret2
  rw [HR.out]
  exact ⟨LRes.nil _ _ _, hB2⟩
 obtain ⟨hi, ho⟩ := chkL_ok hc
 have hpos := okL_pos ho
 have hnn := getL_nn hi x.ast x.tag
 have hways : (¬ In64 (getL l x.ast x.tag + x.qty)) ∨ (In64 (getL l x.ast x.tag + x.qty) ∧ getL l x.ast x.tag = 0 ∧ l.length = 16) ∨ (In64 (getL l x.ast x.tag + x.qty) ∧ getL l x.ast x.tag = 0 ∧ l.length ≠ 16) ∨ (In64 (getL l x.ast x.tag + x.qty) ∧ getL l x.ast x.tag ≠ 0) := by
  by_cases h1 : In64 (getL l x.ast x.tag + x.qty)
  ·by_cases h2 : getL l x.ast x.tag = 0
   ·by_cases h3 : l.length = 16
    ·exact .inr (.inl ⟨h1, h2, h3⟩)
    ·exact .inr (.inr (.inl ⟨h1, h2, h3⟩))
   ·exact .inr (.inr (.inr ⟨h1, h2⟩))
  ·exact .inl h1
 rcases hways with h1 | h1 | h1 | h1
 ·have HR : Hid (putLR l x = (7, [])) := Lib.hid (by rw [putLR, if_neg (by rw [hc]; decide), if_pos h1])
  have HI := Lib.hid hi
  have HO := Lib.hid ho
  have HOH := Lib.hid (fun W => bof_any (getL l x.ast x.tag) W hh64)
  have HOQ := Lib.hid (fun W => bof_any x.qty W hx)
  have HI1 := Lib.hid hh64
  have HI2 := Lib.hid hx
  have HFT : Hid (decide (inN (getL l x.ast x.tag + x.qty) 63) = false) := Lib.hid (decide_eq_false (fun h => h1 ((in64_iff _).1 h)))
  obtain ⟨hs0, hgg⟩ : ∃ v, getL l x.ast x.tag = v := ⟨_, rfl⟩
  rw [hgg] at HOH HI1 HFT
  have HH := Lib.hid hgg
  clear hgg hc hi ho hq hpos hnn hh64 hx h1
  obtain ⟨xa, xt, xq⟩ := x
  unfold Lt.val at *
  unfold Lt.cells at hB0 hV0
  simp only at *
  go_enter Tryz.func30, Tryz.ntmps30
  go_upto_region 1 with fail
  have fz0 : (w.alloc (.cells #[.int .i64 xa, .int .i64 xt, .int .i64 xq] 33)).frozen? ⟨w.heap.size, 2, none⟩ = false := by simp
  generalize hWW : w.alloc (.cells #[.int .i64 xa, .int .i64 xt, .int .i64 xq] 33) = w0 at *
  clear hWW
  obtain ⟨q0, q1, q2⟩ := hV0.got
  simp only at q0 q1 q2
  have lq := hV0.lt
  go_wp2_with fail
  refine (HIS.out _ (HS.out _ hB0)).mono ?_
  rw [HI.out]
  rintro e w1 ⟨rfl, hb⟩
  have hB1 := since_step hB0 hb
  have hV1 := hV0.below hb
  have fz1 := (hb.frozen (p := ⟨w.heap.size, 2, none⟩) lq).trans fz0
  clear hb q0 q1 q2 lq hV0 fz0
  obtain ⟨q0, q1, q2⟩ := hV1.got
  simp only at q0 q1 q2
  have lq := hV1.lt
  go_wp2_with fail
  refine (HON.out _).mono ?_
  rw [HO.out]
  rintro e w2 ⟨rfl, hb⟩
  have hB2 := since_step hB1 hb
  have hV2 := hV1.below hb
  have fz2 := (hb.frozen (p := ⟨w.heap.size, 2, none⟩) lq).trans fz1
  clear hb q0 q1 q2 lq hV1 fz1
  obtain ⟨q0, q1, q2⟩ := hV2.got
  simp only at q0 q1 q2
  have lq := hV2.lt
  go_wp2_with fail
  refine (HG.out _ (HS.out _ hB2)).mono ?_
  rw [HH.out]
  rintro e w3 ⟨rfl, hb⟩
  have hB3 := since_step hB2 hb
  have hV3 := hV2.below hb
  have fz3 := (hb.frozen (p := ⟨w.heap.size, 2, none⟩) lq).trans fz2
  clear hb q0 q1 q2 lq hV2 fz2
  have HV : Hid (∀ V, Below w3.heap.size w3 V → Lt.Bx V w.heap.size ⟨xa, xt, xq⟩) := Lib.hid fun V hV => hV3.below hV
  have HFZ := Lib.hid fz3
  have HLQ := Lib.hid hV3.lt
  clear fz3
  obtain ⟨q0, q1, q2⟩ := hV3.got
  simp only at q0 q1 q2
  have lq := hV3.lt
  go_wp2_with fail
  clear q0 q1 q2 lq hV3
  generalize w3 = V at *
  refine wp_region_held_drew (S := (fun V' => Below V.heap.size V V')) (by kernel_rfl) (by exact (Below.refl _ _).drew) (fun hHeld => ?_)
  refine tkI 0 20 rfl (by intro w hSw; obtain ⟨q0, q1, q2⟩ := (HV.out _ hSw).got; simp only at q0 q1 q2; go_simp <;> with_reducible rfl) hHeld ?_; simp only [pqZ]
  refine tkI 2 22 rfl (by intro w hSw; obtain ⟨q0, q1, q2⟩ := (HV.out _ hSw).got; simp only at q0 q1 q2; go_simp <;> with_reducible rfl) hHeld ?_; simp only [pqZ]
  refine tkI 3 23 rfl (by intro w hSw; obtain ⟨q0, q1, q2⟩ := (HV.out _ hSw).got; simp only at q0 q1 q2; go_simp <;> with_reducible rfl) hHeld ?_; simp only [pqZ]
  refine wpAnyH_ready (rs := [1, 6]) (by kernel_rfl) (by simp) ?_
  refine AllReadyH.cons (o := ⟨some 21, _, _, _, _, _⟩) rfl (fun K hK => ?_) (AllReadyH.cons (o := ⟨some 7, _, _, _, _, _⟩) rfl (fun K hK => ?_) AllReadyH.nil)
  ·go_simp
   refine (HOH.out _).mono ?_
   rintro e x1 ⟨⟨s1, A1, n1, d1, rfl, hf1, Y1⟩, hk1⟩
   have hKeep := since_step hHeld hk1
   have L1 := Y1.l64_RInt HI1.out
   go_wp2_with fail
   refine hK.out _ _ (by (try dsimp only); exact hKeep) (fun hHeld => ?_); clear hK K hKeep; try simp only [pqZ]
   refine wpAnyH_ready (rs := [4, 6]) (by kernel_rfl) (by simp) ?_
   refine AllReadyH.cons (o := ⟨some 24, _, _, _, _, _⟩) rfl (fun K hK => ?_) (AllReadyH.cons (o := ⟨some 7, _, _, _, _, _⟩) rfl (fun K hK => ?_) AllReadyH.nil)
   ·go_simp
    refine (HOQ.out _).mono ?_
    rintro e x2 ⟨⟨s2, A2, n2, d2, rfl, hf2, Y2⟩, hk2⟩
    have hKeep := since_step hHeld hk2
    have L2 := Y2.l64_RInt HI2.out
    have Y1 := Y1.below hk2
    go_wp2_with fail
    refine hK.out _ _ (by (try dsimp only); exact hKeep) (fun hHeld => ?_); clear hK K hKeep; try simp only [pqZ]
    refine wpAnyH_ready (rs := [5, 6]) (by kernel_rfl) (by simp) ?_
    refine AllReadyH.cons (o := ⟨some 25, _, _, _, _, _⟩) rfl (fun K hK => ?_) (AllReadyH.cons (o := ⟨some 7, _, _, _, _, _⟩) rfl (fun K hK => ?_) AllReadyH.nil)
    ·go_simp
     refine (badd' (by omega) (by omega) Y1 Y2).mono ?_
     rintro e x3 ⟨⟨s9, A9, m9, k9, rfl, hf9, Y9⟩, hk3⟩
     have hKeep := since_step hHeld hk3
     have L9 := len_add Y1 Y2 Y9
     clear Y1 Y2
     go_wp2_with fail
     refine hK.out _ _ (by (try dsimp only); exact hKeep) (fun hHeld => ?_); clear hK K hKeep; try simp only [pqZ]
     refine rdZ 6 7 rfl (by kernel_rfl) (fun K hK => ?_)
     have hHd := hHeld
     obtain ⟨q0, q1, q2⟩ := (HV.out _ hHd).got; simp only at q0 q1 q2
     have hHp := hHeld
     have G := BB.new x3 false none 0 0 82
     have hgs : V.heap.size ≤ x3.heap.size := by have h := hHeld.size; (try simp only [World.size_alloc, World.size_drew] at h ⊢); omega
     have hKeep := since_alloc hHeld (.cells #[.bool false, .slice none 0 0] 82)
     have Y9f := Y9.alloc (.cells #[.bool s9, .slice A9 m9 k9] 82)
     have Y9 := Y9.alloc (.cells #[.bool false, .slice none 0 0] 82)
     go_simp
     refine hK.out _ _ (by (try dsimp only); exact hKeep) (fun hHeld => ?_); clear hK K hKeep; try simp only [pqZ]
     refine wpAnyH_ready (rs := [7]) (by kernel_rfl) (by simp) ?_
     refine AllReadyH.cons (o := ⟨none, _, _, _, _, _⟩) rfl (fun K hK => ?_) AllReadyH.nil
     have hHd := hHeld
     obtain ⟨q0, q1, q2⟩ := (HV.out _ hHd).got; simp only at q0 q1 q2
     have G9 := BB.new x3 s9 A9 m9 k9 82
     obtain ⟨g0, g1, g2, g3, g4⟩ := id G
     have hKeep := since_alloc hHp (.cells #[.bool s9, .slice A9 m9 k9] 82)
     skip
     go_simp
     refine hK.out _ _ (by (try dsimp only); exact hKeep) (fun hHeld => ?_); clear hK K hKeep; try simp only [pqZ]
     refine wpAnyH_done (by kernel_rfl) ?_ _
     clear hHp
     generalize hFW : (x3.alloc (.cells #[.bool s9, .slice A9 m9 k9] 82)) = FW at *
     have hBf := hB3.trans (hHeld.mono hB3.size)
     have hVf := HV.out _ hHeld
     have fzf := (hHeld.frozen (p := ⟨w.heap.size, 2, none⟩) HLQ.out).trans HFZ.out
     obtain ⟨g0, g1, g2, g3, g4⟩ := id G9
     go_wp2_with fail
     refine (bfits_any _ _ _ _ _ _ (by omega) Y9f).mono ?_
     rw [HFT.out]
     rintro e x4 ⟨rfl, hk4⟩
     have hB4 := since_step hBf hk4
     have Y9f := Y9f.below hk4
     have G9 := G9.below hk4
     have lqf := hVf.lt
     have fz4 := (hk4.frozen (p := ⟨w.heap.size, 2, none⟩) lqf).trans fzf
     have hV4 := hVf.below hk4
     clear hk4 g0 g1 g2 g3 g4 hVf fzf lqf
     obtain ⟨g0, g1, g2, g3, g4⟩ := id G9
     obtain ⟨q0, q1, q2⟩ := hV4.got
     simp only at q0 q1 q2
     have lq4 := hV4.lt
     go_wp2_with fail
     go_ret2
     rw [HR.out]
     exact ⟨LRes.nil _ _ _, hB4⟩
    ·have hHd := hHeld
     obtain ⟨q0, q1, q2⟩ := (HV.out _ hHd).got; simp only at q0 q1 q2
     have hHp := hHeld
     have G := BB.new x2 false none 0 0 82
     have hgs : V.heap.size ≤ x2.heap.size := by have h := hHeld.size; (try simp only [World.size_alloc, World.size_drew] at h ⊢); omega
     have hKeep := since_alloc hHeld (.cells #[.bool false, .slice none 0 0] 82)
     have Y1 := Y1.alloc (.cells #[.bool false, .slice none 0 0] 82)
     have Y2 := Y2.alloc (.cells #[.bool false, .slice none 0 0] 82)
     go_simp
     refine hK.out _ _ (by (try dsimp only); exact hKeep) (fun hHeld => ?_); clear hK K hKeep; try simp only [pqZ]
     refine rdZ 5 25 rfl (by kernel_rfl) (fun K hK => ?_)
     go_simp
     refine (badd' (by omega) (by omega) Y1 Y2).mono ?_
     rintro e x3 ⟨⟨s9, A9, m9, k9, rfl, hf9, Y9⟩, hk3⟩
     have hKeep := since_step hHeld hk3
     have L9 := len_add Y1 Y2 Y9
     have hG0 := G.1
     have G := G.below hk3
     clear Y1 Y2
     go_wp2_with fail
     refine hK.out _ _ (by (try dsimp only); exact hKeep) (fun hHeld => ?_); clear hK K hKeep; try simp only [pqZ]
     refine wpAnyH_ready (rs := [7]) (by kernel_rfl) (by simp) ?_
     refine AllReadyH.cons (o := ⟨none, _, _, _, _, _⟩) rfl (fun K hK => ?_) AllReadyH.nil
     have hHd := hHeld
     obtain ⟨q0, q1, q2⟩ := (HV.out _ hHd).got; simp only at q0 q1 q2
     have G9 := G.set2 s9 A9 m9 k9
     have Y9f := (Y9.far (p := ⟨x2.heap.size, 0, none⟩) (fun b o hA hn => by have h8 := hf9 b o hA hn; show b ≠ x2.heap.size; simp only [World.size_alloc, World.size_drew] at *; omega) (.bool s9)).far (p := ⟨x2.heap.size, 1, none⟩) (fun b o hA hn => by have h8 := hf9 b o hA hn; show b ≠ x2.heap.size; simp only [World.size_alloc, World.size_drew] at *; omega) (.slice A9 m9 k9)
     obtain ⟨g0, g1, g2, g3, g4⟩ := id G
     have hKeep := Below.setCell (Below.setCell hHeld (p := ⟨x2.heap.size, 0, none⟩) hgs (.bool s9)) (p := ⟨x2.heap.size, 1, none⟩) hgs (.slice A9 m9 k9)
     skip
     go_simp
     refine hK.out _ _ (by (try dsimp only); exact hKeep) (fun hHeld => ?_); clear hK K hKeep; try simp only [pqZ]
     refine wpAnyH_done (by kernel_rfl) ?_ _
     clear hHp
     generalize hFW : ((x3.setCell ⟨x2.heap.size, 0, none⟩ (.bool s9)).setCell ⟨x2.heap.size, 1, none⟩ (.slice A9 m9 k9)) = FW at *
     have hBf := hB3.trans (hHeld.mono hB3.size)
     have hVf := HV.out _ hHeld
     have fzf := (hHeld.frozen (p := ⟨w.heap.size, 2, none⟩) HLQ.out).trans HFZ.out
     obtain ⟨g0, g1, g2, g3, g4⟩ := id G9
     go_wp2_with fail
     refine (bfits_any _ _ _ _ _ _ (by omega) Y9f).mono ?_
     rw [HFT.out]
     rintro e x4 ⟨rfl, hk4⟩
     have hB4 := since_step hBf hk4
     have Y9f := Y9f.below hk4
     have G9 := G9.below hk4
     have lqf := hVf.lt
     have fz4 := (hk4.frozen (p := ⟨w.heap.size, 2, none⟩) lqf).trans fzf
     have hV4 := hVf.below hk4
     clear hk4 g0 g1 g2 g3 g4 hVf fzf lqf
     obtain ⟨g0, g1, g2, g3, g4⟩ := id G9
     obtain ⟨q0, q1, q2⟩ := hV4.got
     simp only at q0 q1 q2
     have lq4 := hV4.lt
     go_wp2_with fail
     go_ret2
     rw [HR.out]
     exact ⟨LRes.nil _ _ _, hB4⟩
   ·have hHd := hHeld
    obtain ⟨q0, q1, q2⟩ := (HV.out _ hHd).got; simp only at q0 q1 q2
    have hHp := hHeld
    have G := BB.new x1 false none 0 0 82
    have hgs : V.heap.size ≤ x1.heap.size := by have h := hHeld.size; (try simp only [World.size_alloc, World.size_drew] at h ⊢); omega
    have hKeep := since_alloc hHeld (.cells #[.bool false, .slice none 0 0] 82)
    have Y1 := Y1.alloc (.cells #[.bool false, .slice none 0 0] 82)
    go_simp
    refine hK.out _ _ (by (try dsimp only); exact hKeep) (fun hHeld => ?_); clear hK K hKeep; try simp only [pqZ]
    refine rdZ 4 24 rfl (by kernel_rfl) (fun K hK => ?_)
    go_simp
    refine (HOQ.out _).mono ?_
    rintro e x2 ⟨⟨s2, A2, n2, d2, rfl, hf2, Y2⟩, hk2⟩
    have hKeep := since_step hHeld hk2
    have L2 := Y2.l64_RInt HI2.out
    have hG0 := G.1
    have G := G.below hk2
    have Y1 := Y1.below hk2
    go_wp2_with fail
    refine hK.out _ _ (by (try dsimp only); exact hKeep) (fun hHeld => ?_); clear hK K hKeep; try simp only [pqZ]
    refine rdZ 5 25 rfl (by kernel_rfl) (fun K hK => ?_)
    go_simp
    refine (badd' (by omega) (by omega) Y1 Y2).mono ?_
    rintro e x3 ⟨⟨s9, A9, m9, k9, rfl, hf9, Y9⟩, hk3⟩
    have hKeep := since_step hHeld hk3
    have L9 := len_add Y1 Y2 Y9
    have hG0 := G.1
    have G := G.below hk3
    clear Y1 Y2
    go_wp2_with fail
    refine hK.out _ _ (by (try dsimp only); exact hKeep) (fun hHeld => ?_); clear hK K hKeep; try simp only [pqZ]
    refine wpAnyH_ready (rs := [7]) (by kernel_rfl) (by simp) ?_
    refine AllReadyH.cons (o := ⟨none, _, _, _, _, _⟩) rfl (fun K hK => ?_) AllReadyH.nil
    have hHd := hHeld
    obtain ⟨q0, q1, q2⟩ := (HV.out _ hHd).got; simp only at q0 q1 q2
    have G9 := G.set2 s9 A9 m9 k9
    have Y9f := (Y9.far (p := ⟨x1.heap.size, 0, none⟩) (fun b o hA hn => by have h8 := hf9 b o hA hn; show b ≠ x1.heap.size; simp only [World.size_alloc, World.size_drew] at *; omega) (.bool s9)).far (p := ⟨x1.heap.size, 1, none⟩) (fun b o hA hn => by have h8 := hf9 b o hA hn; show b ≠ x1.heap.size; simp only [World.size_alloc, World.size_drew] at *; omega) (.slice A9 m9 k9)
    obtain ⟨g0, g1, g2, g3, g4⟩ := id G
    have hKeep := Below.setCell (Below.setCell hHeld (p := ⟨x1.heap.size, 0, none⟩) hgs (.bool s9)) (p := ⟨x1.heap.size, 1, none⟩) hgs (.slice A9 m9 k9)
    skip
    go_simp
    refine hK.out _ _ (by (try dsimp only); exact hKeep) (fun hHeld => ?_); clear hK K hKeep; try simp only [pqZ]
    refine wpAnyH_done (by kernel_rfl) ?_ _
    clear hHp
    generalize hFW : ((x3.setCell ⟨x1.heap.size, 0, none⟩ (.bool s9)).setCell ⟨x1.heap.size, 1, none⟩ (.slice A9 m9 k9)) = FW at *
    have hBf := hB3.trans (hHeld.mono hB3.size)
    have hVf := HV.out _ hHeld
    have fzf := (hHeld.frozen (p := ⟨w.heap.size, 2, none⟩) HLQ.out).trans HFZ.out
    obtain ⟨g0, g1, g2, g3, g4⟩ := id G9
    go_wp2_with fail
    refine (bfits_any _ _ _ _ _ _ (by omega) Y9f).mono ?_
    rw [HFT.out]
    rintro e x4 ⟨rfl, hk4⟩
    have hB4 := since_step hBf hk4
    have Y9f := Y9f.below hk4
    have G9 := G9.below hk4
    have lqf := hVf.lt
    have fz4 := (hk4.frozen (p := ⟨w.heap.size, 2, none⟩) lqf).trans fzf
    have hV4 := hVf.below hk4
    clear hk4 g0 g1 g2 g3 g4 hVf fzf lqf
    obtain ⟨g0, g1, g2, g3, g4⟩ := id G9
    obtain ⟨q0, q1, q2⟩ := hV4.got
    simp only at q0 q1 q2
    have lq4 := hV4.lt
    go_wp2_with fail
    go_ret2
    rw [HR.out]
    exact ⟨LRes.nil _ _ _, hB4⟩
  ·have hHd := hHeld
   obtain ⟨q0, q1, q2⟩ := (HV.out _ hHd).got; simp only at q0 q1 q2
   have hHp := hHeld
   have G := BB.new V.drew false none 0 0 82
   rw [World.size_drew] at G
   have hgs : V.heap.size ≤ V.heap.size := by have h := hHeld.size; (try simp only [World.size_alloc, World.size_drew] at h ⊢); omega
   have hKeep := since_alloc hHeld (.cells #[.bool false, .slice none 0 0] 82)
   go_simp
   refine hK.out _ _ (by (try dsimp only); exact hKeep) (fun hHeld => ?_); clear hK K hKeep; try simp only [pqZ]
   refine rdZ 1 21 rfl (by kernel_rfl) (fun K hK => ?_)
   go_simp
   refine (HOH.out _).mono ?_
   rintro e x1 ⟨⟨s1, A1, n1, d1, rfl, hf1, Y1⟩, hk1⟩
   have hKeep := since_step hHeld hk1
   have L1 := Y1.l64_RInt HI1.out
   have hG0 := G.1
   have G := G.below hk1
   go_wp2_with fail
   refine hK.out _ _ (by (try dsimp only); exact hKeep) (fun hHeld => ?_); clear hK K hKeep; try simp only [pqZ]
   refine rdZ 4 24 rfl (by kernel_rfl) (fun K hK => ?_)
   go_simp
   refine (HOQ.out _).mono ?_
   rintro e x2 ⟨⟨s2, A2, n2, d2, rfl, hf2, Y2⟩, hk2⟩
   have hKeep := since_step hHeld hk2
   have L2 := Y2.l64_RInt HI2.out
   have hG0 := G.1
   have G := G.below hk2
   have Y1 := Y1.below hk2
   go_wp2_with fail
   refine hK.out _ _ (by (try dsimp only); exact hKeep) (fun hHeld => ?_); clear hK K hKeep; try simp only [pqZ]
   refine rdZ 5 25 rfl (by kernel_rfl) (fun K hK => ?_)
   go_simp
   refine (badd' (by omega) (by omega) Y1 Y2).mono ?_
   rintro e x3 ⟨⟨s9, A9, m9, k9, rfl, hf9, Y9⟩, hk3⟩
   have hKeep := since_step hHeld hk3
   have L9 := len_add Y1 Y2 Y9
   have hG0 := G.1
   have G := G.below hk3
   clear Y1 Y2
   go_wp2_with fail
   refine hK.out _ _ (by (try dsimp only); exact hKeep) (fun hHeld => ?_); clear hK K hKeep; try simp only [pqZ]
   refine wpAnyH_ready (rs := [7]) (by kernel_rfl) (by simp) ?_
   refine AllReadyH.cons (o := ⟨none, _, _, _, _, _⟩) rfl (fun K hK => ?_) AllReadyH.nil
   have hHd := hHeld
   obtain ⟨q0, q1, q2⟩ := (HV.out _ hHd).got; simp only at q0 q1 q2
   have G9 := G.set2 s9 A9 m9 k9
   have Y9f := (Y9.far (p := ⟨V.heap.size, 0, none⟩) (fun b o hA hn => by have h8 := hf9 b o hA hn; show b ≠ V.heap.size; simp only [World.size_alloc, World.size_drew] at *; omega) (.bool s9)).far (p := ⟨V.heap.size, 1, none⟩) (fun b o hA hn => by have h8 := hf9 b o hA hn; show b ≠ V.heap.size; simp only [World.size_alloc, World.size_drew] at *; omega) (.slice A9 m9 k9)
   obtain ⟨g0, g1, g2, g3, g4⟩ := id G
   have hKeep := Below.setCell (Below.setCell hHeld (p := ⟨V.heap.size, 0, none⟩) hgs (.bool s9)) (p := ⟨V.heap.size, 1, none⟩) hgs (.slice A9 m9 k9)
   skip
   go_simp
   refine hK.out _ _ (by (try dsimp only); exact hKeep) (fun hHeld => ?_); clear hK K hKeep; try simp only [pqZ]
   refine wpAnyH_done (by kernel_rfl) ?_ _
   clear hHp
   generalize hFW : ((x3.setCell ⟨V.heap.size, 0, none⟩ (.bool s9)).setCell ⟨V.heap.size, 1, none⟩ (.slice A9 m9 k9)) = FW at *
   have hBf := hB3.trans (hHeld.mono hB3.size)
   have hVf := HV.out _ hHeld
   have fzf := (hHeld.frozen (p := ⟨w.heap.size, 2, none⟩) HLQ.out).trans HFZ.out
   obtain ⟨g0, g1, g2, g3, g4⟩ := id G9
   go_wp2_with fail
   refine (bfits_any _ _ _ _ _ _ (by omega) Y9f).mono ?_
   rw [HFT.out]
   rintro e x4 ⟨rfl, hk4⟩
   have hB4 := since_step hBf hk4
   have Y9f := Y9f.below hk4
   have G9 := G9.below hk4
   have lqf := hVf.lt
   have fz4 := (hk4.frozen (p := ⟨w.heap.size, 2, none⟩) lqf).trans fzf
   have hV4 := hVf.below hk4
   clear hk4 g0 g1 g2 g3 g4 hVf fzf lqf
   obtain ⟨g0, g1, g2, g3, g4⟩ := id G9
   obtain ⟨q0, q1, q2⟩ := hV4.got
   simp only at q0 q1 q2
   have lq4 := hV4.lt
   go_wp2_with fail
   go_ret2
   rw [HR.out]
   exact ⟨LRes.nil _ _ _, hB4⟩
 ·have HR : Hid (putLR l x = (25, [])) := Lib.hid (by rw [putLR, if_neg (by rw [hc]; decide), if_neg (fun h => h h1.1), if_pos h1.2])
  have HI := Lib.hid hi
  have HO := Lib.hid ho
  have HOH := Lib.hid (fun W => bof_any (getL l x.ast x.tag) W hh64)
  have HOQ := Lib.hid (fun W => bof_any x.qty W hx)
  have HI1 := Lib.hid hh64
  have HI2 := Lib.hid hx
  have HFT : Hid (decide (inN (getL l x.ast x.tag + x.qty) 63) = true) := Lib.hid (decide_eq_true ((in64_iff _).2 h1.1))
  have HI3 := Lib.hid h1.1
  have hgq : (getL l x.ast x.tag == 0) = true := by rw [h1.2.1]; rfl
  have hlq : ((l.length : Int) == 16) = true := by have := h1.2.2; simp; omega
  obtain ⟨hs0, hgg⟩ : ∃ v, getL l x.ast x.tag = v := ⟨_, rfl⟩
  rw [hgg] at HOH HI1 HFT hgq HI3
  have HH := Lib.hid hgg
  clear hgg hc hi ho hq hpos hnn hh64 hx h1
  obtain ⟨xa, xt, xq⟩ := x
  unfold Lt.val at *
  unfold Lt.cells at hB0 hV0
  simp only at *
  go_enter Tryz.func30, Tryz.ntmps30
  go_upto_region 1 with fail
  have fz0 : (w.alloc (.cells #[.int .i64 xa, .int .i64 xt, .int .i64 xq] 33)).frozen? ⟨w.heap.size, 2, none⟩ = false := by simp
  generalize hWW : w.alloc (.cells #[.int .i64 xa, .int .i64 xt, .int .i64 xq] 33) = w0 at *
  clear hWW
  obtain ⟨q0, q1, q2⟩ := hV0.got
  simp only at q0 q1 q2
  have lq := hV0.lt
  go_wp2_with fail
  refine (HIS.out _ (HS.out _ hB0)).mono ?_
  rw [HI.out]
  rintro e w1 ⟨rfl, hb⟩
  have hB1 := since_step hB0 hb
  have hV1 := hV0.below hb
  have fz1 := (hb.frozen (p := ⟨w.heap.size, 2, none⟩) lq).trans fz0
  clear hb q0 q1 q2 lq hV0 fz0
  obtain ⟨q0, q1, q2⟩ := hV1.got
  simp only at q0 q1 q2
  have lq := hV1.lt
  go_wp2_with fail
  refine (HON.out _).mono ?_
  rw [HO.out]
  rintro e w2 ⟨rfl, hb⟩
  have hB2 := since_step hB1 hb
  have hV2 := hV1.below hb
  have fz2 := (hb.frozen (p := ⟨w.heap.size, 2, none⟩) lq).trans fz1
  clear hb q0 q1 q2 lq hV1 fz1
  obtain ⟨q0, q1, q2⟩ := hV2.got
  simp only at q0 q1 q2
  have lq := hV2.lt
  go_wp2_with fail
  refine (HG.out _ (HS.out _ hB2)).mono ?_
  rw [HH.out]
  rintro e w3 ⟨rfl, hb⟩
  have hB3 := since_step hB2 hb
  have hV3 := hV2.below hb
  have fz3 := (hb.frozen (p := ⟨w.heap.size, 2, none⟩) lq).trans fz2
  clear hb q0 q1 q2 lq hV2 fz2
  have HV : Hid (∀ V, Below w3.heap.size w3 V → Lt.Bx V w.heap.size ⟨xa, xt, xq⟩) := Lib.hid fun V hV => hV3.below hV
  have HFZ := Lib.hid fz3
  have HLQ := Lib.hid hV3.lt
  clear fz3
  obtain ⟨q0, q1, q2⟩ := hV3.got
  simp only at q0 q1 q2
  have lq := hV3.lt
  go_wp2_with fail
  clear q0 q1 q2 lq hV3
  generalize w3 = V at *
  refine wp_region_held_drew (S := (fun V' => Below V.heap.size V V')) (by kernel_rfl) (by exact (Below.refl _ _).drew) (fun hHeld => ?_)
  refine tkI 0 20 rfl (by intro w hSw; obtain ⟨q0, q1, q2⟩ := (HV.out _ hSw).got; simp only at q0 q1 q2; go_simp <;> with_reducible rfl) hHeld ?_; simp only [pqZ]
  refine tkI 2 22 rfl (by intro w hSw; obtain ⟨q0, q1, q2⟩ := (HV.out _ hSw).got; simp only at q0 q1 q2; go_simp <;> with_reducible rfl) hHeld ?_; simp only [pqZ]
  refine tkI 3 23 rfl (by intro w hSw; obtain ⟨q0, q1, q2⟩ := (HV.out _ hSw).got; simp only at q0 q1 q2; go_simp <;> with_reducible rfl) hHeld ?_; simp only [pqZ]
  refine wpAnyH_ready (rs := [1, 6]) (by kernel_rfl) (by simp) ?_
  refine AllReadyH.cons (o := ⟨some 21, _, _, _, _, _⟩) rfl (fun K hK => ?_) (AllReadyH.cons (o := ⟨some 7, _, _, _, _, _⟩) rfl (fun K hK => ?_) AllReadyH.nil)
  ·go_simp
   refine (HOH.out _).mono ?_
   rintro e x1 ⟨⟨s1, A1, n1, d1, rfl, hf1, Y1⟩, hk1⟩
   have hKeep := since_step hHeld hk1
   have L1 := Y1.l64_RInt HI1.out
   go_wp2_with fail
   refine hK.out _ _ (by (try dsimp only); exact hKeep) (fun hHeld => ?_); clear hK K hKeep; try simp only [pqZ]
   refine wpAnyH_ready (rs := [4, 6]) (by kernel_rfl) (by simp) ?_
   refine AllReadyH.cons (o := ⟨some 24, _, _, _, _, _⟩) rfl (fun K hK => ?_) (AllReadyH.cons (o := ⟨some 7, _, _, _, _, _⟩) rfl (fun K hK => ?_) AllReadyH.nil)
   ·go_simp
    refine (HOQ.out _).mono ?_
    rintro e x2 ⟨⟨s2, A2, n2, d2, rfl, hf2, Y2⟩, hk2⟩
    have hKeep := since_step hHeld hk2
    have L2 := Y2.l64_RInt HI2.out
    have Y1 := Y1.below hk2
    go_wp2_with fail
    refine hK.out _ _ (by (try dsimp only); exact hKeep) (fun hHeld => ?_); clear hK K hKeep; try simp only [pqZ]
    refine wpAnyH_ready (rs := [5, 6]) (by kernel_rfl) (by simp) ?_
    refine AllReadyH.cons (o := ⟨some 25, _, _, _, _, _⟩) rfl (fun K hK => ?_) (AllReadyH.cons (o := ⟨some 7, _, _, _, _, _⟩) rfl (fun K hK => ?_) AllReadyH.nil)
    ·go_simp
     refine (badd' (by omega) (by omega) Y1 Y2).mono ?_
     rintro e x3 ⟨⟨s9, A9, m9, k9, rfl, hf9, Y9⟩, hk3⟩
     have hKeep := since_step hHeld hk3
     have L9 := len_add Y1 Y2 Y9
     clear Y1 Y2
     go_wp2_with fail
     refine hK.out _ _ (by (try dsimp only); exact hKeep) (fun hHeld => ?_); clear hK K hKeep; try simp only [pqZ]
     refine rdZ 6 7 rfl (by kernel_rfl) (fun K hK => ?_)
     have hHd := hHeld
     obtain ⟨q0, q1, q2⟩ := (HV.out _ hHd).got; simp only at q0 q1 q2
     have hHp := hHeld
     have G := BB.new x3 false none 0 0 82
     have hgs : V.heap.size ≤ x3.heap.size := by have h := hHeld.size; (try simp only [World.size_alloc, World.size_drew] at h ⊢); omega
     have hKeep := since_alloc hHeld (.cells #[.bool false, .slice none 0 0] 82)
     have Y9f := Y9.alloc (.cells #[.bool s9, .slice A9 m9 k9] 82)
     have Y9 := Y9.alloc (.cells #[.bool false, .slice none 0 0] 82)
     go_simp
     refine hK.out _ _ (by (try dsimp only); exact hKeep) (fun hHeld => ?_); clear hK K hKeep; try simp only [pqZ]
     refine wpAnyH_ready (rs := [7]) (by kernel_rfl) (by simp) ?_
     refine AllReadyH.cons (o := ⟨none, _, _, _, _, _⟩) rfl (fun K hK => ?_) AllReadyH.nil
     have hHd := hHeld
     obtain ⟨q0, q1, q2⟩ := (HV.out _ hHd).got; simp only at q0 q1 q2
     have G9 := BB.new x3 s9 A9 m9 k9 82
     obtain ⟨g0, g1, g2, g3, g4⟩ := id G
     have hKeep := since_alloc hHp (.cells #[.bool s9, .slice A9 m9 k9] 82)
     skip
     go_simp
     refine hK.out _ _ (by (try dsimp only); exact hKeep) (fun hHeld => ?_); clear hK K hKeep; try simp only [pqZ]
     refine wpAnyH_done (by kernel_rfl) ?_ _
     clear hHp
     generalize hFW : (x3.alloc (.cells #[.bool s9, .slice A9 m9 k9] 82)) = FW at *
     have hBf := hB3.trans (hHeld.mono hB3.size)
     have hVf := HV.out _ hHeld
     have fzf := (hHeld.frozen (p := ⟨w.heap.size, 2, none⟩) HLQ.out).trans HFZ.out
     obtain ⟨g0, g1, g2, g3, g4⟩ := id G9
     go_wp2_with fail
     refine (bfits_any _ _ _ _ _ _ (by omega) Y9f).mono ?_
     rw [HFT.out]
     rintro e x4 ⟨rfl, hk4⟩
     have hB4 := since_step hBf hk4
     have Y9f := Y9f.below hk4
     have G9 := G9.below hk4
     have lqf := hVf.lt
     have fz4 := (hk4.frozen (p := ⟨w.heap.size, 2, none⟩) lqf).trans fzf
     have hV4 := hVf.below hk4
     clear hk4 g0 g1 g2 g3 g4 hVf fzf lqf
     obtain ⟨g0, g1, g2, g3, g4⟩ := id G9
     obtain ⟨q0, q1, q2⟩ := hV4.got
     simp only at q0 q1 q2
     have lq4 := hV4.lt
     go_wp2_with fail
     go_ret2
     rw [HR.out]
     exact ⟨LRes.nil _ _ _, hB4⟩
    ·have hHd := hHeld
     obtain ⟨q0, q1, q2⟩ := (HV.out _ hHd).got; simp only at q0 q1 q2
     have hHp := hHeld
     have G := BB.new x2 false none 0 0 82
     have hgs : V.heap.size ≤ x2.heap.size := by have h := hHeld.size; (try simp only [World.size_alloc, World.size_drew] at h ⊢); omega
     have hKeep := since_alloc hHeld (.cells #[.bool false, .slice none 0 0] 82)
     have Y1 := Y1.alloc (.cells #[.bool false, .slice none 0 0] 82)
     have Y2 := Y2.alloc (.cells #[.bool false, .slice none 0 0] 82)
     go_simp
     refine hK.out _ _ (by (try dsimp only); exact hKeep) (fun hHeld => ?_); clear hK K hKeep; try simp only [pqZ]
     refine rdZ 5 25 rfl (by kernel_rfl) (fun K hK => ?_)
     go_simp
     refine (badd' (by omega) (by omega) Y1 Y2).mono ?_
     rintro e x3 ⟨⟨s9, A9, m9, k9, rfl, hf9, Y9⟩, hk3⟩
     have hKeep := since_step hHeld hk3
     have L9 := len_add Y1 Y2 Y9
     have hG0 := G.1
     have G := G.below hk3
     clear Y1 Y2
     go_wp2_with fail
     refine hK.out _ _ (by (try dsimp only); exact hKeep) (fun hHeld => ?_); clear hK K hKeep; try simp only [pqZ]
     refine wpAnyH_ready (rs := [7]) (by kernel_rfl) (by simp) ?_
     refine AllReadyH.cons (o := ⟨none, _, _, _, _, _⟩) rfl (fun K hK => ?_) AllReadyH.nil
     have hHd := hHeld
     obtain ⟨q0, q1, q2⟩ := (HV.out _ hHd).got; simp only at q0 q1 q2
     have G9 := G.set2 s9 A9 m9 k9
     have Y9f := (Y9.far (p := ⟨x2.heap.size, 0, none⟩) (fun b o hA hn => by have h8 := hf9 b o hA hn; show b ≠ x2.heap.size; simp only [World.size_alloc, World.size_drew] at *; omega) (.bool s9)).far (p := ⟨x2.heap.size, 1, none⟩) (fun b o hA hn => by have h8 := hf9 b o hA hn; show b ≠ x2.heap.size; simp only [World.size_alloc, World.size_drew] at *; omega) (.slice A9 m9 k9)
     obtain ⟨g0, g1, g2, g3, g4⟩ := id G
     have hKeep := Below.setCell (Below.setCell hHeld (p := ⟨x2.heap.size, 0, none⟩) hgs (.bool s9)) (p := ⟨x2.heap.size, 1, none⟩) hgs (.slice A9 m9 k9)
     skip
     go_simp
     refine hK.out _ _ (by (try dsimp only); exact hKeep) (fun hHeld => ?_); clear hK K hKeep; try simp only [pqZ]
     refine wpAnyH_done (by kernel_rfl) ?_ _
     clear hHp
     generalize hFW : ((x3.setCell ⟨x2.heap.size, 0, none⟩ (.bool s9)).setCell ⟨x2.heap.size, 1, none⟩ (.slice A9 m9 k9)) = FW at *
     have hBf := hB3.trans (hHeld.mono hB3.size)
     have hVf := HV.out _ hHeld
     have fzf := (hHeld.frozen (p := ⟨w.heap.size, 2, none⟩) HLQ.out).trans HFZ.out
     obtain ⟨g0, g1, g2, g3, g4⟩ := id G9
     go_wp2_with fail
     refine (bfits_any _ _ _ _ _ _ (by omega) Y9f).mono ?_
     rw [HFT.out]
     rintro e x4 ⟨rfl, hk4⟩
     have hB4 := since_step hBf hk4
     have Y9f := Y9f.below hk4
     have G9 := G9.below hk4
     have lqf := hVf.lt
     have fz4 := (hk4.frozen (p := ⟨w.heap.size, 2, none⟩) lqf).trans fzf
     have hV4 := hVf.below hk4
     clear hk4 g0 g1 g2 g3 g4 hVf fzf lqf
     obtain ⟨g0, g1, g2, g3, g4⟩ := id G9
     obtain ⟨q0, q1, q2⟩ := hV4.got
     simp only at q0 q1 q2
     have lq4 := hV4.lt
     go_wp2_with fail
     go_ret2
     rw [HR.out]
     exact ⟨LRes.nil _ _ _, hB4⟩
   ·have hHd := hHeld
    obtain ⟨q0, q1, q2⟩ := (HV.out _ hHd).got; simp only at q0 q1 q2
    have hHp := hHeld
    have G := BB.new x1 false none 0 0 82
    have hgs : V.heap.size ≤ x1.heap.size := by have h := hHeld.size; (try simp only [World.size_alloc, World.size_drew] at h ⊢); omega
    have hKeep := since_alloc hHeld (.cells #[.bool false, .slice none 0 0] 82)
    have Y1 := Y1.alloc (.cells #[.bool false, .slice none 0 0] 82)
    go_simp
    refine hK.out _ _ (by (try dsimp only); exact hKeep) (fun hHeld => ?_); clear hK K hKeep; try simp only [pqZ]
    refine rdZ 4 24 rfl (by kernel_rfl) (fun K hK => ?_)
    go_simp
    refine (HOQ.out _).mono ?_
    rintro e x2 ⟨⟨s2, A2, n2, d2, rfl, hf2, Y2⟩, hk2⟩
    have hKeep := since_step hHeld hk2
    have L2 := Y2.l64_RInt HI2.out
    have hG0 := G.1
    have G := G.below hk2
    have Y1 := Y1.below hk2
    go_wp2_with fail
    refine hK.out _ _ (by (try dsimp only); exact hKeep) (fun hHeld => ?_); clear hK K hKeep; try simp only [pqZ]
    refine rdZ 5 25 rfl (by kernel_rfl) (fun K hK => ?_)
    go_simp
    refine (badd' (by omega) (by omega) Y1 Y2).mono ?_
    rintro e x3 ⟨⟨s9, A9, m9, k9, rfl, hf9, Y9⟩, hk3⟩
    have hKeep := since_step hHeld hk3
    have L9 := len_add Y1 Y2 Y9
    have hG0 := G.1
    have G := G.below hk3
    clear Y1 Y2
    go_wp2_with fail
    refine hK.out _ _ (by (try dsimp only); exact hKeep) (fun hHeld => ?_); clear hK K hKeep; try simp only [pqZ]
    refine wpAnyH_ready (rs := [7]) (by kernel_rfl) (by simp) ?_
    refine AllReadyH.cons (o := ⟨none, _, _, _, _, _⟩) rfl (fun K hK => ?_) AllReadyH.nil
    have hHd := hHeld
    obtain ⟨q0, q1, q2⟩ := (HV.out _ hHd).got; simp only at q0 q1 q2
    have G9 := G.set2 s9 A9 m9 k9
    have Y9f := (Y9.far (p := ⟨x1.heap.size, 0, none⟩) (fun b o hA hn => by have h8 := hf9 b o hA hn; show b ≠ x1.heap.size; simp only [World.size_alloc, World.size_drew] at *; omega) (.bool s9)).far (p := ⟨x1.heap.size, 1, none⟩) (fun b o hA hn => by have h8 := hf9 b o hA hn; show b ≠ x1.heap.size; simp only [World.size_alloc, World.size_drew] at *; omega) (.slice A9 m9 k9)
    obtain ⟨g0, g1, g2, g3, g4⟩ := id G
    have hKeep := Below.setCell (Below.setCell hHeld (p := ⟨x1.heap.size, 0, none⟩) hgs (.bool s9)) (p := ⟨x1.heap.size, 1, none⟩) hgs (.slice A9 m9 k9)
    skip
    go_simp
    refine hK.out _ _ (by (try dsimp only); exact hKeep) (fun hHeld => ?_); clear hK K hKeep; try simp only [pqZ]
    refine wpAnyH_done (by kernel_rfl) ?_ _
    clear hHp
    generalize hFW : ((x3.setCell ⟨x1.heap.size, 0, none⟩ (.bool s9)).setCell ⟨x1.heap.size, 1, none⟩ (.slice A9 m9 k9)) = FW at *
    have hBf := hB3.trans (hHeld.mono hB3.size)
    have hVf := HV.out _ hHeld
    have fzf := (hHeld.frozen (p := ⟨w.heap.size, 2, none⟩) HLQ.out).trans HFZ.out
    obtain ⟨g0, g1, g2, g3, g4⟩ := id G9
    go_wp2_with fail
    refine (bfits_any _ _ _ _ _ _ (by omega) Y9f).mono ?_
    rw [HFT.out]
    rintro e x4 ⟨rfl, hk4⟩
    have hB4 := since_step hBf hk4
    have Y9f := Y9f.below hk4
    have G9 := G9.below hk4
    have lqf := hVf.lt
    have fz4 := (hk4.frozen (p := ⟨w.heap.size, 2, none⟩) lqf).trans fzf
    have hV4 := hVf.below hk4
    clear hk4 g0 g1 g2 g3 g4 hVf fzf lqf
    obtain ⟨g0, g1, g2, g3, g4⟩ := id G9
    obtain ⟨q0, q1, q2⟩ := hV4.got
    simp only at q0 q1 q2
    have lq4 := hV4.lt
    go_wp2_with fail
    go_ret2
    rw [HR.out]
    exact ⟨LRes.nil _ _ _, hB4⟩
  ·have hHd := hHeld
   obtain ⟨q0, q1, q2⟩ := (HV.out _ hHd).got; simp only at q0 q1 q2
   have hHp := hHeld
   have G := BB.new V.drew false none 0 0 82
   rw [World.size_drew] at G
   have hgs : V.heap.size ≤ V.heap.size := by have h := hHeld.size; (try simp only [World.size_alloc, World.size_drew] at h ⊢); omega
   have hKeep := since_alloc hHeld (.cells #[.bool false, .slice none 0 0] 82)
   go_simp
   refine hK.out _ _ (by (try dsimp only); exact hKeep) (fun hHeld => ?_); clear hK K hKeep; try simp only [pqZ]
   refine rdZ 1 21 rfl (by kernel_rfl) (fun K hK => ?_)
   go_simp
   refine (HOH.out _).mono ?_
   rintro e x1 ⟨⟨s1, A1, n1, d1, rfl, hf1, Y1⟩, hk1⟩
   have hKeep := since_step hHeld hk1
   have L1 := Y1.l64_RInt HI1.out
   have hG0 := G.1
   have G := G.below hk1
   go_wp2_with fail
   refine hK.out _ _ (by (try dsimp only); exact hKeep) (fun hHeld => ?_); clear hK K hKeep; try simp only [pqZ]
   refine rdZ 4 24 rfl (by kernel_rfl) (fun K hK => ?_)
   go_simp
   refine (HOQ.out _).mono ?_
   rintro e x2 ⟨⟨s2, A2, n2, d2, rfl, hf2, Y2⟩, hk2⟩
   have hKeep := since_step hHeld hk2
   have L2 := Y2.l64_RInt HI2.out
   have hG0 := G.1
   have G := G.below hk2
   have Y1 := Y1.below hk2
   go_wp2_with fail
   refine hK.out _ _ (by (try dsimp only); exact hKeep) (fun hHeld => ?_); clear hK K hKeep; try simp only [pqZ]
   refine rdZ 5 25 rfl (by kernel_rfl) (fun K hK => ?_)
   go_simp
   refine (badd' (by omega) (by omega) Y1 Y2).mono ?_
   rintro e x3 ⟨⟨s9, A9, m9, k9, rfl, hf9, Y9⟩, hk3⟩
   have hKeep := since_step hHeld hk3
   have L9 := len_add Y1 Y2 Y9
   have hG0 := G.1
   have G := G.below hk3
   clear Y1 Y2
   go_wp2_with fail
   refine hK.out _ _ (by (try dsimp only); exact hKeep) (fun hHeld => ?_); clear hK K hKeep; try simp only [pqZ]
   refine wpAnyH_ready (rs := [7]) (by kernel_rfl) (by simp) ?_
   refine AllReadyH.cons (o := ⟨none, _, _, _, _, _⟩) rfl (fun K hK => ?_) AllReadyH.nil
   have hHd := hHeld
   obtain ⟨q0, q1, q2⟩ := (HV.out _ hHd).got; simp only at q0 q1 q2
   have G9 := G.set2 s9 A9 m9 k9
   have Y9f := (Y9.far (p := ⟨V.heap.size, 0, none⟩) (fun b o hA hn => by have h8 := hf9 b o hA hn; show b ≠ V.heap.size; simp only [World.size_alloc, World.size_drew] at *; omega) (.bool s9)).far (p := ⟨V.heap.size, 1, none⟩) (fun b o hA hn => by have h8 := hf9 b o hA hn; show b ≠ V.heap.size; simp only [World.size_alloc, World.size_drew] at *; omega) (.slice A9 m9 k9)
   obtain ⟨g0, g1, g2, g3, g4⟩ := id G
   have hKeep := Below.setCell (Below.setCell hHeld (p := ⟨V.heap.size, 0, none⟩) hgs (.bool s9)) (p := ⟨V.heap.size, 1, none⟩) hgs (.slice A9 m9 k9)
   skip
   go_simp
   refine hK.out _ _ (by (try dsimp only); exact hKeep) (fun hHeld => ?_); clear hK K hKeep; try simp only [pqZ]
   refine wpAnyH_done (by kernel_rfl) ?_ _
   clear hHp
   generalize hFW : ((x3.setCell ⟨V.heap.size, 0, none⟩ (.bool s9)).setCell ⟨V.heap.size, 1, none⟩ (.slice A9 m9 k9)) = FW at *
   have hBf := hB3.trans (hHeld.mono hB3.size)
   have hVf := HV.out _ hHeld
   have fzf := (hHeld.frozen (p := ⟨w.heap.size, 2, none⟩) HLQ.out).trans HFZ.out
   obtain ⟨g0, g1, g2, g3, g4⟩ := id G9
   go_wp2_with fail
   refine (bfits_any _ _ _ _ _ _ (by omega) Y9f).mono ?_
   rw [HFT.out]
   rintro e x4 ⟨rfl, hk4⟩
   have hB4 := since_step hBf hk4
   have Y9f := Y9f.below hk4
   have G9 := G9.below hk4
   have lqf := hVf.lt
   have fz4 := (hk4.frozen (p := ⟨w.heap.size, 2, none⟩) lqf).trans fzf
   have hV4 := hVf.below hk4
   clear hk4 g0 g1 g2 g3 g4 hVf fzf lqf
   obtain ⟨g0, g1, g2, g3, g4⟩ := id G9
   obtain ⟨q0, q1, q2⟩ := hV4.got
   simp only at q0 q1 q2
   have lq4 := hV4.lt
   go_wp2_with fail
   go_ret2
   rw [HR.out]
   exact ⟨LRes.nil _ _ _, hB4⟩
 ·have HR : Hid (putLR l x = (0, putR ahL l ⟨x.ast, x.tag, getL l x.ast x.tag + x.qty⟩)) := Lib.hid (by rw [putLR, if_neg (by rw [hc]; decide), if_neg (fun h => h h1.1), if_neg (fun h => h1.2.2 h.2)])
  have HI := Lib.hid hi
  have HO := Lib.hid ho
  have HOH := Lib.hid (fun W => bof_any (getL l x.ast x.tag) W hh64)
  have HOQ := Lib.hid (fun W => bof_any x.qty W hx)
  have HI1 := Lib.hid hh64
  have HI2 := Lib.hid hx
  have HFT : Hid (decide (inN (getL l x.ast x.tag + x.qty) 63) = true) := Lib.hid (decide_eq_true ((in64_iff _).2 h1.1))
  have HI3 := Lib.hid h1.1
  have hgq : (getL l x.ast x.tag == 0) = true := by rw [h1.2.1]; rfl
  have hlq : ((l.length : Int) == 16) = false := by have := h1.2.2; simp; omega
  have HE : Hid (setF ⟨x.ast, x.tag, getL l x.ast x.tag + x.qty⟩ (getL l x.ast x.tag + x.qty == 0) l = putR ahL l ⟨x.ast, x.tag, getL l x.ast x.tag + x.qty⟩) := Lib.hid (setF_put hi (by show getL l x.ast x.tag + x.qty ≠ 0; omega))
  obtain ⟨hs0, hgg⟩ : ∃ v, getL l x.ast x.tag = v := ⟨_, rfl⟩
  rw [hgg] at HOH HI1 HFT hgq HI3 HE HR
  have HH := Lib.hid hgg
  clear hgg hc hi ho hq hpos hnn hh64 hx h1
  obtain ⟨xa, xt, xq⟩ := x
  unfold Lt.val at *
  unfold Lt.cells at hB0 hV0
  simp only at *
  go_enter Tryz.func30, Tryz.ntmps30
  go_upto_region 1 with fail
  have fz0 : (w.alloc (.cells #[.int .i64 xa, .int .i64 xt, .int .i64 xq] 33)).frozen? ⟨w.heap.size, 2, none⟩ = false := by simp
  generalize hWW : w.alloc (.cells #[.int .i64 xa, .int .i64 xt, .int .i64 xq] 33) = w0 at *
  clear hWW
  obtain ⟨q0, q1, q2⟩ := hV0.got
  simp only at q0 q1 q2
  have lq := hV0.lt
  go_wp2_with fail
  refine (HIS.out _ (HS.out _ hB0)).mono ?_
  rw [HI.out]
  rintro e w1 ⟨rfl, hb⟩
  have hB1 := since_step hB0 hb
  have hV1 := hV0.below hb
  have fz1 := (hb.frozen (p := ⟨w.heap.size, 2, none⟩) lq).trans fz0
  clear hb q0 q1 q2 lq hV0 fz0
  obtain ⟨q0, q1, q2⟩ := hV1.got
  simp only at q0 q1 q2
  have lq := hV1.lt
  go_wp2_with fail
  refine (HON.out _).mono ?_
  rw [HO.out]
  rintro e w2 ⟨rfl, hb⟩
  have hB2 := since_step hB1 hb
  have hV2 := hV1.below hb
  have fz2 := (hb.frozen (p := ⟨w.heap.size, 2, none⟩) lq).trans fz1
  clear hb q0 q1 q2 lq hV1 fz1
  obtain ⟨q0, q1, q2⟩ := hV2.got
  simp only at q0 q1 q2
  have lq := hV2.lt
  go_wp2_with fail
  refine (HG.out _ (HS.out _ hB2)).mono ?_
  rw [HH.out]
  rintro e w3 ⟨rfl, hb⟩
  have hB3 := since_step hB2 hb
  have hV3 := hV2.below hb
  have fz3 := (hb.frozen (p := ⟨w.heap.size, 2, none⟩) lq).trans fz2
  clear hb q0 q1 q2 lq hV2 fz2
  have HV : Hid (∀ V, Below w3.heap.size w3 V → Lt.Bx V w.heap.size ⟨xa, xt, xq⟩) := Lib.hid fun V hV => hV3.below hV
  have HFZ := Lib.hid fz3
  have HLQ := Lib.hid hV3.lt
  clear fz3
  obtain ⟨q0, q1, q2⟩ := hV3.got
  simp only at q0 q1 q2
  have lq := hV3.lt
  go_wp2_with fail
  clear q0 q1 q2 lq hV3
  generalize w3 = V at *
  refine wp_region_held_drew (S := (fun V' => Below V.heap.size V V')) (by kernel_rfl) (by exact (Below.refl _ _).drew) (fun hHeld => ?_)
  refine tkI 0 20 rfl (by intro w hSw; obtain ⟨q0, q1, q2⟩ := (HV.out _ hSw).got; simp only at q0 q1 q2; go_simp <;> with_reducible rfl) hHeld ?_; simp only [pqZ]
  refine tkI 2 22 rfl (by intro w hSw; obtain ⟨q0, q1, q2⟩ := (HV.out _ hSw).got; simp only at q0 q1 q2; go_simp <;> with_reducible rfl) hHeld ?_; simp only [pqZ]
  refine tkI 3 23 rfl (by intro w hSw; obtain ⟨q0, q1, q2⟩ := (HV.out _ hSw).got; simp only at q0 q1 q2; go_simp <;> with_reducible rfl) hHeld ?_; simp only [pqZ]
  refine wpAnyH_ready (rs := [1, 6]) (by kernel_rfl) (by simp) ?_
  refine AllReadyH.cons (o := ⟨some 21, _, _, _, _, _⟩) rfl (fun K hK => ?_) (AllReadyH.cons (o := ⟨some 7, _, _, _, _, _⟩) rfl (fun K hK => ?_) AllReadyH.nil)
  ·go_simp
   refine (HOH.out _).mono ?_
   rintro e x1 ⟨⟨s1, A1, n1, d1, rfl, hf1, Y1⟩, hk1⟩
   have hKeep := since_step hHeld hk1
   have L1 := Y1.l64_RInt HI1.out
   go_wp2_with fail
   refine hK.out _ _ (by (try dsimp only); exact hKeep) (fun hHeld => ?_); clear hK K hKeep; try simp only [pqZ]
   refine wpAnyH_ready (rs := [4, 6]) (by kernel_rfl) (by simp) ?_
   refine AllReadyH.cons (o := ⟨some 24, _, _, _, _, _⟩) rfl (fun K hK => ?_) (AllReadyH.cons (o := ⟨some 7, _, _, _, _, _⟩) rfl (fun K hK => ?_) AllReadyH.nil)
   ·go_simp
    refine (HOQ.out _).mono ?_
    rintro e x2 ⟨⟨s2, A2, n2, d2, rfl, hf2, Y2⟩, hk2⟩
    have hKeep := since_step hHeld hk2
    have L2 := Y2.l64_RInt HI2.out
    have Y1 := Y1.below hk2
    go_wp2_with fail
    refine hK.out _ _ (by (try dsimp only); exact hKeep) (fun hHeld => ?_); clear hK K hKeep; try simp only [pqZ]
    refine wpAnyH_ready (rs := [5, 6]) (by kernel_rfl) (by simp) ?_
    refine AllReadyH.cons (o := ⟨some 25, _, _, _, _, _⟩) rfl (fun K hK => ?_) (AllReadyH.cons (o := ⟨some 7, _, _, _, _, _⟩) rfl (fun K hK => ?_) AllReadyH.nil)
    ·go_simp
     refine (badd' (by omega) (by omega) Y1 Y2).mono ?_
     rintro e x3 ⟨⟨s9, A9, m9, k9, rfl, hf9, Y9⟩, hk3⟩
     have hKeep := since_step hHeld hk3
     have L9 := len_add Y1 Y2 Y9
     clear Y1 Y2
     go_wp2_with fail
     refine hK.out _ _ (by (try dsimp only); exact hKeep) (fun hHeld => ?_); clear hK K hKeep; try simp only [pqZ]
     refine rdZ 6 7 rfl (by kernel_rfl) (fun K hK => ?_)
     have hHd := hHeld
     obtain ⟨q0, q1, q2⟩ := (HV.out _ hHd).got; simp only at q0 q1 q2
     have hHp := hHeld
     have G := BB.new x3 false none 0 0 82
     have hgs : V.heap.size ≤ x3.heap.size := by have h := hHeld.size; (try simp only [World.size_alloc, World.size_drew] at h ⊢); omega
     have hKeep := since_alloc hHeld (.cells #[.bool false, .slice none 0 0] 82)
     have Y9f := Y9.alloc (.cells #[.bool s9, .slice A9 m9 k9] 82)
     have Y9 := Y9.alloc (.cells #[.bool false, .slice none 0 0] 82)
     go_simp
     refine hK.out _ _ (by (try dsimp only); exact hKeep) (fun hHeld => ?_); clear hK K hKeep; try simp only [pqZ]
     refine wpAnyH_ready (rs := [7]) (by kernel_rfl) (by simp) ?_
     refine AllReadyH.cons (o := ⟨none, _, _, _, _, _⟩) rfl (fun K hK => ?_) AllReadyH.nil
     have hHd := hHeld
     obtain ⟨q0, q1, q2⟩ := (HV.out _ hHd).got; simp only at q0 q1 q2
     have G9 := BB.new x3 s9 A9 m9 k9 82
     obtain ⟨g0, g1, g2, g3, g4⟩ := id G
     have hKeep := since_alloc hHp (.cells #[.bool s9, .slice A9 m9 k9] 82)
     skip
     go_simp
     refine hK.out _ _ (by (try dsimp only); exact hKeep) (fun hHeld => ?_); clear hK K hKeep; try simp only [pqZ]
     refine wpAnyH_done (by kernel_rfl) ?_ _
     clear hHp
     generalize hFW : (x3.alloc (.cells #[.bool s9, .slice A9 m9 k9] 82)) = FW at *
     have hBf := hB3.trans (hHeld.mono hB3.size)
     have hVf := HV.out _ hHeld
     have fzf := (hHeld.frozen (p := ⟨w.heap.size, 2, none⟩) HLQ.out).trans HFZ.out
     obtain ⟨g0, g1, g2, g3, g4⟩ := id G9
     go_wp2_with fail
     refine (bfits_any _ _ _ _ _ _ (by omega) Y9f).mono ?_
     rw [HFT.out]
     rintro e x4 ⟨rfl, hk4⟩
     have hB4 := since_step hBf hk4
     have Y9f := Y9f.below hk4
     have G9 := G9.below hk4
     have lqf := hVf.lt
     have fz4 := (hk4.frozen (p := ⟨w.heap.size, 2, none⟩) lqf).trans fzf
     have hV4 := hVf.below hk4
     clear hk4 g0 g1 g2 g3 g4 hVf fzf lqf
     obtain ⟨g0, g1, g2, g3, g4⟩ := id G9
     obtain ⟨q0, q1, q2⟩ := hV4.got
     simp only at q0 q1 q2
     have lq4 := hV4.lt
     go_wp2_with fail
     refine (rint_any (hs0 + xq) HI3.out _ _ _ _ _ Y9f).mono ?_
     rintro e x5 ⟨rfl, hk5⟩
     have hB5 := since_step hB4 hk5
     have hV5 := hV4.below hk5
     have fz5 := (hk5.frozen (p := ⟨w.heap.size, 2, none⟩) lq4).trans fz4
     clear hk5 q0 q1 q2 g0 g1 g2 g3 g4 hV4 fz4 lq4
     obtain ⟨q0, q1, q2⟩ := hV5.got
     simp only at q0 q1 q2
     have lq5 := hV5.lt
     go_wp2_with fail
     have hBs := Below.setCell hB5 (p := ⟨w.heap.size, 2, none⟩) (Nat.le_refl _) (.int .i64 (hs0 + xq))
     refine (HSET.out _ (hs0 + xq) (HS.out _ hBs)).mono ?_
     rw [HE.out]
     rintro e x6 ⟨⟨A5, c5, rfl, own5⟩, hb⟩
     have hB6 := since_step hBs hb
     have own5 := own_base own5 hBs.size
     go_wp2_with fail
     go_ret2
     rw [HR.out]
     exact ⟨⟨A5, c5, rfl, own5⟩, hB6⟩
    ·have hHd := hHeld
     obtain ⟨q0, q1, q2⟩ := (HV.out _ hHd).got; simp only at q0 q1 q2
     have hHp := hHeld
     have G := BB.new x2 false none 0 0 82
     have hgs : V.heap.size ≤ x2.heap.size := by have h := hHeld.size; (try simp only [World.size_alloc, World.size_drew] at h ⊢); omega
     have hKeep := since_alloc hHeld (.cells #[.bool false, .slice none 0 0] 82)
     have Y1 := Y1.alloc (.cells #[.bool false, .slice none 0 0] 82)
     have Y2 := Y2.alloc (.cells #[.bool false, .slice none 0 0] 82)
     go_simp
     refine hK.out _ _ (by (try dsimp only); exact hKeep) (fun hHeld => ?_); clear hK K hKeep; try simp only [pqZ]
     refine rdZ 5 25 rfl (by kernel_rfl) (fun K hK => ?_)
     go_simp
     refine (badd' (by omega) (by omega) Y1 Y2).mono ?_
     rintro e x3 ⟨⟨s9, A9, m9, k9, rfl, hf9, Y9⟩, hk3⟩
     have hKeep := since_step hHeld hk3
     have L9 := len_add Y1 Y2 Y9
     have hG0 := G.1
     have G := G.below hk3
     clear Y1 Y2
     go_wp2_with fail
     refine hK.out _ _ (by (try dsimp only); exact hKeep) (fun hHeld => ?_); clear hK K hKeep; try simp only [pqZ]
     refine wpAnyH_ready (rs := [7]) (by kernel_rfl) (by simp) ?_
     refine AllReadyH.cons (o := ⟨none, _, _, _, _, _⟩) rfl (fun K hK => ?_) AllReadyH.nil
     have hHd := hHeld
     obtain ⟨q0, q1, q2⟩ := (HV.out _ hHd).got; simp only at q0 q1 q2
     have G9 := G.set2 s9 A9 m9 k9
     have Y9f := (Y9.far (p := ⟨x2.heap.size, 0, none⟩) (fun b o hA hn => by have h8 := hf9 b o hA hn; show b ≠ x2.heap.size; simp only [World.size_alloc, World.size_drew] at *; omega) (.bool s9)).far (p := ⟨x2.heap.size, 1, none⟩) (fun b o hA hn => by have h8 := hf9 b o hA hn; show b ≠ x2.heap.size; simp only [World.size_alloc, World.size_drew] at *; omega) (.slice A9 m9 k9)
     obtain ⟨g0, g1, g2, g3, g4⟩ := id G
     have hKeep := Below.setCell (Below.setCell hHeld (p := ⟨x2.heap.size, 0, none⟩) hgs (.bool s9)) (p := ⟨x2.heap.size, 1, none⟩) hgs (.slice A9 m9 k9)
     skip
     go_simp
     refine hK.out _ _ (by (try dsimp only); exact hKeep) (fun hHeld => ?_); clear hK K hKeep; try simp only [pqZ]
     refine wpAnyH_done (by kernel_rfl) ?_ _
     clear hHp
     generalize hFW : ((x3.setCell ⟨x2.heap.size, 0, none⟩ (.bool s9)).setCell ⟨x2.heap.size, 1, none⟩ (.slice A9 m9 k9)) = FW at *
     have hBf := hB3.trans (hHeld.mono hB3.size)
     have hVf := HV.out _ hHeld
     have fzf := (hHeld.frozen (p := ⟨w.heap.size, 2, none⟩) HLQ.out).trans HFZ.out
     obtain ⟨g0, g1, g2, g3, g4⟩ := id G9
     go_wp2_with fail
     refine (bfits_any _ _ _ _ _ _ (by omega) Y9f).mono ?_
     rw [HFT.out]
     rintro e x4 ⟨rfl, hk4⟩
     have hB4 := since_step hBf hk4
     have Y9f := Y9f.below hk4
     have G9 := G9.below hk4
     have lqf := hVf.lt
     have fz4 := (hk4.frozen (p := ⟨w.heap.size, 2, none⟩) lqf).trans fzf
     have hV4 := hVf.below hk4
     clear hk4 g0 g1 g2 g3 g4 hVf fzf lqf
     obtain ⟨g0, g1, g2, g3, g4⟩ := id G9
     obtain ⟨q0, q1, q2⟩ := hV4.got
     simp only at q0 q1 q2
     have lq4 := hV4.lt
     go_wp2_with fail
     refine (rint_any (hs0 + xq) HI3.out _ _ _ _ _ Y9f).mono ?_
     rintro e x5 ⟨rfl, hk5⟩
     have hB5 := since_step hB4 hk5
     have hV5 := hV4.below hk5
     have fz5 := (hk5.frozen (p := ⟨w.heap.size, 2, none⟩) lq4).trans fz4
     clear hk5 q0 q1 q2 g0 g1 g2 g3 g4 hV4 fz4 lq4
     obtain ⟨q0, q1, q2⟩ := hV5.got
     simp only at q0 q1 q2
     have lq5 := hV5.lt
     go_wp2_with fail
     have hBs := Below.setCell hB5 (p := ⟨w.heap.size, 2, none⟩) (Nat.le_refl _) (.int .i64 (hs0 + xq))
     refine (HSET.out _ (hs0 + xq) (HS.out _ hBs)).mono ?_
     rw [HE.out]
     rintro e x6 ⟨⟨A5, c5, rfl, own5⟩, hb⟩
     have hB6 := since_step hBs hb
     have own5 := own_base own5 hBs.size
     go_wp2_with fail
     go_ret2
     rw [HR.out]
     exact ⟨⟨A5, c5, rfl, own5⟩, hB6⟩
   ·have hHd := hHeld
    obtain ⟨q0, q1, q2⟩ := (HV.out _ hHd).got; simp only at q0 q1 q2
    have hHp := hHeld
    have G := BB.new x1 false none 0 0 82
    have hgs : V.heap.size ≤ x1.heap.size := by have h := hHeld.size; (try simp only [World.size_alloc, World.size_drew] at h ⊢); omega
    have hKeep := since_alloc hHeld (.cells #[.bool false, .slice none 0 0] 82)
    have Y1 := Y1.alloc (.cells #[.bool false, .slice none 0 0] 82)
    go_simp
    refine hK.out _ _ (by (try dsimp only); exact hKeep) (fun hHeld => ?_); clear hK K hKeep; try simp only [pqZ]
    refine rdZ 4 24 rfl (by kernel_rfl) (fun K hK => ?_)
    go_simp
    refine (HOQ.out _).mono ?_
    rintro e x2 ⟨⟨s2, A2, n2, d2, rfl, hf2, Y2⟩, hk2⟩
    have hKeep := since_step hHeld hk2
    have L2 := Y2.l64_RInt HI2.out
    have hG0 := G.1
    have G := G.below hk2
    have Y1 := Y1.below hk2
    go_wp2_with fail
    refine hK.out _ _ (by (try dsimp only); exact hKeep) (fun hHeld => ?_); clear hK K hKeep; try simp only [pqZ]
    refine rdZ 5 25 rfl (by kernel_rfl) (fun K hK => ?_)
    go_simp
    refine (badd' (by omega) (by omega) Y1 Y2).mono ?_
    rintro e x3 ⟨⟨s9, A9, m9, k9, rfl, hf9, Y9⟩, hk3⟩
    have hKeep := since_step hHeld hk3
    have L9 := len_add Y1 Y2 Y9
    have hG0 := G.1
    have G := G.below hk3
    clear Y1 Y2
    go_wp2_with fail
    refine hK.out _ _ (by (try dsimp only); exact hKeep) (fun hHeld => ?_); clear hK K hKeep; try simp only [pqZ]
    refine wpAnyH_ready (rs := [7]) (by kernel_rfl) (by simp) ?_
    refine AllReadyH.cons (o := ⟨none, _, _, _, _, _⟩) rfl (fun K hK => ?_) AllReadyH.nil
    have hHd := hHeld
    obtain ⟨q0, q1, q2⟩ := (HV.out _ hHd).got; simp only at q0 q1 q2
    have G9 := G.set2 s9 A9 m9 k9
    have Y9f := (Y9.far (p := ⟨x1.heap.size, 0, none⟩) (fun b o hA hn => by have h8 := hf9 b o hA hn; show b ≠ x1.heap.size; simp only [World.size_alloc, World.size_drew] at *; omega) (.bool s9)).far (p := ⟨x1.heap.size, 1, none⟩) (fun b o hA hn => by have h8 := hf9 b o hA hn; show b ≠ x1.heap.size; simp only [World.size_alloc, World.size_drew] at *; omega) (.slice A9 m9 k9)
    obtain ⟨g0, g1, g2, g3, g4⟩ := id G
    have hKeep := Below.setCell (Below.setCell hHeld (p := ⟨x1.heap.size, 0, none⟩) hgs (.bool s9)) (p := ⟨x1.heap.size, 1, none⟩) hgs (.slice A9 m9 k9)
    skip
    go_simp
    refine hK.out _ _ (by (try dsimp only); exact hKeep) (fun hHeld => ?_); clear hK K hKeep; try simp only [pqZ]
    refine wpAnyH_done (by kernel_rfl) ?_ _
    clear hHp
    generalize hFW : ((x3.setCell ⟨x1.heap.size, 0, none⟩ (.bool s9)).setCell ⟨x1.heap.size, 1, none⟩ (.slice A9 m9 k9)) = FW at *
    have hBf := hB3.trans (hHeld.mono hB3.size)
    have hVf := HV.out _ hHeld
    have fzf := (hHeld.frozen (p := ⟨w.heap.size, 2, none⟩) HLQ.out).trans HFZ.out
    obtain ⟨g0, g1, g2, g3, g4⟩ := id G9
    go_wp2_with fail
    refine (bfits_any _ _ _ _ _ _ (by omega) Y9f).mono ?_
    rw [HFT.out]
    rintro e x4 ⟨rfl, hk4⟩
    have hB4 := since_step hBf hk4
    have Y9f := Y9f.below hk4
    have G9 := G9.below hk4
    have lqf := hVf.lt
    have fz4 := (hk4.frozen (p := ⟨w.heap.size, 2, none⟩) lqf).trans fzf
    have hV4 := hVf.below hk4
    clear hk4 g0 g1 g2 g3 g4 hVf fzf lqf
    obtain ⟨g0, g1, g2, g3, g4⟩ := id G9
    obtain ⟨q0, q1, q2⟩ := hV4.got
    simp only at q0 q1 q2
    have lq4 := hV4.lt
    go_wp2_with fail
    refine (rint_any (hs0 + xq) HI3.out _ _ _ _ _ Y9f).mono ?_
    rintro e x5 ⟨rfl, hk5⟩
    have hB5 := since_step hB4 hk5
    have hV5 := hV4.below hk5
    have fz5 := (hk5.frozen (p := ⟨w.heap.size, 2, none⟩) lq4).trans fz4
    clear hk5 q0 q1 q2 g0 g1 g2 g3 g4 hV4 fz4 lq4
    obtain ⟨q0, q1, q2⟩ := hV5.got
    simp only at q0 q1 q2
    have lq5 := hV5.lt
    go_wp2_with fail
    have hBs := Below.setCell hB5 (p := ⟨w.heap.size, 2, none⟩) (Nat.le_refl _) (.int .i64 (hs0 + xq))
    refine (HSET.out _ (hs0 + xq) (HS.out _ hBs)).mono ?_
    rw [HE.out]
    rintro e x6 ⟨⟨A5, c5, rfl, own5⟩, hb⟩
    have hB6 := since_step hBs hb
    have own5 := own_base own5 hBs.size
    go_wp2_with fail
    go_ret2
    rw [HR.out]
    exact ⟨⟨A5, c5, rfl, own5⟩, hB6⟩
  ·have hHd := hHeld
   obtain ⟨q0, q1, q2⟩ := (HV.out _ hHd).got; simp only at q0 q1 q2
   have hHp := hHeld
   have G := BB.new V.drew false none 0 0 82
   rw [World.size_drew] at G
   have hgs : V.heap.size ≤ V.heap.size := by have h := hHeld.size; (try simp only [World.size_alloc, World.size_drew] at h ⊢); omega
   have hKeep := since_alloc hHeld (.cells #[.bool false, .slice none 0 0] 82)
   go_simp
   refine hK.out _ _ (by (try dsimp only); exact hKeep) (fun hHeld => ?_); clear hK K hKeep; try simp only [pqZ]
   refine rdZ 1 21 rfl (by kernel_rfl) (fun K hK => ?_)
   go_simp
   refine (HOH.out _).mono ?_
   rintro e x1 ⟨⟨s1, A1, n1, d1, rfl, hf1, Y1⟩, hk1⟩
   have hKeep := since_step hHeld hk1
   have L1 := Y1.l64_RInt HI1.out
   have hG0 := G.1
   have G := G.below hk1
   go_wp2_with fail
   refine hK.out _ _ (by (try dsimp only); exact hKeep) (fun hHeld => ?_); clear hK K hKeep; try simp only [pqZ]
   refine rdZ 4 24 rfl (by kernel_rfl) (fun K hK => ?_)
   go_simp
   refine (HOQ.out _).mono ?_
   rintro e x2 ⟨⟨s2, A2, n2, d2, rfl, hf2, Y2⟩, hk2⟩
   have hKeep := since_step hHeld hk2
   have L2 := Y2.l64_RInt HI2.out
   have hG0 := G.1
   have G := G.below hk2
   have Y1 := Y1.below hk2
   go_wp2_with fail
   refine hK.out _ _ (by (try dsimp only); exact hKeep) (fun hHeld => ?_); clear hK K hKeep; try simp only [pqZ]
   refine rdZ 5 25 rfl (by kernel_rfl) (fun K hK => ?_)
   go_simp
   refine (badd' (by omega) (by omega) Y1 Y2).mono ?_
   rintro e x3 ⟨⟨s9, A9, m9, k9, rfl, hf9, Y9⟩, hk3⟩
   have hKeep := since_step hHeld hk3
   have L9 := len_add Y1 Y2 Y9
   have hG0 := G.1
   have G := G.below hk3
   clear Y1 Y2
   go_wp2_with fail
   refine hK.out _ _ (by (try dsimp only); exact hKeep) (fun hHeld => ?_); clear hK K hKeep; try simp only [pqZ]
   refine wpAnyH_ready (rs := [7]) (by kernel_rfl) (by simp) ?_
   refine AllReadyH.cons (o := ⟨none, _, _, _, _, _⟩) rfl (fun K hK => ?_) AllReadyH.nil
   have hHd := hHeld
   obtain ⟨q0, q1, q2⟩ := (HV.out _ hHd).got; simp only at q0 q1 q2
   have G9 := G.set2 s9 A9 m9 k9
   have Y9f := (Y9.far (p := ⟨V.heap.size, 0, none⟩) (fun b o hA hn => by have h8 := hf9 b o hA hn; show b ≠ V.heap.size; simp only [World.size_alloc, World.size_drew] at *; omega) (.bool s9)).far (p := ⟨V.heap.size, 1, none⟩) (fun b o hA hn => by have h8 := hf9 b o hA hn; show b ≠ V.heap.size; simp only [World.size_alloc, World.size_drew] at *; omega) (.slice A9 m9 k9)
   obtain ⟨g0, g1, g2, g3, g4⟩ := id G
   have hKeep := Below.setCell (Below.setCell hHeld (p := ⟨V.heap.size, 0, none⟩) hgs (.bool s9)) (p := ⟨V.heap.size, 1, none⟩) hgs (.slice A9 m9 k9)
   skip
   go_simp
   refine hK.out _ _ (by (try dsimp only); exact hKeep) (fun hHeld => ?_); clear hK K hKeep; try simp only [pqZ]
   refine wpAnyH_done (by kernel_rfl) ?_ _
   clear hHp
   generalize hFW : ((x3.setCell ⟨V.heap.size, 0, none⟩ (.bool s9)).setCell ⟨V.heap.size, 1, none⟩ (.slice A9 m9 k9)) = FW at *
   have hBf := hB3.trans (hHeld.mono hB3.size)
   have hVf := HV.out _ hHeld
   have fzf := (hHeld.frozen (p := ⟨w.heap.size, 2, none⟩) HLQ.out).trans HFZ.out
   obtain ⟨g0, g1, g2, g3, g4⟩ := id G9
   go_wp2_with fail
   refine (bfits_any _ _ _ _ _ _ (by omega) Y9f).mono ?_
   rw [HFT.out]
   rintro e x4 ⟨rfl, hk4⟩
   have hB4 := since_step hBf hk4
   have Y9f := Y9f.below hk4
   have G9 := G9.below hk4
   have lqf := hVf.lt
   have fz4 := (hk4.frozen (p := ⟨w.heap.size, 2, none⟩) lqf).trans fzf
   have hV4 := hVf.below hk4
   clear hk4 g0 g1 g2 g3 g4 hVf fzf lqf
   obtain ⟨g0, g1, g2, g3, g4⟩ := id G9
   obtain ⟨q0, q1, q2⟩ := hV4.got
   simp only at q0 q1 q2
   have lq4 := hV4.lt
   go_wp2_with fail
   refine (rint_any (hs0 + xq) HI3.out _ _ _ _ _ Y9f).mono ?_
   rintro e x5 ⟨rfl, hk5⟩
   have hB5 := since_step hB4 hk5
   have hV5 := hV4.below hk5
   have fz5 := (hk5.frozen (p := ⟨w.heap.size, 2, none⟩) lq4).trans fz4
   clear hk5 q0 q1 q2 g0 g1 g2 g3 g4 hV4 fz4 lq4
   obtain ⟨q0, q1, q2⟩ := hV5.got
   simp only at q0 q1 q2
   have lq5 := hV5.lt
   go_wp2_with fail
   have hBs := Below.setCell hB5 (p := ⟨w.heap.size, 2, none⟩) (Nat.le_refl _) (.int .i64 (hs0 + xq))
   refine (HSET.out _ (hs0 + xq) (HS.out _ hBs)).mono ?_
   rw [HE.out]
   rintro e x6 ⟨⟨A5, c5, rfl, own5⟩, hb⟩
   have hB6 := since_step hBs hb
   have own5 := own_base own5 hBs.size
   go_wp2_with fail
   go_ret2
   rw [HR.out]
   exact ⟨⟨A5, c5, rfl, own5⟩, hB6⟩
 ·have HR : Hid (putLR l x = (0, putR ahL l ⟨x.ast, x.tag, getL l x.ast x.tag + x.qty⟩)) := Lib.hid (by rw [putLR, if_neg (by rw [hc]; decide), if_neg (fun h => h h1.1), if_neg (fun h => h1.2 h.1)])
  have HI := Lib.hid hi
  have HO := Lib.hid ho
  have HOH := Lib.hid (fun W => bof_any (getL l x.ast x.tag) W hh64)
  have HOQ := Lib.hid (fun W => bof_any x.qty W hx)
  have HI1 := Lib.hid hh64
  have HI2 := Lib.hid hx
  have HFT : Hid (decide (inN (getL l x.ast x.tag + x.qty) 63) = true) := Lib.hid (decide_eq_true ((in64_iff _).2 h1.1))
  have HI3 := Lib.hid h1.1
  have hgq : (getL l x.ast x.tag == 0) = false := by simpa using h1.2
  have HE : Hid (setF ⟨x.ast, x.tag, getL l x.ast x.tag + x.qty⟩ (getL l x.ast x.tag + x.qty == 0) l = putR ahL l ⟨x.ast, x.tag, getL l x.ast x.tag + x.qty⟩) := Lib.hid (setF_put hi (by show getL l x.ast x.tag + x.qty ≠ 0; omega))
  obtain ⟨hs0, hgg⟩ : ∃ v, getL l x.ast x.tag = v := ⟨_, rfl⟩
  rw [hgg] at HOH HI1 HFT hgq HI3 HE HR
  have HH := Lib.hid hgg
  clear hgg hc hi ho hq hpos hnn hh64 hx h1
  obtain ⟨xa, xt, xq⟩ := x
  unfold Lt.val at *
  unfold Lt.cells at hB0 hV0
  simp only at *
  go_enter Tryz.func30, Tryz.ntmps30
  go_upto_region 1 with fail
  have fz0 : (w.alloc (.cells #[.int .i64 xa, .int .i64 xt, .int .i64 xq] 33)).frozen? ⟨w.heap.size, 2, none⟩ = false := by simp
  generalize hWW : w.alloc (.cells #[.int .i64 xa, .int .i64 xt, .int .i64 xq] 33) = w0 at *
  clear hWW
  obtain ⟨q0, q1, q2⟩ := hV0.got
  simp only at q0 q1 q2
  have lq := hV0.lt
  go_wp2_with fail
  refine (HIS.out _ (HS.out _ hB0)).mono ?_
  rw [HI.out]
  rintro e w1 ⟨rfl, hb⟩
  have hB1 := since_step hB0 hb
  have hV1 := hV0.below hb
  have fz1 := (hb.frozen (p := ⟨w.heap.size, 2, none⟩) lq).trans fz0
  clear hb q0 q1 q2 lq hV0 fz0
  obtain ⟨q0, q1, q2⟩ := hV1.got
  simp only at q0 q1 q2
  have lq := hV1.lt
  go_wp2_with fail
  refine (HON.out _).mono ?_
  rw [HO.out]
  rintro e w2 ⟨rfl, hb⟩
  have hB2 := since_step hB1 hb
  have hV2 := hV1.below hb
  have fz2 := (hb.frozen (p := ⟨w.heap.size, 2, none⟩) lq).trans fz1
  clear hb q0 q1 q2 lq hV1 fz1
  obtain ⟨q0, q1, q2⟩ := hV2.got
  simp only at q0 q1 q2
  have lq := hV2.lt
  go_wp2_with fail
  refine (HG.out _ (HS.out _ hB2)).mono ?_
  rw [HH.out]
  rintro e w3 ⟨rfl, hb⟩
  have hB3 := since_step hB2 hb
  have hV3 := hV2.below hb
  have fz3 := (hb.frozen (p := ⟨w.heap.size, 2, none⟩) lq).trans fz2
  clear hb q0 q1 q2 lq hV2 fz2
  have HV : Hid (∀ V, Below w3.heap.size w3 V → Lt.Bx V w.heap.size ⟨xa, xt, xq⟩) := Lib.hid fun V hV => hV3.below hV
  have HFZ := Lib.hid fz3
  have HLQ := Lib.hid hV3.lt
  clear fz3
  obtain ⟨q0, q1, q2⟩ := hV3.got
  simp only at q0 q1 q2
  have lq := hV3.lt
  go_wp2_with fail
  clear q0 q1 q2 lq hV3
  generalize w3 = V at *
  refine wp_region_held_drew (S := (fun V' => Below V.heap.size V V')) (by kernel_rfl) (by exact (Below.refl _ _).drew) (fun hHeld => ?_)
  refine tkI 0 20 rfl (by intro w hSw; obtain ⟨q0, q1, q2⟩ := (HV.out _ hSw).got; simp only at q0 q1 q2; go_simp <;> with_reducible rfl) hHeld ?_; simp only [pqZ]
  refine tkI 2 22 rfl (by intro w hSw; obtain ⟨q0, q1, q2⟩ := (HV.out _ hSw).got; simp only at q0 q1 q2; go_simp <;> with_reducible rfl) hHeld ?_; simp only [pqZ]
  refine tkI 3 23 rfl (by intro w hSw; obtain ⟨q0, q1, q2⟩ := (HV.out _ hSw).got; simp only at q0 q1 q2; go_simp <;> with_reducible rfl) hHeld ?_; simp only [pqZ]
  refine wpAnyH_ready (rs := [1, 6]) (by kernel_rfl) (by simp) ?_
  refine AllReadyH.cons (o := ⟨some 21, _, _, _, _, _⟩) rfl (fun K hK => ?_) (AllReadyH.cons (o := ⟨some 7, _, _, _, _, _⟩) rfl (fun K hK => ?_) AllReadyH.nil)
  ·go_simp
   refine (HOH.out _).mono ?_
   rintro e x1 ⟨⟨s1, A1, n1, d1, rfl, hf1, Y1⟩, hk1⟩
   have hKeep := since_step hHeld hk1
   have L1 := Y1.l64_RInt HI1.out
   go_wp2_with fail
   refine hK.out _ _ (by (try dsimp only); exact hKeep) (fun hHeld => ?_); clear hK K hKeep; try simp only [pqZ]
   refine wpAnyH_ready (rs := [4, 6]) (by kernel_rfl) (by simp) ?_
   refine AllReadyH.cons (o := ⟨some 24, _, _, _, _, _⟩) rfl (fun K hK => ?_) (AllReadyH.cons (o := ⟨some 7, _, _, _, _, _⟩) rfl (fun K hK => ?_) AllReadyH.nil)
   ·go_simp
    refine (HOQ.out _).mono ?_
    rintro e x2 ⟨⟨s2, A2, n2, d2, rfl, hf2, Y2⟩, hk2⟩
    have hKeep := since_step hHeld hk2
    have L2 := Y2.l64_RInt HI2.out
    have Y1 := Y1.below hk2
    go_wp2_with fail
    refine hK.out _ _ (by (try dsimp only); exact hKeep) (fun hHeld => ?_); clear hK K hKeep; try simp only [pqZ]
    refine wpAnyH_ready (rs := [5, 6]) (by kernel_rfl) (by simp) ?_
    refine AllReadyH.cons (o := ⟨some 25, _, _, _, _, _⟩) rfl (fun K hK => ?_) (AllReadyH.cons (o := ⟨some 7, _, _, _, _, _⟩) rfl (fun K hK => ?_) AllReadyH.nil)
    ·go_simp
     refine (badd' (by omega) (by omega) Y1 Y2).mono ?_
     rintro e x3 ⟨⟨s9, A9, m9, k9, rfl, hf9, Y9⟩, hk3⟩
     have hKeep := since_step hHeld hk3
     have L9 := len_add Y1 Y2 Y9
     clear Y1 Y2
     go_wp2_with fail
     refine hK.out _ _ (by (try dsimp only); exact hKeep) (fun hHeld => ?_); clear hK K hKeep; try simp only [pqZ]
     refine rdZ 6 7 rfl (by kernel_rfl) (fun K hK => ?_)
     have hHd := hHeld
     obtain ⟨q0, q1, q2⟩ := (HV.out _ hHd).got; simp only at q0 q1 q2
     have hHp := hHeld
     have G := BB.new x3 false none 0 0 82
     have hgs : V.heap.size ≤ x3.heap.size := by have h := hHeld.size; (try simp only [World.size_alloc, World.size_drew] at h ⊢); omega
     have hKeep := since_alloc hHeld (.cells #[.bool false, .slice none 0 0] 82)
     have Y9f := Y9.alloc (.cells #[.bool s9, .slice A9 m9 k9] 82)
     have Y9 := Y9.alloc (.cells #[.bool false, .slice none 0 0] 82)
     go_simp
     refine hK.out _ _ (by (try dsimp only); exact hKeep) (fun hHeld => ?_); clear hK K hKeep; try simp only [pqZ]
     refine wpAnyH_ready (rs := [7]) (by kernel_rfl) (by simp) ?_
     refine AllReadyH.cons (o := ⟨none, _, _, _, _, _⟩) rfl (fun K hK => ?_) AllReadyH.nil
     have hHd := hHeld
     obtain ⟨q0, q1, q2⟩ := (HV.out _ hHd).got; simp only at q0 q1 q2
     have G9 := BB.new x3 s9 A9 m9 k9 82
     obtain ⟨g0, g1, g2, g3, g4⟩ := id G
     have hKeep := since_alloc hHp (.cells #[.bool s9, .slice A9 m9 k9] 82)
     skip
     go_simp
     refine hK.out _ _ (by (try dsimp only); exact hKeep) (fun hHeld => ?_); clear hK K hKeep; try simp only [pqZ]
     refine wpAnyH_done (by kernel_rfl) ?_ _
     clear hHp
     generalize hFW : (x3.alloc (.cells #[.bool s9, .slice A9 m9 k9] 82)) = FW at *
     have hBf := hB3.trans (hHeld.mono hB3.size)
     have hVf := HV.out _ hHeld
     have fzf := (hHeld.frozen (p := ⟨w.heap.size, 2, none⟩) HLQ.out).trans HFZ.out
     obtain ⟨g0, g1, g2, g3, g4⟩ := id G9
     go_wp2_with fail
     refine (bfits_any _ _ _ _ _ _ (by omega) Y9f).mono ?_
     rw [HFT.out]
     rintro e x4 ⟨rfl, hk4⟩
     have hB4 := since_step hBf hk4
     have Y9f := Y9f.below hk4
     have G9 := G9.below hk4
     have lqf := hVf.lt
     have fz4 := (hk4.frozen (p := ⟨w.heap.size, 2, none⟩) lqf).trans fzf
     have hV4 := hVf.below hk4
     clear hk4 g0 g1 g2 g3 g4 hVf fzf lqf
     obtain ⟨g0, g1, g2, g3, g4⟩ := id G9
     obtain ⟨q0, q1, q2⟩ := hV4.got
     simp only at q0 q1 q2
     have lq4 := hV4.lt
     go_wp2_with fail
     refine (rint_any (hs0 + xq) HI3.out _ _ _ _ _ Y9f).mono ?_
     rintro e x5 ⟨rfl, hk5⟩
     have hB5 := since_step hB4 hk5
     have hV5 := hV4.below hk5
     have fz5 := (hk5.frozen (p := ⟨w.heap.size, 2, none⟩) lq4).trans fz4
     clear hk5 q0 q1 q2 g0 g1 g2 g3 g4 hV4 fz4 lq4
     obtain ⟨q0, q1, q2⟩ := hV5.got
     simp only at q0 q1 q2
     have lq5 := hV5.lt
     go_wp2_with fail
     have hBs := Below.setCell hB5 (p := ⟨w.heap.size, 2, none⟩) (Nat.le_refl _) (.int .i64 (hs0 + xq))
     refine (HSET.out _ (hs0 + xq) (HS.out _ hBs)).mono ?_
     rw [HE.out]
     rintro e x6 ⟨⟨A5, c5, rfl, own5⟩, hb⟩
     have hB6 := since_step hBs hb
     have own5 := own_base own5 hBs.size
     go_wp2_with fail
     go_ret2
     rw [HR.out]
     exact ⟨⟨A5, c5, rfl, own5⟩, hB6⟩
    ·have hHd := hHeld
     obtain ⟨q0, q1, q2⟩ := (HV.out _ hHd).got; simp only at q0 q1 q2
     have hHp := hHeld
     have G := BB.new x2 false none 0 0 82
     have hgs : V.heap.size ≤ x2.heap.size := by have h := hHeld.size; (try simp only [World.size_alloc, World.size_drew] at h ⊢); omega
     have hKeep := since_alloc hHeld (.cells #[.bool false, .slice none 0 0] 82)
     have Y1 := Y1.alloc (.cells #[.bool false, .slice none 0 0] 82)
     have Y2 := Y2.alloc (.cells #[.bool false, .slice none 0 0] 82)
     go_simp
     refine hK.out _ _ (by (try dsimp only); exact hKeep) (fun hHeld => ?_); clear hK K hKeep; try simp only [pqZ]
     refine rdZ 5 25 rfl (by kernel_rfl) (fun K hK => ?_)
     go_simp
     refine (badd' (by omega) (by omega) Y1 Y2).mono ?_
     rintro e x3 ⟨⟨s9, A9, m9, k9, rfl, hf9, Y9⟩, hk3⟩
     have hKeep := since_step hHeld hk3
     have L9 := len_add Y1 Y2 Y9
     have hG0 := G.1
     have G := G.below hk3
     clear Y1 Y2
     go_wp2_with fail
     refine hK.out _ _ (by (try dsimp only); exact hKeep) (fun hHeld => ?_); clear hK K hKeep; try simp only [pqZ]
     refine wpAnyH_ready (rs := [7]) (by kernel_rfl) (by simp) ?_
     refine AllReadyH.cons (o := ⟨none, _, _, _, _, _⟩) rfl (fun K hK => ?_) AllReadyH.nil
     have hHd := hHeld
     obtain ⟨q0, q1, q2⟩ := (HV.out _ hHd).got; simp only at q0 q1 q2
     have G9 := G.set2 s9 A9 m9 k9
     have Y9f := (Y9.far (p := ⟨x2.heap.size, 0, none⟩) (fun b o hA hn => by have h8 := hf9 b o hA hn; show b ≠ x2.heap.size; simp only [World.size_alloc, World.size_drew] at *; omega) (.bool s9)).far (p := ⟨x2.heap.size, 1, none⟩) (fun b o hA hn => by have h8 := hf9 b o hA hn; show b ≠ x2.heap.size; simp only [World.size_alloc, World.size_drew] at *; omega) (.slice A9 m9 k9)
     obtain ⟨g0, g1, g2, g3, g4⟩ := id G
     have hKeep := Below.setCell (Below.setCell hHeld (p := ⟨x2.heap.size, 0, none⟩) hgs (.bool s9)) (p := ⟨x2.heap.size, 1, none⟩) hgs (.slice A9 m9 k9)
     skip
     go_simp
     refine hK.out _ _ (by (try dsimp only); exact hKeep) (fun hHeld => ?_); clear hK K hKeep; try simp only [pqZ]
     refine wpAnyH_done (by kernel_rfl) ?_ _
     clear hHp
     generalize hFW : ((x3.setCell ⟨x2.heap.size, 0, none⟩ (.bool s9)).setCell ⟨x2.heap.size, 1, none⟩ (.slice A9 m9 k9)) = FW at *
     have hBf := hB3.trans (hHeld.mono hB3.size)
     have hVf := HV.out _ hHeld
     have fzf := (hHeld.frozen (p := ⟨w.heap.size, 2, none⟩) HLQ.out).trans HFZ.out
     obtain ⟨g0, g1, g2, g3, g4⟩ := id G9
     go_wp2_with fail
     refine (bfits_any _ _ _ _ _ _ (by omega) Y9f).mono ?_
     rw [HFT.out]
     rintro e x4 ⟨rfl, hk4⟩
     have hB4 := since_step hBf hk4
     have Y9f := Y9f.below hk4
     have G9 := G9.below hk4
     have lqf := hVf.lt
     have fz4 := (hk4.frozen (p := ⟨w.heap.size, 2, none⟩) lqf).trans fzf
     have hV4 := hVf.below hk4
     clear hk4 g0 g1 g2 g3 g4 hVf fzf lqf
     obtain ⟨g0, g1, g2, g3, g4⟩ := id G9
     obtain ⟨q0, q1, q2⟩ := hV4.got
     simp only at q0 q1 q2
     have lq4 := hV4.lt
     go_wp2_with fail
     refine (rint_any (hs0 + xq) HI3.out _ _ _ _ _ Y9f).mono ?_
     rintro e x5 ⟨rfl, hk5⟩
     have hB5 := since_step hB4 hk5
     have hV5 := hV4.below hk5
     have fz5 := (hk5.frozen (p := ⟨w.heap.size, 2, none⟩) lq4).trans fz4
     clear hk5 q0 q1 q2 g0 g1 g2 g3 g4 hV4 fz4 lq4
     obtain ⟨q0, q1, q2⟩ := hV5.got
     simp only at q0 q1 q2
     have lq5 := hV5.lt
     go_wp2_with fail
     have hBs := Below.setCell hB5 (p := ⟨w.heap.size, 2, none⟩) (Nat.le_refl _) (.int .i64 (hs0 + xq))
     refine (HSET.out _ (hs0 + xq) (HS.out _ hBs)).mono ?_
     rw [HE.out]
     rintro e x6 ⟨⟨A5, c5, rfl, own5⟩, hb⟩
     have hB6 := since_step hBs hb
     have own5 := own_base own5 hBs.size
     go_wp2_with fail
     go_ret2
     rw [HR.out]
     exact ⟨⟨A5, c5, rfl, own5⟩, hB6⟩
   ·have hHd := hHeld
    obtain ⟨q0, q1, q2⟩ := (HV.out _ hHd).got; simp only at q0 q1 q2
    have hHp := hHeld
    have G := BB.new x1 false none 0 0 82
    have hgs : V.heap.size ≤ x1.heap.size := by have h := hHeld.size; (try simp only [World.size_alloc, World.size_drew] at h ⊢); omega
    have hKeep := since_alloc hHeld (.cells #[.bool false, .slice none 0 0] 82)
    have Y1 := Y1.alloc (.cells #[.bool false, .slice none 0 0] 82)
    go_simp
    refine hK.out _ _ (by (try dsimp only); exact hKeep) (fun hHeld => ?_); clear hK K hKeep; try simp only [pqZ]
    refine rdZ 4 24 rfl (by kernel_rfl) (fun K hK => ?_)
    go_simp
    refine (HOQ.out _).mono ?_
    rintro e x2 ⟨⟨s2, A2, n2, d2, rfl, hf2, Y2⟩, hk2⟩
    have hKeep := since_step hHeld hk2
    have L2 := Y2.l64_RInt HI2.out
    have hG0 := G.1
    have G := G.below hk2
    have Y1 := Y1.below hk2
    go_wp2_with fail
    refine hK.out _ _ (by (try dsimp only); exact hKeep) (fun hHeld => ?_); clear hK K hKeep; try simp only [pqZ]
    refine rdZ 5 25 rfl (by kernel_rfl) (fun K hK => ?_)
    go_simp
    refine (badd' (by omega) (by omega) Y1 Y2).mono ?_
    rintro e x3 ⟨⟨s9, A9, m9, k9, rfl, hf9, Y9⟩, hk3⟩
    have hKeep := since_step hHeld hk3
    have L9 := len_add Y1 Y2 Y9
    have hG0 := G.1
    have G := G.below hk3
    clear Y1 Y2
    go_wp2_with fail
    refine hK.out _ _ (by (try dsimp only); exact hKeep) (fun hHeld => ?_); clear hK K hKeep; try simp only [pqZ]
    refine wpAnyH_ready (rs := [7]) (by kernel_rfl) (by simp) ?_
    refine AllReadyH.cons (o := ⟨none, _, _, _, _, _⟩) rfl (fun K hK => ?_) AllReadyH.nil
    have hHd := hHeld
    obtain ⟨q0, q1, q2⟩ := (HV.out _ hHd).got; simp only at q0 q1 q2
    have G9 := G.set2 s9 A9 m9 k9
    have Y9f := (Y9.far (p := ⟨x1.heap.size, 0, none⟩) (fun b o hA hn => by have h8 := hf9 b o hA hn; show b ≠ x1.heap.size; simp only [World.size_alloc, World.size_drew] at *; omega) (.bool s9)).far (p := ⟨x1.heap.size, 1, none⟩) (fun b o hA hn => by have h8 := hf9 b o hA hn; show b ≠ x1.heap.size; simp only [World.size_alloc, World.size_drew] at *; omega) (.slice A9 m9 k9)
    obtain ⟨g0, g1, g2, g3, g4⟩ := id G
    have hKeep := Below.setCell (Below.setCell hHeld (p := ⟨x1.heap.size, 0, none⟩) hgs (.bool s9)) (p := ⟨x1.heap.size, 1, none⟩) hgs (.slice A9 m9 k9)
    skip
    go_simp
    refine hK.out _ _ (by (try dsimp only); exact hKeep) (fun hHeld => ?_); clear hK K hKeep; try simp only [pqZ]
    refine wpAnyH_done (by kernel_rfl) ?_ _
    clear hHp
    generalize hFW : ((x3.setCell ⟨x1.heap.size, 0, none⟩ (.bool s9)).setCell ⟨x1.heap.size, 1, none⟩ (.slice A9 m9 k9)) = FW at *
    have hBf := hB3.trans (hHeld.mono hB3.size)
    have hVf := HV.out _ hHeld
    have fzf := (hHeld.frozen (p := ⟨w.heap.size, 2, none⟩) HLQ.out).trans HFZ.out
    obtain ⟨g0, g1, g2, g3, g4⟩ := id G9
    go_wp2_with fail
    refine (bfits_any _ _ _ _ _ _ (by omega) Y9f).mono ?_
    rw [HFT.out]
    rintro e x4 ⟨rfl, hk4⟩
    have hB4 := since_step hBf hk4
    have Y9f := Y9f.below hk4
    have G9 := G9.below hk4
    have lqf := hVf.lt
    have fz4 := (hk4.frozen (p := ⟨w.heap.size, 2, none⟩) lqf).trans fzf
    have hV4 := hVf.below hk4
    clear hk4 g0 g1 g2 g3 g4 hVf fzf lqf
    obtain ⟨g0, g1, g2, g3, g4⟩ := id G9
    obtain ⟨q0, q1, q2⟩ := hV4.got
    simp only at q0 q1 q2
    have lq4 := hV4.lt
    go_wp2_with fail
    refine (rint_any (hs0 + xq) HI3.out _ _ _ _ _ Y9f).mono ?_
    rintro e x5 ⟨rfl, hk5⟩
    have hB5 := since_step hB4 hk5
    have hV5 := hV4.below hk5
    have fz5 := (hk5.frozen (p := ⟨w.heap.size, 2, none⟩) lq4).trans fz4
    clear hk5 q0 q1 q2 g0 g1 g2 g3 g4 hV4 fz4 lq4
    obtain ⟨q0, q1, q2⟩ := hV5.got
    simp only at q0 q1 q2
    have lq5 := hV5.lt
    go_wp2_with fail
    have hBs := Below.setCell hB5 (p := ⟨w.heap.size, 2, none⟩) (Nat.le_refl _) (.int .i64 (hs0 + xq))
    refine (HSET.out _ (hs0 + xq) (HS.out _ hBs)).mono ?_
    rw [HE.out]
    rintro e x6 ⟨⟨A5, c5, rfl, own5⟩, hb⟩
    have hB6 := since_step hBs hb
    have own5 := own_base own5 hBs.size
    go_wp2_with fail
    go_ret2
    rw [HR.out]
    exact ⟨⟨A5, c5, rfl, own5⟩, hB6⟩
  ·have hHd := hHeld
   obtain ⟨q0, q1, q2⟩ := (HV.out _ hHd).got; simp only at q0 q1 q2
   have hHp := hHeld
   have G := BB.new V.drew false none 0 0 82
   rw [World.size_drew] at G
   have hgs : V.heap.size ≤ V.heap.size := by have h := hHeld.size; (try simp only [World.size_alloc, World.size_drew] at h ⊢); omega
   have hKeep := since_alloc hHeld (.cells #[.bool false, .slice none 0 0] 82)
   go_simp
   refine hK.out _ _ (by (try dsimp only); exact hKeep) (fun hHeld => ?_); clear hK K hKeep; try simp only [pqZ]
   refine rdZ 1 21 rfl (by kernel_rfl) (fun K hK => ?_)
   go_simp
   refine (HOH.out _).mono ?_
   rintro e x1 ⟨⟨s1, A1, n1, d1, rfl, hf1, Y1⟩, hk1⟩
   have hKeep := since_step hHeld hk1
   have L1 := Y1.l64_RInt HI1.out
   have hG0 := G.1
   have G := G.below hk1
   go_wp2_with fail
   refine hK.out _ _ (by (try dsimp only); exact hKeep) (fun hHeld => ?_); clear hK K hKeep; try simp only [pqZ]
   refine rdZ 4 24 rfl (by kernel_rfl) (fun K hK => ?_)
   go_simp
   refine (HOQ.out _).mono ?_
   rintro e x2 ⟨⟨s2, A2, n2, d2, rfl, hf2, Y2⟩, hk2⟩
   have hKeep := since_step hHeld hk2
   have L2 := Y2.l64_RInt HI2.out
   have hG0 := G.1
   have G := G.below hk2
   have Y1 := Y1.below hk2
   go_wp2_with fail
   refine hK.out _ _ (by (try dsimp only); exact hKeep) (fun hHeld => ?_); clear hK K hKeep; try simp only [pqZ]
   refine rdZ 5 25 rfl (by kernel_rfl) (fun K hK => ?_)
   go_simp
   refine (badd' (by omega) (by omega) Y1 Y2).mono ?_
   rintro e x3 ⟨⟨s9, A9, m9, k9, rfl, hf9, Y9⟩, hk3⟩
   have hKeep := since_step hHeld hk3
   have L9 := len_add Y1 Y2 Y9
   have hG0 := G.1
   have G := G.below hk3
   clear Y1 Y2
   go_wp2_with fail
   refine hK.out _ _ (by (try dsimp only); exact hKeep) (fun hHeld => ?_); clear hK K hKeep; try simp only [pqZ]
   refine wpAnyH_ready (rs := [7]) (by kernel_rfl) (by simp) ?_
   refine AllReadyH.cons (o := ⟨none, _, _, _, _, _⟩) rfl (fun K hK => ?_) AllReadyH.nil
   have hHd := hHeld
   obtain ⟨q0, q1, q2⟩ := (HV.out _ hHd).got; simp only at q0 q1 q2
   have G9 := G.set2 s9 A9 m9 k9
   have Y9f := (Y9.far (p := ⟨V.heap.size, 0, none⟩) (fun b o hA hn => by have h8 := hf9 b o hA hn; show b ≠ V.heap.size; simp only [World.size_alloc, World.size_drew] at *; omega) (.bool s9)).far (p := ⟨V.heap.size, 1, none⟩) (fun b o hA hn => by have h8 := hf9 b o hA hn; show b ≠ V.heap.size; simp only [World.size_alloc, World.size_drew] at *; omega) (.slice A9 m9 k9)
   obtain ⟨g0, g1, g2, g3, g4⟩ := id G
   have hKeep := Below.setCell (Below.setCell hHeld (p := ⟨V.heap.size, 0, none⟩) hgs (.bool s9)) (p := ⟨V.heap.size, 1, none⟩) hgs (.slice A9 m9 k9)
   skip
   go_simp
   refine hK.out _ _ (by (try dsimp only); exact hKeep) (fun hHeld => ?_); clear hK K hKeep; try simp only [pqZ]
   refine wpAnyH_done (by kernel_rfl) ?_ _
   clear hHp
   generalize hFW : ((x3.setCell ⟨V.heap.size, 0, none⟩ (.bool s9)).setCell ⟨V.heap.size, 1, none⟩ (.slice A9 m9 k9)) = FW at *
   have hBf := hB3.trans (hHeld.mono hB3.size)
   have hVf := HV.out _ hHeld
   have fzf := (hHeld.frozen (p := ⟨w.heap.size, 2, none⟩) HLQ.out).trans HFZ.out
   obtain ⟨g0, g1, g2, g3, g4⟩ := id G9
   go_wp2_with fail
   refine (bfits_any _ _ _ _ _ _ (by omega) Y9f).mono ?_
   rw [HFT.out]
   rintro e x4 ⟨rfl, hk4⟩
   have hB4 := since_step hBf hk4
   have Y9f := Y9f.below hk4
   have G9 := G9.below hk4
   have lqf := hVf.lt
   have fz4 := (hk4.frozen (p := ⟨w.heap.size, 2, none⟩) lqf).trans fzf
   have hV4 := hVf.below hk4
   clear hk4 g0 g1 g2 g3 g4 hVf fzf lqf
   obtain ⟨g0, g1, g2, g3, g4⟩ := id G9
   obtain ⟨q0, q1, q2⟩ := hV4.got
   simp only at q0 q1 q2
   have lq4 := hV4.lt
   go_wp2_with fail
   refine (rint_any (hs0 + xq) HI3.out _ _ _ _ _ Y9f).mono ?_
   rintro e x5 ⟨rfl, hk5⟩
   have hB5 := since_step hB4 hk5
   have hV5 := hV4.below hk5
   have fz5 := (hk5.frozen (p := ⟨w.heap.size, 2, none⟩) lq4).trans fz4
   clear hk5 q0 q1 q2 g0 g1 g2 g3 g4 hV4 fz4 lq4
   obtain ⟨q0, q1, q2⟩ := hV5.got
   simp only at q0 q1 q2
   have lq5 := hV5.lt
   go_wp2_with fail
   have hBs := Below.setCell hB5 (p := ⟨w.heap.size, 2, none⟩) (Nat.le_refl _) (.int .i64 (hs0 + xq))
   refine (HSET.out _ (hs0 + xq) (HS.out _ hBs)).mono ?_
   rw [HE.out]
   rintro e x6 ⟨⟨A5, c5, rfl, own5⟩, hb⟩
   have hB6 := since_step hBs hb
   have own5 := own_base own5 hBs.size
   go_wp2_with fail
   go_ret2
   rw [HR.out]
   exact ⟨⟨A5, c5, rfl, own5⟩, hB6⟩
end
end Go.Proofs.YtmjndpkfhdoljaaGreat
