import Derived.Test.YtmjndpkfhdoljaaGreatCm12
import Derived.Test.YtmjndpkfhdoljaaGreatCm45
set_option maxHeartbeats 16000000
set_option maxRecDepth 100000
set_option linter.unusedVariables false
set_option linter.unusedSimpArgs false
namespace Go.Proofs.YtmjndpkfhdoljaaGreat
open Go.ChangeShapes Go.WideShapes Go.ChangeAt Go.RowKit
section
def outU (all : List Fw) (us : List Un) : List Fw := (us.map fun u => (⟨u.ac, u.cl, sumU all u.ac u.cl⟩ : Fw)).filter fun x => x.amt != 0
theorem outU_snoc (all : List Fw) (us : List Un) (k : Nat) (h : k < us.length) : outU all (us.take (k + 1)) = outU all (us.take k) ++ (if sumU all us[k].ac us[k].cl = 0 then [] else [⟨us[k].ac, us[k].cl, sumU all us[k].ac us[k].cl⟩]) := by
  unfold outU
  rw [take_snoc us k h, List.map_append, List.filter_append]
  congr 1
  by_cases hz : sumU all us[k].ac us[k].cl = 0 <;> simp [hz]
theorem outU_len (all : List Fw) (us : List Un) : (outU all us).length ≤ us.length := by
  unfold outU
  have := List.length_filter_le (fun x : Fw => x.amt != 0) (us.map fun u => (⟨u.ac, u.cl, sumU all u.ac u.cl⟩ : Fw))
  simpa using this
theorem sumU_take (l : List Fw) (a c : Int) (k : Nat) (h : k < l.length) : sumU (l.take (k + 1)) a c = sumU (l.take k) a c + (if unF a c l[k] = true then l[k].amt else 0) := by
  rw [take_snoc l k h, sumU_append, sumU_cons]; simp [sumU]
theorem BB.grown {w w' : World} {g : Nat} {s : Bool} {A : Option Addr} {n c : Nat} {row : Option Nat} (h : BB w g s A n c) (hg : w.grownBy w' row) (hne : some g ≠ row) : BB w' g s A n c := by
  have e := hg.block g h.1 hne
  obtain ⟨h0, h1, h2, f1, f2⟩ := h
  refine ⟨Nat.lt_of_lt_of_le h0 hg.size, ?_, ?_, ?_, ?_⟩
  · rw [← h1]; unfold World.cell?; simp only [e]
  · rw [← h2]; unfold World.cell?; simp only [e]
  · rw [← f1]; unfold World.frozen?; simp only [e]
  · rw [← f2]; unfold World.frozen?; simp only [e]
theorem fitsU_of {all : List Fw} (h : ∀ j, (hj : j < (unitsU all).length) → In64 (sumU all (unitsU all)[j].ac (unitsU all)[j].cl)) : fitsU all = true := by
  unfold fitsU
  rw [List.all_eq_true]
  intro u hu
  obtain ⟨j, hj, rfl⟩ := List.getElem_of_mem hu
  exact (fitI_iff _).2 (h j hj)
theorem fitsU_no {all : List Fw} {j : Nat} (hj : j < (unitsU all).length) (h : ¬ In64 (sumU all (unitsU all)[j].ac (unitsU all)[j].cl)) : fitsU all = false := by
  rw [← Bool.not_eq_true]
  intro hf
  unfold fitsU at hf
  rw [List.all_eq_true] at hf
  exact h ((fitI_iff _).1 (hf _ (List.getElem_mem hj)))
theorem rppay_any (A A2 : Option Addr) (cap cap2 : Nat) (l fs : List Fw) (w : World) (hl : l.length ≤ 50000) (hl2 : fs.length ≤ 50000) (hin : ∀ x ∈ l ++ fs, Fw.in_ x) (hs : Sl w A (rc Fw.cells l)) (hs2 : Sl w A2 (rc Fw.cells fs)) :
  Calls Tryz.prog 11 #[.slice A l.length cap, .slice A2 fs.length cap2] w fun e w' => PRes w' e (payR l fs) ∧ Below w.heap.size w w' := by
 have HIS := Lib.hid (rpis_any A cap l w (by omega) hs)
 cases his : isF l with
 | false =>
  have HR : Hid (payR l fs = (3, [])) := Lib.hid (by rw [payR, if_pos his])
  rw [his] at HIS
  clear his
  go_enter Tryz.func11, Tryz.ntmps11
  go_wp2_with fail
  refine HIS.out.mono ?_
  rintro e z1 ⟨rfl, hb⟩
  go_wp2_with fail
  go_ret2
  rw [HR.out]
  exact ⟨PRes.nil _ _, hb⟩
 | true =>
  have HR : Hid (payR l fs = if fitsU (l ++ fs) = false then (7, []) else (0, purseOf (l ++ fs))) := Lib.hid (by rw [payR, if_neg (by rw [his]; decide)])
  rw [his] at HIS
  obtain ⟨all, hall⟩ : ∃ all, l ++ fs = all := ⟨_, rfl⟩
  have hal : all.length = l.length + fs.length := by rw [← hall, List.length_append]
  have HAL := Lib.hid hal
  have HALL : Hid (rc Fw.cells l ++ rc Fw.cells fs = rc Fw.cells all) := Lib.hid (by rw [← hall, rc_append])
  rw [hall] at hin HR
  have HIN := Lib.hid hin
  have hal2 : all.length ≤ 100000 := by omega
  obtain ⟨RES, hRES⟩ : ∃ R, payR l fs = R := ⟨_, rfl⟩
  rw [hRES] at HR ⊢
  have HS1 := Lib.hid (fun V (h : Below w.heap.size w V) => hs.below h)
  have HS2 := Lib.hid (fun V (h : Below w.heap.size w V) => hs2.below h)
  have HUN := Lib.hid (fun A c V h => runits_any_PurQ6 A c all V hal2 h)
  obtain ⟨us, hus⟩ : ∃ us, unitsU all = us := ⟨_, rfl⟩
  have HUS := Lib.hid hus
  have hul : us.length ≤ 100000 := by rw [← hus]; exact Nat.le_trans (unitsU_len all) hal2
  rw [hus] at HUN
  have HL1 : Hid ((rc Fw.cells l).length = l.length * 3) := Lib.hid (rc_length Fw.len l)
  have HL2 : Hid ((rc Fw.cells fs).length = fs.length * 3) := Lib.hid (rc_length Fw.len fs)
  clear his hall hin hRES hus hal hs hs2
  go_enter Tryz.func11, Tryz.ntmps11
  go_wp2_with fail
  refine HIS.out.mono ?_
  rintro e z1 ⟨rfl, hb⟩
  have hs1 := HS1.out _ hb
  go_wp2_with (first
   | (at_builtin; refine wpList_app rfl (.tmp 15) (.tmp 16) rfl EFw rfl rfl (own_nil z1.heap.size _ _) (m := l.length) (news := rc Fw.cells l) HL1.out hs1 (rc_one Fw.one _) (by unfold maxLen; omega) (by omega) (Nat.le_refl _) ?_; intro A3 c3 w3 hown3 hg3 hb3; simp only [Nat.zero_add, List.nil_append] at hown3)
   | (at_builtin; refine wpList_app rfl (.tmp 18) (.tmp 19) rfl EFw rfl rfl hown3 (m := fs.length) (news := rc Fw.cells fs) HL2.out (HS2.out _ (since_step hb hb3)) (rc_one Fw.one _) (by unfold maxLen; omega) (by omega) hb3.size ?_; intro A4 c4 w4 hown4 hg4 hb4)
   | fail)
  have hBa := since_step hb (hb3.trans hb4)
  rw [HALL.out, ← HAL.out] at hown4
  have hsa := Sl.of_own hown4
  rw [← HAL.out]
  clear hown3 hg3 hb3 hg4 hb4 hb hs1
  refine (HUN.out _ _ _ hsa).mono ?_
  rintro e W0 ⟨⟨A5, c5, rfl, own5⟩, hb5⟩
  have hB0 := since_step hBa hb5
  have hsa := hsa.below hb5
  have hsu := Sl.of_own own5
  clear own5 hb5 hown4 hBa HUN
  clear HIS HS1 HS2 HL1 HL2 HALL HAL
  go_wp2_with fail
  go_loopw [7, 9] (fun ov iv wr => ∃ (i : Nat) (A' : Option Addr) (c' : Nat), i ≤ us.length ∧ iv = .int .i64 i ∧ ov = .slice A' (outU all (us.take i)).length c' ∧ wr.ownsRow W0.heap.size 50 3 (.slice A' (outU all (us.take i)).length c') (outU all (us.take i)).length (rc Fw.cells (outU all (us.take i))) ∧ (∀ j, (hj : j < us.length) → j < i → In64 (sumU all us[j].ac us[j].cl)) ∧ Below W0.heap.size W0 wr) (fun _ iv _ => us.length - (intOf iv).toNat)
  case atStart => exact ⟨0, none, 0, by omega, rfl, rfl, own_nil _ _ _, fun j hj h => absurd h (by omega), Below.refl _ _⟩
  case round =>
   obtain ⟨i, A', c', hi, rfl, rfl, hO, hft, hBz⟩ := hrel
   have HFT := Lib.hid hft
   clear hft
   by_cases hlt : i < us.length
   ·obtain ⟨b5, o5, rfl, hb5w, hg5⟩ := hsu.un hlt
    have hik : (i : Int) < (us.length : Int) := by omega
    have hi0 : (0 : Int) ≤ (i : Int) := by omega
    have his : IntKind.i64.wrap ((i : Int) + 1) = (i : Int) + 1 := IntWalk.i64_in _ (by omega)
    have hOS := outU_snoc all us i hlt
    have hol : (outU all (us.take i)).length ≤ 100000 := by have := outU_len all (us.take i); rw [List.length_take] at this; omega
    obtain ⟨O, hOe⟩ : ∃ O, outU all (us.take i) = O := ⟨_, rfl⟩
    rw [hOe] at hO hOS hol ⊢
    have HFNX : Hid (In64 (sumU all us[i].ac us[i].cl) → ∀ j, (hj : j < us.length) → j < i + 1 → In64 (sumU all us[j].ac us[j].cl)) := Lib.hid fun h j hj hji => by
     rcases Nat.lt_or_ge j i with h1 | h1
     ·exact HFT.out j hj h1
     ·obtain rfl : j = i := by omega
      exact h
    have HFB : Hid (¬ In64 (sumU all us[i].ac us[i].cl) → fitsU all = false) := Lib.hid fun h => by
     have e := HUS.out
     subst e
     exact fitsU_no hlt h
    have HGU : Hid (∀ V, Below W0.heap.size W0 V → us[i].at V b5 (o5 + i * 2)) := Lib.hid fun V hV => Un.at_keep hg5 fun q => hV.cell (p := ⟨b5, q, none⟩) hb5w
    have HNX : Hid (∀ kb, (Value.slice A' O.length c').ownBlock = some kb → kb < wr.heap.size) := Lib.hid fun kb hkb => by
     rcases hO.2 with ⟨hv, _⟩ | ⟨g', cap', cur, hv, _, hh, _⟩
     ·rw [hv] at hkb; cases hkb
     ·rw [hv] at hkb
      simp only [Value.ownBlock, Option.some.injEq] at hkb
      subst hkb
      exact (Array.getElem?_eq_some_iff.1 hh).1
    clear hOe hg5
    generalize us[i] = u at *
    obtain ⟨ua, uc⟩ := u
    unfold Un.at at HGU
    simp only at HGU HFNX HFB hOS
    have HOSX := Lib.hid hOS
    clear hOS
    generalize wr = W at *
    have hW0W := hBz.size
    have HSA := Lib.hid (fun V (h : Below W.heap.size W V) => hsa.below (hBz.trans (h.mono hW0W)))
    have HGW : Hid (∀ V, Below W.heap.size W V → V.cell? ⟨b5, o5 + i * 2, none⟩ = some (.int .i64 ua) ∧ V.cell? ⟨b5, o5 + i * 2 + 1, none⟩ = some (.int .i64 uc)) := Lib.hid fun V h => HGU.out V (hBz.trans (h.mono hW0W))
    go_wp2_with fail
    go_loopw [11] (fun kv wi => ∃ (k : Nat) (s6 : Bool) (A6 : Option Addr) (n6 c6 : Nat), k ≤ all.length ∧ kv = .int .i64 k ∧ BX (W.heap.size + 1) wi W.heap.size s6 A6 n6 c6 (sumU (all.take k) ua uc) ∧ Below W.heap.size W wi) (fun kv _ => all.length - (intOf kv).toNat)
    case atStart => exact ⟨0, false, none, 0, 0, by omega, rfl, BX.new (by omega) _, since_alloc (Below.refl _ _) _⟩
    case round =>
     obtain ⟨k, s6, A6, n6, c6, hk, rfl, X6, hBi⟩ := hrel
     by_cases hkl : k < all.length
     ·obtain ⟨b, o, rfl, hbw, hg⟩ := (HSA.out _ (Below.refl _ _)).fw hkl
      have hlk : (k : Int) < (all.length : Int) := by omega
      have hge : (0 : Int) ≤ (k : Int) := by omega
      have hks : IntKind.i64.wrap ((k : Int) + 1) = (k : Int) + 1 := IntWalk.i64_in _ (by omega)
      have hN := sumU_take all ua uc k hkl
      have hvq := (HIN.out _ (List.getElem_mem hkl)).2.2
      have H128 := Lib.hid (sumU_128 (fun x hx => HIN.out x (List.mem_of_mem_take hx)) (by rw [List.length_take]; omega) ua uc : In128 (sumU (all.take k) ua uc))
      obtain ⟨v, hv⟩ : ∃ v, all[k] = v := ⟨_, rfl⟩
      rw [hv] at hN hvq hg
      clear hv
      obtain ⟨va, vc, vq⟩ := v
      simp only at hN hvq
      have HG : Hid (∀ V, Below W.heap.size W V → Fw.at ⟨va, vc, vq⟩ V b (o + k * 3) ∧ V.cell? ⟨b5, o5 + i * 2, none⟩ = some (.int .i64 ua) ∧ V.cell? ⟨b5, o5 + i * 2 + 1, none⟩ = some (.int .i64 uc)) := Lib.hid fun V hV => ⟨Fw.at_keep (w := W) hg fun i => hV.cell (p := ⟨b, i, none⟩) hbw, HGW.out V hV⟩
      unfold Fw.at at HG
      simp only at HG
      obtain ⟨y, hy⟩ : ∃ y, sumU (all.take k) ua uc = y := ⟨_, rfl⟩
      rw [hy] at hN X6 H128
      have HV64 := Lib.hid hvq
      have HQ := Lib.hid (fun W => bof_any vq W hvq)
      have HNN := Lib.hid hN
      have X6d := X6.drew
      clear hy hg hvq hN
      by_cases h1 : va = ua
      ·subst h1
       by_cases h2 : vc = uc
       ·subst h2
        have HE : Hid (sumU (all.take (k + 1)) va vc = y + vq) := Lib.hid (by rw [HNN.out, show unF va vc ⟨va, vc, vq⟩ = true from (unF_iff _ _ _).2 ⟨rfl, rfl⟩, if_pos rfl])
        clear HNN
        go_wp2_with fail
        refine wp_region_held_drew (S := (fun V => Below W.heap.size W V)) (by kernel_rfl) (by exact hBi.drew) (fun hHeld => ?_)
        refine tkI 0 36 rfl (by intro w hSw; obtain ⟨⟨g0, g1, g2⟩, p0, p1⟩ := HG.out _ hSw; go_simp <;> with_reducible rfl) hHeld ?_; simp only [pqZ]
        refine tkI 1 37 rfl (by intro w hSw; obtain ⟨⟨g0, g1, g2⟩, p0, p1⟩ := HG.out _ hSw; go_simp <;> with_reducible rfl) hHeld ?_; simp only [pqZ]
        refine tkI 2 38 rfl (by intro w hSw; obtain ⟨⟨g0, g1, g2⟩, p0, p1⟩ := HG.out _ hSw; go_simp <;> with_reducible rfl) hHeld ?_; simp only [pqZ]
        refine tkI 3 39 rfl (by intro w hSw; obtain ⟨⟨g0, g1, g2⟩, p0, p1⟩ := HG.out _ hSw; go_simp <;> with_reducible rfl) hHeld ?_; simp only [pqZ]
        refine tkI 4 40 rfl (by intro w hSw; obtain ⟨⟨g0, g1, g2⟩, p0, p1⟩ := HG.out _ hSw; go_simp <;> with_reducible rfl) hHeld ?_; simp only [pqZ]
        refine tkI 5 41 rfl (by intro w hSw; obtain ⟨⟨g0, g1, g2⟩, p0, p1⟩ := HG.out _ hSw; go_simp <;> with_reducible rfl) hHeld ?_; simp only [pqZ]
        refine tkI 6 42 rfl (by intro w hSw; obtain ⟨⟨g0, g1, g2⟩, p0, p1⟩ := HG.out _ hSw; go_simp <;> with_reducible rfl) hHeld ?_; simp only [pqZ]
        refine tkI 7 43 rfl (by intro w hSw; obtain ⟨⟨g0, g1, g2⟩, p0, p1⟩ := HG.out _ hSw; go_simp <;> with_reducible rfl) hHeld ?_; simp only [pqZ]
        refine tkI 8 44 rfl (by intro w hSw; obtain ⟨⟨g0, g1, g2⟩, p0, p1⟩ := HG.out _ hSw; go_simp <;> with_reducible rfl) hHeld ?_; simp only [pqZ]
        refine tkI 9 45 rfl (by intro w hSw; obtain ⟨⟨g0, g1, g2⟩, p0, p1⟩ := HG.out _ hSw; go_simp <;> with_reducible rfl) hHeld ?_; simp only [pqZ]
        refine wpAnyH_done (by kernel_rfl) ?_ _
        have hHeld0 := hHeld
        generalize hwx : wr.drew = wx at *
        clear hwx hHeld hBi X6
        have X6 := X6d.drew
        clear X6d
        go_wp2_with fail
        refine wp_region_held_drew (S := (fun V => Below W.heap.size W V)) (by kernel_rfl) (by exact hHeld0.drew) (fun hHeld => ?_)
        refine tkI 1 47 rfl (by intro w hSw; obtain ⟨⟨g0, g1, g2⟩, p0, p1⟩ := HG.out _ hSw; go_simp <;> with_reducible rfl) hHeld ?_; simp only [pqZ]
        refine tkI 2 48 rfl (by intro w hSw; obtain ⟨⟨g0, g1, g2⟩, p0, p1⟩ := HG.out _ hSw; go_simp <;> with_reducible rfl) hHeld ?_; simp only [pqZ]
        refine tkI 3 49 rfl (by intro w hSw; obtain ⟨⟨g0, g1, g2⟩, p0, p1⟩ := HG.out _ hSw; go_simp <;> with_reducible rfl) hHeld ?_; simp only [pqZ]
        refine tkI 4 50 rfl (by intro w hSw; obtain ⟨⟨g0, g1, g2⟩, p0, p1⟩ := HG.out _ hSw; go_simp <;> with_reducible rfl) hHeld ?_; simp only [pqZ]
        refine tkI 5 51 rfl (by intro w hSw; obtain ⟨⟨g0, g1, g2⟩, p0, p1⟩ := HG.out _ hSw; go_simp <;> with_reducible rfl) hHeld ?_; simp only [pqZ]
        refine wpAnyH_ready (rs := [0, 6]) (by kernel_rfl) (by simp) ?_
        refine AllReadyH.cons (o := ⟨some 46, _, _, _, _, _⟩) rfl (fun K hK => ?_) (AllReadyH.cons (o := ⟨some 52, _, _, _, _, _⟩) rfl (fun K hK => ?_) AllReadyH.nil)
        ·have hHd := hHeld
         obtain ⟨⟨g0, g1, g2⟩, p0, p1⟩ := HG.out _ hHd
         obtain ⟨b1, b2, b3, b4, b5⟩ := id X6.bb
         have hKeep := hHeld
         go_simp
         refine hK.out _ _ (by (try dsimp only); exact hKeep) (fun hHeld => ?_); clear hK K hKeep; try simp only [pqZ]
         refine rdZ 6 52 rfl (by kernel_rfl) (fun K hK => ?_)
         go_simp
         refine (HQ.out _).mono ?_
         rintro e u1 ⟨⟨s1, A1, m1, k1, rfl, hf1, Y1⟩, hk1⟩
         have hKeep := since_step hHeld hk1
         have L1 := Y1.l64_RInt HV64.out
         have X6 := X6.below hk1
         go_wp2_with fail
         refine hK.out _ _ (by (try dsimp only); exact hKeep) (fun hHeld => ?_); clear hK K hKeep; try simp only [pqZ]
         refine rdZ 7 53 rfl (by kernel_rfl) (fun K hK => ?_)
         go_simp
         have L6 := X6.at_.l128 H128.out
         have hgu := X6.bb.1
         refine (badd' (by omega) (by omega) X6.at_ Y1).mono ?_
         rintro e u2 ⟨⟨s2, A2, m2, k2, rfl, hf2, Y2⟩, hk2⟩
         have hKeep := since_step hHeld hk2
         have X6 := X6.below hk2
         go_wp2_with fail
         refine hK.out _ _ (by (try dsimp only); exact hKeep) (fun hHeld => ?_); clear hK K hKeep; try simp only [pqZ]
         refine wpAnyH_ready (rs := [8]) (by kernel_rfl) (by simp) ?_
         refine AllReadyH.cons (o := ⟨none, _, _, _, _, _⟩) rfl (fun K hK => ?_) AllReadyH.nil
         have hHd := hHeld
         obtain ⟨⟨g0, g1, g2⟩, p0, p1⟩ := HG.out _ hHd
         have hF : Fr (W.heap.size + 1) A2 m2 := hf2.le hgu (Nat.le_refl _)
         have X6n := X6.put Y2 hF
         obtain ⟨b1, b2, b3, b4, b5⟩ := id X6.bb
         have hKeep := Below.setCell (Below.setCell hHeld (p := ⟨W.heap.size, 0, none⟩) (Nat.le_refl _) (.bool s2)) (p := ⟨W.heap.size, 1, none⟩) (Nat.le_refl _) (.slice A2 m2 k2)
         skip
         go_simp
         refine hK.out _ _ (by (try dsimp only); exact hKeep) (fun hHeld => ?_); clear hK K hKeep; try simp only [pqZ]
         refine wpAnyH_done (by kernel_rfl) ?_ _
         generalize hFW : ((u2.setCell ⟨W.heap.size, 0, none⟩ (.bool s2)).setCell ⟨W.heap.size, 1, none⟩ (.slice A2 m2 k2)) = FW at *
         go_wp2_with fail
         go_roundw
         case rel => exact ⟨k + 1, s2, A2, m2, k2, by omega, by go_num, by rw [HE.out]; exact X6n, hHeld⟩
         case measure => simp [intOf]; omega
        ·go_simp
         refine (HQ.out _).mono ?_
         rintro e u1 ⟨⟨s1, A1, m1, k1, rfl, hf1, Y1⟩, hk1⟩
         have hKeep := since_step hHeld hk1
         have L1 := Y1.l64_RInt HV64.out
         have X6 := X6.below hk1
         go_wp2_with fail
         refine hK.out _ _ (by (try dsimp only); exact hKeep) (fun hHeld => ?_); clear hK K hKeep; try simp only [pqZ]
         refine rdZ 0 46 rfl (by kernel_rfl) (fun K hK => ?_)
         have hHd := hHeld
         obtain ⟨⟨g0, g1, g2⟩, p0, p1⟩ := HG.out _ hHd
         obtain ⟨b1, b2, b3, b4, b5⟩ := id X6.bb
         have hKeep := hHeld
         go_simp
         refine hK.out _ _ (by (try dsimp only); exact hKeep) (fun hHeld => ?_); clear hK K hKeep; try simp only [pqZ]
         refine rdZ 7 53 rfl (by kernel_rfl) (fun K hK => ?_)
         go_simp
         have L6 := X6.at_.l128 H128.out
         have hgu := X6.bb.1
         refine (badd' (by omega) (by omega) X6.at_ Y1).mono ?_
         rintro e u2 ⟨⟨s2, A2, m2, k2, rfl, hf2, Y2⟩, hk2⟩
         have hKeep := since_step hHeld hk2
         have X6 := X6.below hk2
         go_wp2_with fail
         refine hK.out _ _ (by (try dsimp only); exact hKeep) (fun hHeld => ?_); clear hK K hKeep; try simp only [pqZ]
         refine wpAnyH_ready (rs := [8]) (by kernel_rfl) (by simp) ?_
         refine AllReadyH.cons (o := ⟨none, _, _, _, _, _⟩) rfl (fun K hK => ?_) AllReadyH.nil
         have hHd := hHeld
         obtain ⟨⟨g0, g1, g2⟩, p0, p1⟩ := HG.out _ hHd
         have hF : Fr (W.heap.size + 1) A2 m2 := hf2.le hgu (Nat.le_refl _)
         have X6n := X6.put Y2 hF
         obtain ⟨b1, b2, b3, b4, b5⟩ := id X6.bb
         have hKeep := Below.setCell (Below.setCell hHeld (p := ⟨W.heap.size, 0, none⟩) (Nat.le_refl _) (.bool s2)) (p := ⟨W.heap.size, 1, none⟩) (Nat.le_refl _) (.slice A2 m2 k2)
         skip
         go_simp
         refine hK.out _ _ (by (try dsimp only); exact hKeep) (fun hHeld => ?_); clear hK K hKeep; try simp only [pqZ]
         refine wpAnyH_done (by kernel_rfl) ?_ _
         generalize hFW : ((u2.setCell ⟨W.heap.size, 0, none⟩ (.bool s2)).setCell ⟨W.heap.size, 1, none⟩ (.slice A2 m2 k2)) = FW at *
         go_wp2_with fail
         go_roundw
         case rel => exact ⟨k + 1, s2, A2, m2, k2, by omega, by go_num, by rw [HE.out]; exact X6n, hHeld⟩
         case measure => simp [intOf]; omega
       ·have HE : Hid (sumU (all.take (k + 1)) va uc = y) := Lib.hid (by rw [HNN.out, if_neg (fun h => h2 ((unF_iff _ _ _).1 h).2)]; omega)
        have h2b : (vc == uc) = false := by simpa using h2
        clear HNN h2
        go_wp2_with fail
        refine wp_region_held_drew (S := (fun V => Below W.heap.size W V)) (by kernel_rfl) (by exact hBi.drew) (fun hHeld => ?_)
        refine tkI 0 36 rfl (by intro w hSw; obtain ⟨⟨g0, g1, g2⟩, p0, p1⟩ := HG.out _ hSw; go_simp <;> with_reducible rfl) hHeld ?_; simp only [pqZ]
        refine tkI 1 37 rfl (by intro w hSw; obtain ⟨⟨g0, g1, g2⟩, p0, p1⟩ := HG.out _ hSw; go_simp <;> with_reducible rfl) hHeld ?_; simp only [pqZ]
        refine tkI 2 38 rfl (by intro w hSw; obtain ⟨⟨g0, g1, g2⟩, p0, p1⟩ := HG.out _ hSw; go_simp <;> with_reducible rfl) hHeld ?_; simp only [pqZ]
        refine tkI 3 39 rfl (by intro w hSw; obtain ⟨⟨g0, g1, g2⟩, p0, p1⟩ := HG.out _ hSw; go_simp <;> with_reducible rfl) hHeld ?_; simp only [pqZ]
        refine tkI 4 40 rfl (by intro w hSw; obtain ⟨⟨g0, g1, g2⟩, p0, p1⟩ := HG.out _ hSw; go_simp <;> with_reducible rfl) hHeld ?_; simp only [pqZ]
        refine tkI 5 41 rfl (by intro w hSw; obtain ⟨⟨g0, g1, g2⟩, p0, p1⟩ := HG.out _ hSw; go_simp <;> with_reducible rfl) hHeld ?_; simp only [pqZ]
        refine tkI 6 42 rfl (by intro w hSw; obtain ⟨⟨g0, g1, g2⟩, p0, p1⟩ := HG.out _ hSw; go_simp <;> with_reducible rfl) hHeld ?_; simp only [pqZ]
        refine tkI 7 43 rfl (by intro w hSw; obtain ⟨⟨g0, g1, g2⟩, p0, p1⟩ := HG.out _ hSw; go_simp <;> with_reducible rfl) hHeld ?_; simp only [pqZ]
        refine tkI 8 44 rfl (by intro w hSw; obtain ⟨⟨g0, g1, g2⟩, p0, p1⟩ := HG.out _ hSw; go_simp <;> with_reducible rfl) hHeld ?_; simp only [pqZ]
        refine tkI 9 45 rfl (by intro w hSw; obtain ⟨⟨g0, g1, g2⟩, p0, p1⟩ := HG.out _ hSw; go_simp <;> with_reducible rfl) hHeld ?_; simp only [pqZ]
        refine wpAnyH_done (by kernel_rfl) ?_ _
        generalize hwx : wr.drew = wx at *
        clear hwx
        go_wp2_with fail
        go_roundw
        case rel => exact ⟨k + 1, s6, A6, n6, c6, by omega, by go_num, by rw [HE.out]; exact X6d, hHeld⟩
        case measure => simp [intOf]; omega
      ·have HE : Hid (sumU (all.take (k + 1)) ua uc = y) := Lib.hid (by rw [HNN.out, if_neg (fun h => h1 ((unF_iff _ _ _).1 h).1)]; omega)
       have h1b : (va == ua) = false := by simpa using h1
       clear HNN h1
       go_wp2_with fail
       refine wp_region_held_drew (S := (fun V => Below W.heap.size W V)) (by kernel_rfl) (by exact hBi.drew) (fun hHeld => ?_)
       refine tkI 0 36 rfl (by intro w hSw; obtain ⟨⟨g0, g1, g2⟩, p0, p1⟩ := HG.out _ hSw; go_simp <;> with_reducible rfl) hHeld ?_; simp only [pqZ]
       refine tkI 1 37 rfl (by intro w hSw; obtain ⟨⟨g0, g1, g2⟩, p0, p1⟩ := HG.out _ hSw; go_simp <;> with_reducible rfl) hHeld ?_; simp only [pqZ]
       refine tkI 2 38 rfl (by intro w hSw; obtain ⟨⟨g0, g1, g2⟩, p0, p1⟩ := HG.out _ hSw; go_simp <;> with_reducible rfl) hHeld ?_; simp only [pqZ]
       refine tkI 3 39 rfl (by intro w hSw; obtain ⟨⟨g0, g1, g2⟩, p0, p1⟩ := HG.out _ hSw; go_simp <;> with_reducible rfl) hHeld ?_; simp only [pqZ]
       refine tkI 4 40 rfl (by intro w hSw; obtain ⟨⟨g0, g1, g2⟩, p0, p1⟩ := HG.out _ hSw; go_simp <;> with_reducible rfl) hHeld ?_; simp only [pqZ]
       refine tkI 5 41 rfl (by intro w hSw; obtain ⟨⟨g0, g1, g2⟩, p0, p1⟩ := HG.out _ hSw; go_simp <;> with_reducible rfl) hHeld ?_; simp only [pqZ]
       refine tkI 6 42 rfl (by intro w hSw; obtain ⟨⟨g0, g1, g2⟩, p0, p1⟩ := HG.out _ hSw; go_simp <;> with_reducible rfl) hHeld ?_; simp only [pqZ]
       refine tkI 7 43 rfl (by intro w hSw; obtain ⟨⟨g0, g1, g2⟩, p0, p1⟩ := HG.out _ hSw; go_simp <;> with_reducible rfl) hHeld ?_; simp only [pqZ]
       refine tkI 8 44 rfl (by intro w hSw; obtain ⟨⟨g0, g1, g2⟩, p0, p1⟩ := HG.out _ hSw; go_simp <;> with_reducible rfl) hHeld ?_; simp only [pqZ]
       refine tkI 9 45 rfl (by intro w hSw; obtain ⟨⟨g0, g1, g2⟩, p0, p1⟩ := HG.out _ hSw; go_simp <;> with_reducible rfl) hHeld ?_; simp only [pqZ]
       refine wpAnyH_done (by kernel_rfl) ?_ _
       generalize hwx : wr.drew = wx at *
       clear hwx
       go_wp2_with fail
       go_roundw
       case rel => exact ⟨k + 1, s6, A6, n6, c6, by omega, by go_num, by rw [HE.out]; exact X6d, hHeld⟩
       case measure => simp [intOf]; omega
     ·obtain rfl : k = all.length := by omega
      rw [List.take_length] at X6
      obtain ⟨z, hz⟩ : ∃ z, sumU all ua uc = z := ⟨_, rfl⟩
      have hz128 := sumU_128 HIN.out (by omega) ua uc
      rw [hz] at X6 HFNX HFB HOSX hz128
      have hn6 := X6.at_.l128 hz128
      have hBz1 := hBz.trans (hBi.mono hW0W)
      have hO1 := own_below hO hBi
      obtain ⟨x1, x2, x3, x4, x5⟩ := id X6.bb
      have HFTS := Lib.hid (fun V h => bfits_any z s6 A6 n6 c6 V (by omega) h)
      clear hz hz128 HSA HGW
      by_cases hin : In64 z
      ·have HFD : Hid (decide (inN z 63) = true) := Lib.hid (decide_eq_true ((in64_iff _).2 hin))
       have HINT := Lib.hid (fun V h => rint_any z hin s6 A6 n6 c6 V h)
       have HFN := Lib.hid (HFNX.out hin)
       clear hin
       go_wp2_with fail
       refine (HFTS.out _ X6.at_).mono ?_
       rw [HFD.out]
       rintro e u3 ⟨rfl, hk3⟩
       have X6 := X6.below hk3
       have hBz2 := since_step hBz1 hk3
       have hO2 := own_below hO1 hk3
       clear hk3 hBz1 hO1 x1 x2 x3 x4 x5
       obtain ⟨x1, x2, x3, x4, x5⟩ := id X6.bb
       go_wp2_with fail
       refine (HINT.out _ X6.at_).mono ?_
       rintro e u4 ⟨rfl, hk4⟩
       have X6 := X6.below hk4
       have hBz3 := since_step hBz2 hk4
       have hO3 := own_below hO2 hk4
       clear hk4 hBz2 hO2 x1 x2 x3 x4 x5
       by_cases hz0 : z = 0
       ·have hz0b : (z != 0) = false := by simpa using hz0
        have HOS : Hid (outU all (us.take (i + 1)) = O) := Lib.hid (by rw [HOSX.out, if_pos hz0]; simp)
        clear hz0
        go_wp2_with fail
        go_roundw
        case rel => exact ⟨i + 1, A', c', by omega, by go_num, by rw [HOS.out], by rw [HOS.out]; exact hO3, HFN.out, hBz3⟩
        case measure => simp [intOf]; omega
       ·have hz0b : (z != 0) = true := by simpa using hz0
        have HOS : Hid (outU all (us.take (i + 1)) = O ++ [⟨ua, uc, z⟩]) := Lib.hid (by rw [HOSX.out, if_neg hz0])
        have HNE : Hid (some W.heap.size ≠ (Value.slice A' O.length c').ownBlock) := Lib.hid fun h => by have := HNX.out _ h.symm; omega
        clear hz0
        have hO2 := hO3.drew
        have hBz := hBz3
        generalize W.heap.size = gb at *
        go_wp2_with fail
        refine wp_region_held_drew (S := (fun V => Below W0.heap.size W0 V ∧ BB V gb s6 A6 n6 c6)) (by kernel_rfl) (by exact ⟨hBz.drew, X6.bb.drew⟩) (fun hHeld => ?_)
        refine tkI 0 60 rfl (by intro w hSw; obtain ⟨g0, g1⟩ := HGU.out _ (hSw).1; obtain ⟨b1, b2, b3, b4, b5⟩ := id (hSw).2; go_simp <;> with_reducible rfl) hHeld ?_; simp only [pqZ]
        refine tkI 1 61 rfl (by intro w hSw; obtain ⟨g0, g1⟩ := HGU.out _ (hSw).1; obtain ⟨b1, b2, b3, b4, b5⟩ := id (hSw).2; go_simp <;> with_reducible rfl) hHeld ?_; simp only [pqZ]
        refine tkI 2 62 rfl (by intro w hSw; obtain ⟨g0, g1⟩ := HGU.out _ (hSw).1; obtain ⟨b1, b2, b3, b4, b5⟩ := id (hSw).2; go_simp <;> with_reducible rfl) hHeld ?_; simp only [pqZ]
        refine tkI 3 63 rfl (by intro w hSw; obtain ⟨g0, g1⟩ := HGU.out _ (hSw).1; obtain ⟨b1, b2, b3, b4, b5⟩ := id (hSw).2; go_simp <;> with_reducible rfl) hHeld ?_; simp only [pqZ]
        refine tkI 4 64 rfl (by intro w hSw; obtain ⟨g0, g1⟩ := HGU.out _ (hSw).1; obtain ⟨b1, b2, b3, b4, b5⟩ := id (hSw).2; go_simp <;> with_reducible rfl) hHeld ?_; simp only [pqZ]
        refine tkI 5 65 rfl (by intro w hSw; obtain ⟨g0, g1⟩ := HGU.out _ (hSw).1; obtain ⟨b1, b2, b3, b4, b5⟩ := id (hSw).2; go_simp <;> with_reducible rfl) hHeld ?_; simp only [pqZ]
        refine rdZ 6 66 rfl (by kernel_rfl) (fun K hK => ?_)
        go_simp
        refine (HINT.out _ X6.at_.drew).mono ?_
        rintro e u1 ⟨rfl, hk1⟩
        have hKeep : Below W0.heap.size W0 u1 ∧ BB u1 gb s6 A6 n6 c6 := ⟨since_step hHeld.1 hk1, hHeld.2.below hk1⟩
        go_wp2_with fail
        refine hK.out _ _ (by (try dsimp only); exact hKeep) (fun hHeld => ?_); clear hK K hKeep; try simp only [pqZ]
        refine tkI 7 67 rfl (by intro w hSw; obtain ⟨g0, g1⟩ := HGU.out _ (hSw).1; obtain ⟨b1, b2, b3, b4, b5⟩ := id (hSw).2; go_simp <;> with_reducible rfl) hHeld ?_; simp only [pqZ]
        refine rdZ 8 68 rfl (by kernel_rfl) (fun K hK => ?_)
        have hHd := hHeld
        obtain ⟨g0, g1⟩ := HGU.out _ (hHd).1; obtain ⟨b1, b2, b3, b4, b5⟩ := id (hHd).2
        have hKeep : Below W0.heap.size W0 (u1.alloc (.cells #[.int .i64 ua, .int .i64 uc, .int .i64 z] 50)) ∧ BB (u1.alloc (.cells #[.int .i64 ua, .int .i64 uc, .int .i64 z] 50)) gb s6 A6 n6 c6 := ⟨since_alloc hHeld.1 (.cells #[.int .i64 ua, .int .i64 uc, .int .i64 z] 50), hHeld.2.alloc (.cells #[.int .i64 ua, .int .i64 uc, .int .i64 z] 50)⟩
        have HSN := Sl.new_ u1 [.int .i64 ua, .int .i64 uc, .int .i64 z] 50
        skip
        go_simp
        refine hK.out _ _ (by (try dsimp only); exact hKeep) (fun hHeld => ?_); clear hK K hKeep; try simp only [pqZ]
        refine rdZ 9 69 rfl (by kernel_rfl) (fun K hK => ?_)
        refine step_app rfl (.tmp 60) (.tmp 68) rfl EFw rfl rfl ((own_below hO2 hk1).alloc (.cells #[.int .i64 ua, .int .i64 uc, .int .i64 z] 50)) (m := 1) (news := [.int .i64 ua, .int .i64 uc, .int .i64 z]) rfl HSN (Fw.one ⟨ua, uc, z⟩) (by unfold maxLen; omega) (by omega) hHeld.1.size ?_
        intro A4 c4 w4 hown4 hg4 hb4
        have hKeep : Below W0.heap.size W0 w4 ∧ BB w4 gb s6 A6 n6 c6 := ⟨hHeld.1.trans hb4, hHeld.2.grown hg4 HNE.out⟩
        refine hK.out _ _ (by (try dsimp only); exact hKeep) (fun hHeld => ?_); clear hK K hKeep; try simp only [pqZ]
        refine tkI 10 7 rfl (by intro w hSw; obtain ⟨g0, g1⟩ := HGU.out _ (hSw).1; obtain ⟨b1, b2, b3, b4, b5⟩ := id (hSw).2; go_simp <;> with_reducible rfl) hHeld ?_; simp only [pqZ]
        refine wpAnyH_done (by kernel_rfl) ?_ _
        have hHW := hHeld.1
        clear hHeld
        go_wp2_with fail
        go_roundw
        case rel =>
         refine ⟨i + 1, A4, c4, by omega, by go_num, ?_, ?_, ?_, hHW⟩
         ·rw [HOS.out, List.length_append]; rfl
         ·rw [HOS.out, rc_append, List.length_append]
          simpa [rc, Fw.cells] using hown4
         ·exact HFN.out
        case measure => simp [intOf]; omega
      ·have HFD : Hid (decide (inN z 63) = false) := Lib.hid (decide_eq_false fun h => hin ((in64_iff _).1 h))
       have HRR : Hid (RES = (7, [])) := Lib.hid (by rw [HR.out, if_pos (HFB.out hin)])
       clear hin
       go_wp2_with fail
       refine (HFTS.out _ X6.at_).mono ?_
       rw [HFD.out]
       rintro e u3 ⟨rfl, hk3⟩
       have hBf := since_step hB0 (since_step hBz1 hk3)
       go_wp2_with fail
       go_ret2
       rw [HRR.out]
       exact ⟨PRes.nil _ _, hBf⟩
   ·obtain rfl : i = us.length := by omega
    rw [List.take_length] at hO ⊢
    have HRR : Hid (RES = (0, outU all us)) := Lib.hid (by
     have e := HUS.out
     subst e
     have hf := fitsU_of (all := all) fun j hj => HFT.out j hj hj
     rw [HR.out, hf, if_neg (by decide)]; rfl)
    have hBf := since_step hB0 hBz
    go_wp2_with fail
    go_ret2
    rw [HRR.out]
    exact ⟨⟨A', c', rfl, Sl.of_own hO⟩, hBf⟩
end
end Go.Proofs.YtmjndpkfhdoljaaGreat
