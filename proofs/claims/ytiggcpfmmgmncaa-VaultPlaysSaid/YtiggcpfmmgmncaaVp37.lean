import Derived.Test.YtiggcpfmmgmncaaVp36
set_option maxHeartbeats 16000000
set_option maxRecDepth 100000
set_option linter.unusedVariables false
set_option linter.unusedSimpArgs false
namespace Go.Proofs.Ytiggcpfmmgmncaa
open Go.ChangeShapes Go.WideShapes Go.ChangeAt Go.RowKit
section
theorem Dv.write_len {d : Dv} {p : Int} {cs : List (List Nat)} : (d.write p cs).1.S.length = d.S.length := by
  unfold Dv.write
  split
  · split
    · split
      · rfl
      · exact putK_len _
    · rfl
  · rfl
theorem Dv.save_len {d : Dv} {p each : Nat} {life era : Int} {b : List Nat} : (d.save p each life era b).1.S.length = d.S.length := by
  unfold Dv.save
  split
  · rfl
  · split
    · rfl
    · split
      · rfl
      · exact Dv.write_len
def Vv.comp (x : Vv) (d : Dv) (l : List Nat) : (Vv × Dv) × Int :=
  if 16777214 ≤ x.life then ((x, d), 10)
  else if (d.save 0 x.each x.life (x.era + 1) l).2 ≠ 0 then ((x, (d.save 0 x.each x.life (x.era + 1) l).1), (d.save 0 x.each x.life (x.era + 1) l).2)
  else (({ x with life := x.life + 1, era := x.era + 1, state := l, sc := openS (d.save 0 x.each x.life (x.era + 1) l).1.S x.each (x.life + 1) (x.era + 1) }, (d.save 0 x.each x.life (x.era + 1) l).1), 0)
def Vv.compact (x : Vv) (d : Dv) (l : List Nat) : (Vv × Dv) × Int :=
  if x.dead = true ∨ d.on = false then ((x, d), 9)
  else (({ (x.comp d l).1.1 with dead := (x.comp d l).2 == 9 }, (x.comp d l).1.2), (x.comp d l).2)
theorem vcomp_any {B v h s b c k g kc : Nat} {A SA K : Option Addr} {R : List (RowS Nat)} {x : Vv} {d : Dv} (rA : Option Addr) (rc_ : Nat) (l : List Nat) (w : World) (hv : VaA B w v h s b A c R SA k x) (hd : DrA B w b g K kc d) (hB : B ≤ w.heap.size) (hlc : l.length ≤ rc_) (hcm : rc_ ≤ maxLen) (hl : l.length ≤ 100000) (hrs : SlF w b g rA (by8 l)) (ho : Oct l) (he : 1 ≤ x.each) (h2e : 2 * x.each ≤ d.S.length) (hera : x.era + 1 ≤ 16777215) (hnew : (d.save 0 x.each x.life (x.era + 1) l).2 = 0 → newestN (d.save 0 x.each x.life (x.era + 1) l).1.S (2 * x.each) ((d.save 0 x.each x.life (x.era + 1) l).1.S.length - 2 * x.each) < x.life + 1) :
    Calls Try.prog 74 #[.pointer (some ⟨h, 0, none⟩), .slice rA l.length rc_] w fun e w' => e = .returned (.int .i64 (x.comp d l).2) ∧ ∃ s2 A' c' R' SA' k', VaA B w' v h s2 b A' c' R' SA' k' (x.comp d l).1.1 ∧ DrA B w' b g K kc (x.comp d l).1.2 ∧ ChgL (blkV b g h s (x.sc.row A c)) w w' ∧ (∀ y ∈ blkV b g h s2 ((x.comp d l).1.1.sc.row A' c'), y ∈ blkV b g h s (x.sc.row A c) ∨ w.heap.size ≤ y) := by
  have hsm := hv.small
  by_cases hf : 16777214 ≤ x.life
  · have e1 : x.comp d l = ((x, d), 10) := if_pos hf
    rw [e1]
    obtain ⟨pv, pvs, p0, p1, p2, p3, p4, p5, p6, phs⟩ := hv.got
    have HVV := Lib.hid hv
    have HDD := Lib.hid hd
    clear hv hd hB hlc hcm hl hrs ho he h2e hera hnew hsm e1
    go_enter Try.func74, Try.ntmps74
    go_wp2_with fail
    go_ret
    exact ⟨rfl, s, A, c, R, SA, k, HVV.out, HDD.out, ChgL.refl _ _, fun y hy => .inl hy⟩
  · have hb0 : Below w.heap.size w w.drew := (Below.refl _ _).drew
    have hlen := hd.len
    have hSV := ssave_any 0 x.each x.life (x.era + 1) rA rc_ l w.drew (hd.below hb0) (by omega) he hlc hcm hl (hrs.below hb0).1 ho
    have hwe : IntKind.i64.wrap (x.era + 1) = x.era + 1 := by rw [IntKind.wrap_i64]; omega
    have hwl : IntKind.i64.wrap (x.life + 1) = x.life + 1 := by rw [IntKind.wrap_i64]; omega
    have hvd := hv.below hb0
    have hdd := hd.below hb0
    have hrd := hrs.below hb0
    have hsl := Dv.save_len (d := d) (p := 0) (each := x.each) (life := x.life) (era := x.era + 1) (b := l)
    by_cases hz : (d.save 0 x.each x.life (x.era + 1) l).2 ≠ 0
    · have e1 : x.comp d l = ((x, (d.save 0 x.each x.life (x.era + 1) l).1), (d.save 0 x.each x.life (x.era + 1) l).2) := by unfold Vv.comp; rw [if_neg hf, if_pos hz]
      rw [e1]
      obtain ⟨D, hD⟩ : ∃ D, d.save 0 x.each x.life (x.era + 1) l = D := ⟨_, rfl⟩
      rw [hD] at hSV hz ⊢
      have hzb : (D.2 != 0) = true := by simpa using hz
      have hfn : ¬ (16777214 : Int) ≤ x.life := hf
      obtain ⟨pv, pvs, p0, p1, p2, p3, p4, p5, p6, phs⟩ := hv.got
      have HSV := Lib.hid hSV
      have HVD := Lib.hid hvd
      have HDD := Lib.hid hdd
      have HB0 := Lib.hid hb0
      obtain ⟨D1, z⟩ := D
      simp only at hzb HSV ⊢
      clear hv hd hB hlc hcm hl hrs ho he h2e hera hnew hsm e1 hD hz hSV hvd hdd hrd hsl hb0 hlen hf
      go_enter Try.func74, Try.ntmps74
      go_wp2_with fail
      go_still_tail 18, (by kernel_rfl)
      change wpList _ _ _ _ _ w.drew
      go_wp2_with fail
      refine HSV.out.mono ?_
      rintro e w2 ⟨rfl, hc2, hd2⟩
      have HV2 := Lib.hid (VaA.chg2 HDD.out HVD.out hc2)
      have HD2 := Lib.hid hd2
      have HC2 : Hid (ChgL (blkV b g h s (x.sc.row A c)) w w2) := Lib.hid ((ChgL.of_below (l := blkV b g h s (x.sc.row A c)) HB0.out).trans (ChgL.of2 (l := blkV b g h s (x.sc.row A c)) hc2 (by simp [blkV, blk8]) (by simp [blkV, blk8])) (fun y hy => .inl hy))
      clear hc2 hd2
      go_wp2_with fail
      go_ret
      exact ⟨rfl, s, A, c, R, SA, k, HV2.out, HD2.out, HC2.out, fun y hy => .inl hy⟩
    · have hz0 : (d.save 0 x.each x.life (x.era + 1) l).2 = 0 := Classical.not_not.1 hz
      have hnw := hnew hz0
      have e1 : x.comp d l = (({ x with life := x.life + 1, era := x.era + 1, state := l, sc := openS (d.save 0 x.each x.life (x.era + 1) l).1.S x.each (x.life + 1) (x.era + 1) }, (d.save 0 x.each x.life (x.era + 1) l).1), 0) := by unfold Vv.comp; rw [if_neg hf, if_neg hz]
      rw [e1]
      obtain ⟨D, hD⟩ : ∃ D, d.save 0 x.each x.life (x.era + 1) l = D := ⟨_, rfl⟩
      rw [hD] at hSV hz0 hnw hsl ⊢
      obtain ⟨D1, z⟩ := D
      simp only at hSV hz0 hnw hsl ⊢
      subst hz0
      have hfn : ¬ (16777214 : Int) ≤ x.life := hf
      obtain ⟨pv, pvs, p0, p1, p2, p3, p4, p5, p6, phs⟩ := hv.got
      have HSV := Lib.hid hSV
      have HVD := Lib.hid hvd
      have HDD := Lib.hid hdd
      have HB0 := Lib.hid hb0
      have HTN := Lib.hid (fun (p0 st : Value) (V : World) (hB2 : B ≤ V.heap.size) (hdV : DrA B V b g K kc D1) (hh : V.heap[h]? = some (.cells (shC p0 b x.each x.life x.era st x.dead) 123 (0, 0))) => vturn_any (x.life + 1) (x.era + 1) V hdV hh hB2 (by omega) (by omega) (by omega) (by omega) hera hnw)
      have HBB := Lib.hid hB
      have HRD := Lib.hid hrd
      have HSM := Lib.hid (show x.each ≤ 1024 ∧ l.length ≤ 100000 ∧ 0 ≤ x.life + 1 ∧ x.life + 1 ≤ 16777215 ∧ 0 ≤ x.era + 1 ∧ x.era + 1 ≤ 16777215 by omega)
      have HVN := Lib.hid (show v ∉ blkV b g h s (x.sc.row A c) from fun hm => by
        rcases List.mem_cons.1 hm with e | hm
        · exact hv.box_v ⟨_, _, _, hv.hb, by decide⟩ e
        · exact off_blk8 hd hv.sc hv.vb (by decide) (by decide) (by decide) (by decide) hm)
      have HVB := Lib.hid hv.vb
      have HVG := Lib.hid hv.ge
      clear hv hd hB hlc hcm hl hrs ho he h2e hera hnew hsm e1 hD hz hSV hvd hdd hrd hsl hb0 hlen hnw hf
      go_enter Try.func74, Try.ntmps74
      go_wp2_with fail
      go_still_tail 18, (by kernel_rfl)
      change wpList _ _ _ _ _ w.drew
      go_wp2_with fail
      refine HSV.out.mono ?_
      rintro e w2 ⟨rfl, hc2, hd2⟩
      have hC2 : ChgL (blkV b g h s (x.sc.row A c)) w w2 := (ChgL.of_below (l := blkV b g h s (x.sc.row A c)) HB0.out).trans (ChgL.of2 (l := blkV b g h s (x.sc.row A c)) hc2 (by simp [blkV, blk8]) (by simp [blkV, blk8])) (fun y hy => .inl hy)
      have HC2 := Lib.hid hC2
      have HV2 := Lib.hid (VaA.chg2 HDD.out HVD.out hc2)
      have HD2 := Lib.hid hd2
      have HCL := Lib.hid (clone8_any rA rc_ l w2 (by have := HSM.out; omega) (HRD.out.chg hc2).1)
      clear hc2 hd2 hC2 p0 p1 p2 p3 p4 p5 p6 pv pvs phs
      go_wp2_with fail
      refine HCL.out.mono ?_
      rintro e w3 ⟨⟨A5, c5, rfl, own5⟩, hb3⟩
      have HV3 := Lib.hid (HV2.out.below hb3)
      have HD3 := Lib.hid (HD2.out.below hb3)
      have HC3 := Lib.hid (HC2.out.step hb3)
      have HO3 := Lib.hid (own_base own5 (Nat.le_trans HBB.out HC2.out.size))
      have z5 := (box_cells HV3.out.hb 5).2.1
      have k5 := (box_cells HV3.out.hb 5).1
      have phs := (box_cells HV3.out.hb 5).2.2
      simp only [shC, List.getElem?_toArray, List.getElem?_cons_zero, List.getElem?_cons_succ] at k5
      clear own5 hb3 HCL
      go_upto_region 7 with fail
      have e0 : (w3.setCell ⟨h, 5, none⟩ (.slice A5 l.length c5)).heap[h]? = some (.cells (shC (.pointer (some ⟨s, 0, none⟩)) b x.each x.life x.era (.slice A5 l.length c5) x.dead) 123 (0, 0)) := by
        have := set_blk (i := 5) (.slice A5 l.length c5) HV3.out.hb
        simpa [shC] using this
      have hcs : ChgL [h] w3 (w3.setCell ⟨h, 5, none⟩ (.slice A5 l.length c5)) := ChgL.set (l := [h]) 5 _ (by simp)
      have HD4 := Lib.hid (HD3.out.box HV3.out.hb (by decide) (by decide) (by decide) hcs)
      have HO4 := Lib.hid (own_box HO3.out HV3.out.hb (by decide) hcs)
      have HC4 : Hid (ChgL (blkV b g h s (x.sc.row A c)) w (w3.setCell ⟨h, 5, none⟩ (.slice A5 l.length c5))) := Lib.hid (HC3.out.trans hcs (fun y hy => .inl (by rw [List.mem_singleton] at hy; rw [hy]; exact List.mem_cons_self ..)))
      generalize w3.setCell ⟨h, 5, none⟩ (.slice A5 l.length c5) = y at *
      have HE0 := Lib.hid e0
      have hb5 : Below y.heap.size y y.drew := (Below.refl _ _).drew
      have HT5 := Lib.hid (HTN.out _ _ y.drew (Nat.le_trans HBB.out HC4.out.size) (HD4.out.below hb5) HE0.out)
      have k3 := (box_cells e0 3).1
      have k4 := (box_cells e0 4).1
      have phs := (box_cells e0 3).2.2
      simp only [shC, List.getElem?_toArray, List.getElem?_cons_zero, List.getElem?_cons_succ] at k3 k4
      have HB5 := Lib.hid hb5
      clear e0 hcs hb5 z5 k5 HTN
      go_still_tail 11, (by kernel_rfl)
      change wpList _ _ _ _ _ y.drew
      go_wp2_with fail
      refine HT5.out.mono ?_
      rintro e w5 ⟨s2, A2, c2, R2, rfl, hh5, hs5, hc5, hsz5, hrow5⟩
      have hC5 : ChgL (blkV b g h s (x.sc.row A c)) w w5 := ((HC4.out.step HB5.out).trans hc5 (fun y hy => .inl (by rw [List.mem_singleton] at hy; rw [hy]; exact List.mem_cons_self ..)))
      have hD5 := (HD4.out.below HB5.out).box HE0.out (by decide) (by decide) (by decide) hc5
      have hO5 := own_box (own_below HO4.out HB5.out) HE0.out (by decide) hc5
      have hG5 : ∀ y2 ∈ blkV b g h s2 ((openS D1.S x.each (x.life + 1) (x.era + 1)).row A2 c2), y2 ∈ blkV b g h s (x.sc.row A c) ∨ w.heap.size ≤ y2 := fun y2 hy => by
        rcases List.mem_cons.1 hy with e | hy
        · exact .inl (by rw [e]; exact List.mem_cons_self ..)
        · rcases blk8_new (v := x.sc.row A c) (s := s) hsz5 hrow5 y2 hy with h1 | h1
          · exact .inl (List.mem_cons_of_mem _ h1)
          · exact .inr (Nat.le_trans HC4.out.size h1)
      have hV5 : VaA B w5 v h s2 b A2 c2 R2 A5 c5 { x with life := x.life + 1, era := x.era + 1, state := l, sc := openS D1.S x.each (x.life + 1) (x.era + 1) } := ⟨by rw [hC5.block v (Array.getElem?_eq_some_iff.1 HVB.out).1 HVN.out]; exact HVB.out, hh5, hs5, hO5, HVG.out, HSM.out⟩
      have HC5 := Lib.hid hC5
      have HD5 := Lib.hid hD5
      have HV5 := Lib.hid hV5
      have HG5 := Lib.hid hG5
      clear hC5 hD5 hO5 hG5 hV5 hh5 hs5 hc5 hsz5 hrow5
      go_wp2_with fail
      go_ret
      exact ⟨rfl, s2, A2, c2, R2, A5, c5, HV5.out, HD5.out, HC5.out, HG5.out⟩
theorem vcomp1_any {B v h s b c k g kc : Nat} {A SA K : Option Addr} {R : List (RowS Nat)} {x : Vv} {d : Dv} {m1 m2 : Nat} (rA : Option Addr) (rc_ : Nat) (l : List Nat) (w : World) (h1 : w.cell? ⟨m1, 0, none⟩ = some (.pointer (some ⟨v, 0, none⟩))) (h2 : w.cell? ⟨m2, 0, none⟩ = some (.slice rA l.length rc_)) (h3 : m1 < w.heap.size ∧ m2 < w.heap.size) (hv : VaA B w v h s b A c R SA k x) (hd : DrA B w b g K kc d) (hB : B ≤ w.heap.size) (hlc : l.length ≤ rc_) (hcm : rc_ ≤ maxLen) (hl : l.length ≤ 100000) (hrs : SlF w b g rA (by8 l)) (ho : Oct l) (he : 1 ≤ x.each) (h2e : 2 * x.each ≤ d.S.length) (hera : x.era + 1 ≤ 16777215) (hnew : (d.save 0 x.each x.life (x.era + 1) l).2 = 0 → newestN (d.save 0 x.each x.life (x.era + 1) l).1.S (2 * x.each) ((d.save 0 x.each x.life (x.era + 1) l).1.S.length - 2 * x.each) < x.life + 1) :
    Calls Try.prog 73 #[.pointer (some ⟨m1, 0, none⟩), .pointer (some ⟨m2, 0, none⟩)] w fun e w' => e = .returned (.int .i64 (x.comp d l).2) ∧ ∃ s2 A' c' R' SA' k', VaA B w' v h s2 b A' c' R' SA' k' (x.comp d l).1.1 ∧ DrA B w' b g K kc (x.comp d l).1.2 ∧ ChgL (blkV b g h s (x.sc.row A c)) w w' ∧ (∀ y ∈ blkV b g h s2 ((x.comp d l).1.1.sc.row A' c'), y ∈ blkV b g h s (x.sc.row A c) ∨ w.heap.size ≤ y) := by
  have hb0 : Below w.heap.size w w.drew := (Below.refl _ _).drew
  have HAPP := Lib.hid (vcomp_any rA rc_ l w.drew (hv.below hb0) (hd.below hb0) hB hlc hcm hl (hrs.below hb0) ho he h2e hera hnew)
  obtain ⟨pv, pvs, p0, p1, p2, p3, p4, p5, p6, phs⟩ := hv.got
  obtain ⟨m1s, m2s⟩ := h3
  have HB0 := Lib.hid hb0
  clear hv hd hB hlc hcm hl hrs ho he h2e hera hnew hb0
  go_enter Try.func73, Try.ntmps73
  go_wp2_with fail
  go_still_tail 5, (by kernel_rfl)
  change wpList _ _ _ _ _ w.drew
  go_wp2_with fail
  refine HAPP.out.mono ?_
  rintro e w2 ⟨rfl, s2, A', c', R', SA', k', hv2, hd2, hc2, hr2⟩
  have HV2 := Lib.hid hv2
  have HD2 := Lib.hid hd2
  have HC2 : Hid (ChgL (blkV b g h s (x.sc.row A c)) w w2) := Lib.hid ((ChgL.of_below (l := blkV b g h s (x.sc.row A c)) HB0.out).trans hc2 (fun y hy => .inl hy))
  have HR2 := Lib.hid hr2
  clear hv2 hd2 hc2 hr2
  go_wp2_with fail
  go_ret
  exact ⟨rfl, s2, A', c', R', SA', k', HV2.out, HD2.out, HC2.out, HR2.out⟩
theorem ent_vcomp1 : Ent Try.prog 73 := Ent.of (by kernel_rfl)
theorem vcompact_any {B v h s b c k g kc : Nat} {A SA K : Option Addr} {R : List (RowS Nat)} {x : Vv} {d : Dv} (rA : Option Addr) (rc_ : Nat) (l : List Nat) (w : World) (hv : VaA B w v h s b A c R SA k x) (hd : DrA B w b g K kc d) (hB : B ≤ w.heap.size) (hlc : l.length ≤ rc_) (hcm : rc_ ≤ maxLen) (hl : l.length ≤ 100000) (hrs : SlF w b g rA (by8 l)) (ho : Oct l) (he : 1 ≤ x.each) (h2e : 2 * x.each ≤ d.S.length) (hera : x.era + 1 ≤ 16777215) (hnew : (d.save 0 x.each x.life (x.era + 1) l).2 = 0 → newestN (d.save 0 x.each x.life (x.era + 1) l).1.S (2 * x.each) ((d.save 0 x.each x.life (x.era + 1) l).1.S.length - 2 * x.each) < x.life + 1) :
    Calls Try.prog 40 #[.pointer (some ⟨v, 0, none⟩), .slice rA l.length rc_] w fun e w' => e = .returned (.int .i64 (x.compact d l).2) ∧ ∃ s2 A' c' R' SA' k', VaA B w' v h s2 b A' c' R' SA' k' (x.compact d l).1.1 ∧ DrA B w' b g K kc (x.compact d l).1.2 ∧ ChgL (blkV b g h s (x.sc.row A c)) w w' ∧ (∀ y ∈ blkV b g h s2 ((x.compact d l).1.1.sc.row A' c'), y ∈ blkV b g h s (x.sc.row A c) ∨ w.heap.size ≤ y) := by
  have hb0 : Below w.heap.size w ((w.alloc (.cells #[.pointer (some ⟨v, 0, none⟩)] 83)).alloc (.cells #[.slice rA l.length rc_] 36)) := since_alloc (since_alloc (Below.refl _ _) _) _
  have HB0 := Lib.hid hb0
  have hv0 := hv.below hb0
  have hd0 := hd.below hb0
  unfold Vv.compact
  by_cases hx : x.dead = true ∨ d.on = false
  · rw [if_pos hx]
    have HG := Lib.hid (vguard_dead 73 #[.pointer (some ⟨w.heap.size, 0, none⟩), .pointer (some ⟨w.heap.size + 1, 0, none⟩)] _ hv0 hd0 hx)
    have HV0 := Lib.hid hv0
    have HD0 := Lib.hid hd0
    clear hv hd hB hlc hcm hl hrs ho he h2e hera hnew hb0 hv0 hd0 hx
    go_enter Try.func40, Try.ntmps40
    go_wp2_with fail
    refine HG.out.mono ?_
    rintro e w2 ⟨rfl, rfl⟩
    go_wp2_with fail
    go_ret
    exact ⟨rfl, s, A, c, R, SA, k, HV0.out, HD0.out, ChgL.of_below HB0.out, fun y hy => .inl hy⟩
  · rw [if_neg hx]
    have hx1 : x.dead = false := by cases h : x.dead <;> simp_all
    have hx2 : d.on = true := by cases h : d.on <;> simp_all
    have hc := vcomp1_any (m1 := w.heap.size) (m2 := w.heap.size + 1) rA rc_ l ((w.alloc (.cells #[.pointer (some ⟨v, 0, none⟩)] 83)).alloc (.cells #[.slice rA l.length rc_] 36)) ?q1 ?q2 ?q3 hv0 hd0 (Nat.le_trans hB hb0.size) hlc hcm hl (hrs.below hb0) ho he h2e hera hnew
    case q1 => rw [((since_alloc (Below.refl _ _) _ : Below (w.alloc (.cells #[.pointer (some ⟨v, 0, none⟩)] 83)).heap.size _ ((w.alloc (.cells #[.pointer (some ⟨v, 0, none⟩)] 83)).alloc (.cells #[.slice rA l.length rc_] 36)))).cell (p := ⟨w.heap.size, 0, none⟩) (by simp)]; exact World.cell?_alloc_new _ _ _ 0
    case q2 =>
      have := World.cell?_alloc_new (w.alloc (.cells #[.pointer (some ⟨v, 0, none⟩)] 83)) #[.slice rA l.length rc_] 36 0
      rw [World.size_alloc] at this
      exact this
    case q3 => simp only [World.size_alloc]; omega
    have HG := Lib.hid (vguard_go 73 #[.pointer (some ⟨w.heap.size, 0, none⟩), .pointer (some ⟨w.heap.size + 1, 0, none⟩)] _ hv0 hd0 hx1 hx2 ent_vcomp1 (fun z w' => z = (x.comp d l).2 ∧ ∃ s2 A' c' R' SA' k', VaA B w' v h s2 b A' c' R' SA' k' (x.comp d l).1.1 ∧ DrA B w' b g K kc (x.comp d l).1.2 ∧ ChgL (blkV b g h s (x.sc.row A c)) w w' ∧ (∀ y ∈ blkV b g h s2 ((x.comp d l).1.1.sc.row A' c'), y ∈ blkV b g h s (x.sc.row A c) ∨ w.heap.size ≤ y)) (hc.mono (by
      rintro e w2 ⟨rfl, s2, A', c', R', SA', k', hv2, hd2, hc2, hr2⟩
      exact ⟨_, s2, k', A', SA', c', R', _, rfl, hv2, rfl, s2, A', c', R', SA', k', hv2, hd2, (ChgL.of_below (l := blkV b g h s (x.sc.row A c)) hb0).trans hc2 (fun y hy => .inl hy), fun y hy => (hr2 y hy).imp id (fun h1 => Nat.le_trans hb0.size h1)⟩)))
    clear hv hd hB hlc hcm hl hrs ho he h2e hera hnew hb0 hv0 hd0 hx hc hx1 hx2
    go_enter Try.func40, Try.ntmps40
    go_wp2_with fail
    refine HG.out.mono ?_
    rintro e w2 ⟨z, w1, rfl, ⟨rfl, s2, A', c', R', SA', k', hv2, hd2, hc2, hr2⟩, rfl⟩
    have HV3 := Lib.hid (VaA.mind hv2 ((x.comp d l).2 == 9))
    have HD3 := Lib.hid (DrA.mind (i := 6) (u := .bool ((x.comp d l).2 == 9)) hd2 hv2)
    have HC3 : Hid (ChgL (blkV b g h s (x.sc.row A c)) w (w1.setCell ⟨h, 6, none⟩ (.bool ((x.comp d l).2 == 9)))) := Lib.hid (hc2.trans (ChgL.set (l := blkV b g h s (x.sc.row A c)) 6 _ (List.mem_cons_self ..)) (fun y hy => .inl hy))
    have HR3 := Lib.hid hr2
    clear hv2 hd2 hc2 hr2 HG
    go_wp2_with fail
    go_ret
    exact ⟨rfl, s2, A', c', R', SA', k', HV3.out, HD3.out, HC3.out, HR3.out⟩
end
end Go.Proofs.Ytiggcpfmmgmncaa
