import Derived.Test.YtiggcpfmmgmncaaVp39
set_option maxHeartbeats 16000000
set_option maxRecDepth 100000
set_option linter.unusedVariables false
set_option linter.unusedSimpArgs false
namespace Go.Proofs.Ytiggcpfmmgmncaa
open Go.ChangeShapes Go.WideShapes Go.ChangeAt Go.RowKit
section
theorem Rv.save_len {x : Rv} {p each : Nat} {life era : Int} {b : List Nat} : (x.save p each life era b).1.C.length = x.C.length := by
  unfold Rv.save
  split
  · rfl
  · split
    · rfl
    · split
      · rfl
      · unfold Rv.write
        split
        · rfl
        · exact putK_len _
theorem rvcomp_go {B b c kc s c2 v k : Nat} {A KA A2 SA : Option Addr} {R R2 : List (RowS Nat)} {X : Rv} {x : Vv} (rA : Option Addr) (rc_ : Nat) (l : List Nat) (w : World) (h : RvA B w b A c R KA kc X) (hy : RsA B w s b A2 c2 R2 x.sc) (hv : w.heap[v]? = some (.cells (x.rcells b s SA k) 91 (0, 0))) (hB : B ≤ w.heap.size) (hlc : l.length ≤ rc_) (hcm : rc_ ≤ maxLen) (hl : l.length ≤ 100000) (hrs : Sl w rA (by8 l)) (ho : Oct l) (hfu : X.fuse ≤ 9223372036854775807) (hfl : -9223372036854775807 ≤ X.fuse) (he : 1 ≤ x.each) (h2e : 2 * x.each ≤ X.C.length) (her0 : 0 ≤ x.era) (her : x.era + 1 ≤ 16777215)
    (hdead : x.dead = false) (hoff : X.off = false) (hlf : x.life < 16777214) (hl1 : 1 ≤ x.life) (hz : (X.save 0 x.each x.life (x.era + 1) l).2 = 0) (hnew : newestN (X.save 0 x.each x.life (x.era + 1) l).1.C (2 * x.each) ((X.save 0 x.each x.life (x.era + 1) l).1.C.length - 2 * x.each) < x.life + 1) :
    Calls Try.prog 41 #[.pointer (some ⟨v, 0, none⟩), .slice rA l.length rc_] w fun e w' => e = .returned (.int .i64 0) ∧ ∃ R' s' A2' c2' R2', RvA B w' b A c R' KA kc (X.save 0 x.each x.life (x.era + 1) l).1 ∧ RsA w.heap.size w' s' b A2' c2' R2' (openS (X.save 0 x.each x.life (x.era + 1) l).1.C x.each (x.life + 1) (x.era + 1)) ∧ OwnR w.heap.size w' R2' ∧
      w'.heap[v]? = some (.cells (({ x with life := x.life + 1, era := x.era + 1, state := l, sc := openS (X.save 0 x.each x.life (x.era + 1) l).1.C x.each (x.life + 1) (x.era + 1) } : Vv).rcells b s' rA rc_) 91 (0, 0)) ∧ ChgL (v :: blkR b A X.C.length c) w w' := by
  obtain ⟨p0, p1, p2, p3, p4, ps⟩ := h.got
  have hsm := h.small.1
  have r0 : w.cell? ⟨v, 0, none⟩ = some (.pointer (some ⟨b, 0, none⟩)) := (box_cells' hv 0).1
  have r1 : w.cell? ⟨v, 1, none⟩ = some (.int .i64 x.each) := (box_cells' hv 1).1
  have r2 : w.cell? ⟨v, 2, none⟩ = some (.int .i64 x.life) := (box_cells' hv 2).1
  have r3 : w.cell? ⟨v, 3, none⟩ = some (.int .i64 x.era) := (box_cells' hv 3).1
  have r6 : w.cell? ⟨v, 6, none⟩ = some (.bool x.dead) := (box_cells' hv 6).1
  have rs := (box_cells' hv 0).2.2
  have d1 : decide (16777214 ≤ x.life) = false := decide_eq_false (by omega)
  have g1 : ¬ 16777214 ≤ x.life := by omega
  have w1 : IntKind.i64.wrap (x.era + 1) = x.era + 1 := by rw [IntKind.wrap_i64]; omega
  have w2 : IntKind.i64.wrap (x.life + 1) = x.life + 1 := by rw [IntKind.wrap_i64]; omega
  have w3 : IntKind.i64.wrap (2 * (x.each : Int)) = ((2 * x.each : Nat) : Int) := by rw [IntKind.wrap_i64]; omega
  have HSV := Lib.hid (rsave9_any 0 x.each x.life (x.era + 1) rA rc_ l w.drew (h.below (Below.refl _ _).drew) hB (by omega) he hlc hcm hl (hrs.below (Below.refl _ w).drew) ho hoff hfu hfl)
  have HNM := Lib.hid (not_mem_type h.row_blk hv (by decide))
  have HTY := Lib.hid (h.row_blk)
  have HVB := Lib.hid hv
  have hlen := Rv.save_len (x := X) (p := 0) (each := x.each) (life := x.life) (era := x.era + 1) (b := l)
  rw [hdead] at r6
  rw [hoff] at p1
  obtain ⟨⟨X1, z⟩, hS⟩ : ∃ Z, X.save 0 x.each x.life (x.era + 1) l = Z := ⟨_, rfl⟩
  rw [hS] at HSV hz hnew hlen ⊢
  simp only at HSV hz hnew hlen ⊢
  subst hz
  have HOPN := Lib.hid (fun V R' (hV : RvA B V b A c R' KA kc X1) (hBV : B ≤ V.heap.size) => ropen8_ok (2 * x.each) X1.C.length (x.life + 1) (x.era + 1) V hV hBV (by omega) (Nat.le_refl _) (by omega) (by omega) (by omega) (by omega) hnew)
  obtain ⟨Y, hY⟩ : ∃ Y, openS X1.C x.each (x.life + 1) (x.era + 1) = Y := ⟨_, rfl⟩
  have hsc : (⟨2 * x.each, X1.C.length, x.life + 1, x.era + 1, (scan X1.C X1.C.length (x.era + 1) (2 * x.each) 0 0).1, (scan X1.C X1.C.length (x.era + 1) (2 * x.each) 0 0).2 - 2 * x.each, false⟩ : Sc) = Y := hY
  rw [hsc] at HOPN
  rw [hY]
  have HBB := Lib.hid hB
  have HDD := Lib.hid hdead
  obtain ⟨e2, he2⟩ : ∃ e2, 2 * x.each = e2 := ⟨_, rfl⟩
  rw [he2] at HOPN w3
  clear h hy hv hB hlc hcm hl hrs ho hfu hfl he h2e her0 her hdead hoff hlf hl1 hS hnew hsm hY hsc hlen he2
  go_enter Try.func41, Try.ntmps41
  go_wp2_with fail
  refine wp_region_held_drew (S := (fun Z => Z.cell? ⟨v, 0, none⟩ = some (.pointer (some ⟨b, 0, none⟩)) ∧ Z.cell? ⟨v, 1, none⟩ = some (.int .i64 x.each) ∧ Z.cell? ⟨v, 2, none⟩ = some (.int .i64 x.life) ∧ Z.cell? ⟨v, 3, none⟩ = some (.int .i64 x.era) ∧ v < Z.heap.size)) (by kernel_rfl) (by exact ⟨r0, r1, r2, r3, rs⟩) (fun hHeld => ?_)
  refine tkJ 0 24 rfl (by intro w; go_simp <;> with_reducible rfl) hHeld ?_; simp only [pqZ]
  refine tkJ 1 25 rfl (by intro w; go_simp <;> with_reducible rfl) hHeld ?_; simp only [pqZ]
  refine tkJ 2 26 rfl (by intro w; go_simp <;> with_reducible rfl) hHeld ?_; simp only [pqZ]
  refine tkI 3 27 rfl (by intro w hSw; obtain ⟨j0, j1, j2, j3, js⟩ := (hSw); go_simp <;> with_reducible rfl) hHeld ?_; simp only [pqZ]
  refine tkJ 4 28 rfl (by intro w; go_simp <;> with_reducible rfl) hHeld ?_; simp only [pqZ]
  refine tkJ 5 29 rfl (by intro w; go_simp <;> with_reducible rfl) hHeld ?_; simp only [pqZ]
  refine tkJ 6 30 rfl (by intro w; go_simp <;> with_reducible rfl) hHeld ?_; simp only [pqZ]
  refine tkI 7 31 rfl (by intro w hSw; obtain ⟨j0, j1, j2, j3, js⟩ := (hSw); go_simp <;> with_reducible rfl) hHeld ?_; simp only [pqZ]
  refine tkJ 8 32 rfl (by intro w; go_simp <;> with_reducible rfl) hHeld ?_; simp only [pqZ]
  refine tkJ 9 33 rfl (by intro w; go_simp <;> with_reducible rfl) hHeld ?_; simp only [pqZ]
  refine tkJ 10 34 rfl (by intro w; go_simp <;> with_reducible rfl) hHeld ?_; simp only [pqZ]
  refine tkI 11 35 rfl (by intro w hSw; obtain ⟨j0, j1, j2, j3, js⟩ := (hSw); go_simp <;> with_reducible rfl) hHeld ?_; simp only [pqZ]
  refine tkJ 12 36 rfl (by intro w; go_simp <;> with_reducible rfl) hHeld ?_; simp only [pqZ]
  refine tkJ 13 37 rfl (by intro w; go_simp <;> with_reducible rfl) hHeld ?_; simp only [pqZ]
  refine tkJ 14 38 rfl (by intro w; go_simp <;> with_reducible rfl) hHeld ?_; simp only [pqZ]
  refine tkI 15 39 rfl (by intro w hSw; obtain ⟨j0, j1, j2, j3, js⟩ := (hSw); go_simp <;> with_reducible rfl) hHeld ?_; simp only [pqZ]
  refine tkJ 16 40 rfl (by intro w; go_simp <;> with_reducible rfl) hHeld ?_; simp only [pqZ]
  refine tkJ 17 41 rfl (by intro w; go_simp <;> with_reducible rfl) hHeld ?_; simp only [pqZ]
  refine rdZ 18 42 rfl (by kernel_rfl) (fun K hK => ?_)
  go_simp
  refine HSV.out.mono ?_
  rintro e w1' ⟨rfl, R', hv1, hc1⟩
  have hc1 : ChgL (blkR b A X.C.length c) w w1' := (ChgL.of_below (l := blkR b A X.C.length c) (Below.refl _ w).drew).trans hc1 (fun y hy => .inl hy)
  have hv2 := (hc1.block v rs HNM.out).trans HVB.out
  have HV1 := Lib.hid hv1
  have HC1 := Lib.hid hc1
  have HV2 := Lib.hid hv2
  have hKeep : (fun Z => Z.cell? ⟨v, 0, none⟩ = some (.pointer (some ⟨b, 0, none⟩)) ∧ Z.cell? ⟨v, 1, none⟩ = some (.int .i64 x.each) ∧ Z.cell? ⟨v, 2, none⟩ = some (.int .i64 x.life) ∧ Z.cell? ⟨v, 3, none⟩ = some (.int .i64 x.era) ∧ v < Z.heap.size) w1' := ⟨(box_cells' hv2 0).1, (box_cells' hv2 1).1, (box_cells' hv2 2).1, (box_cells' hv2 3).1, (box_cells' hv2 0).2.2⟩
  clear hv1 hc1 hv2 p0 p1 p2 p3 p4 ps r0 r1 r2 r3 r6 rs HSV
  go_wp2_with fail
  refine hK.out _ _ (by (try dsimp only); exact hKeep) (fun hHeld => ?_); clear hK K hKeep; try simp only [pqZ]
  refine tkJ 19 5 rfl (by intro w; go_simp <;> with_reducible rfl) hHeld ?_; simp only [pqZ]
  refine wpAnyH_done (by kernel_rfl) ?_ _
  have hk1 := set_blk (i := 4) (.slice rA l.length rc_) HV2.out
  have hk2 := set_blk (i := 3) (.int .i64 (x.era + 1)) hk1
  have n4 := (box_cells' HV2.out 4).1
  have n3 : (w1'.setCell ⟨v, 4, none⟩ (.slice rA l.length rc_)).cell? ⟨v, 3, none⟩ = some (.int .i64 x.era) := (box_cells' hk1 3).1
  have n2 : ((w1'.setCell ⟨v, 4, none⟩ (.slice rA l.length rc_)).setCell ⟨v, 3, none⟩ (.int .i64 (x.era + 1))).cell? ⟨v, 2, none⟩ = some (.int .i64 x.life) := (box_cells' hk2 2).1
  have ns := (box_cells' HV2.out 0).2.2
  have ns1 := (box_cells' hk1 0).2.2
  have ns2 := (box_cells' hk2 0).2.2
  have f4 := (box_cells' HV2.out 4).2.1
  have f3 := (box_cells' hk1 3).2.1
  have f2 := (box_cells' hk2 2).2.1
  clear hk1 hk2
  have hbx3 := set_blk (i := 2) (.int .i64 (x.life + 1)) (set_blk (i := 3) (.int .i64 (x.era + 1)) (set_blk (i := 4) (.slice rA l.length rc_) HV2.out))
  have hcv : ChgL [v] w1' (((w1'.setCell ⟨v, 4, none⟩ (.slice rA l.length rc_)).setCell ⟨v, 3, none⟩ (.int .i64 (x.era + 1))).setCell ⟨v, 2, none⟩ (.int .i64 (x.life + 1))) := ((ChgL.set (l := [v]) (b := v) 4 _ (by simp)).trans (ChgL.set (l := [v]) (b := v) 3 _ (by simp)) (fun y hy => .inl hy)).trans (ChgL.set (l := [v]) (b := v) 2 _ (by simp)) (fun y hy => .inl hy)
  have hv3 : RvA B (((w1'.setCell ⟨v, 4, none⟩ (.slice rA l.length rc_)).setCell ⟨v, 3, none⟩ (.int .i64 (x.era + 1))).setCell ⟨v, 2, none⟩ (.int .i64 (x.life + 1))) b A c R' KA kc X1 := HV1.out.box HV2.out (by decide) (by decide) (by decide) (by decide) hcv
  have HC3 : Hid (ChgL (v :: blkR b A X.C.length c) w (((w1'.setCell ⟨v, 4, none⟩ (.slice rA l.length rc_)).setCell ⟨v, 3, none⟩ (.int .i64 (x.era + 1))).setCell ⟨v, 2, none⟩ (.int .i64 (x.life + 1)))) := Lib.hid ((HC1.out.mono (fun y hy => List.mem_cons_of_mem _ hy)).trans hcv (m := [v]) (l := v :: blkR b A X.C.length c) (fun y hy => .inl (by rw [List.mem_singleton] at hy; rw [hy]; exact List.mem_cons_self ..)))
  have HBX3 := Lib.hid hbx3
  have HRV3 := Lib.hid hv3
  clear hbx3 hcv hv3
  go_wp2_with fail
  generalize (((w1'.setCell ⟨v, 4, none⟩ (.slice rA l.length rc_)).setCell ⟨v, 3, none⟩ (.int .i64 (x.era + 1))).setCell ⟨v, 2, none⟩ (.int .i64 (x.life + 1))) = w3 at *
  have m4 := (HRV3.out.below (Below.refl _ w3).drew).got.1
  have mt := (HRV3.out.below (Below.refl _ w3).drew).lt
  have hbx := (((Below.refl w3.heap.size w3).drew.block v (Array.getElem?_eq_some_iff.1 HBX3.out).1)).trans HBX3.out
  have m0 := (box_cells' hbx 0).1
  have m1 := (box_cells' hbx 1).1
  have m2 := (box_cells' hbx 2).1
  have m3 := (box_cells' hbx 3).1
  have ms := (box_cells' hbx 0).2.2
  have HOP := Lib.hid (HOPN.out w3.drew R' (HRV3.out.below (Below.refl _ w3).drew) (Nat.le_trans HBB.out HC3.out.size))
  clear hbx n4 n3 n2 ns ns1 ns2 f4 f3 f2
  refine wp_region_held_drew (S := (fun Z => Z.cell? ⟨v, 0, none⟩ = some (.pointer (some ⟨b, 0, none⟩)) ∧ Z.cell? ⟨v, 1, none⟩ = some (.int .i64 x.each) ∧ Z.cell? ⟨v, 2, none⟩ = some (.int .i64 (x.life + 1)) ∧ Z.cell? ⟨v, 3, none⟩ = some (.int .i64 (x.era + 1)) ∧ Z.cell? ⟨b, 0, none⟩ = some (.slice A X1.C.length c) ∧ v < Z.heap.size ∧ b < Z.heap.size)) (by kernel_rfl) (by exact ⟨m0, m1, m2, m3, m4, ms, mt⟩) (fun hHeld => ?_)
  refine tkJ 0 72 rfl (by intro w; go_simp <;> with_reducible rfl) hHeld ?_; simp only [pqZ]
  refine tkJ 1 73 rfl (by intro w; go_simp <;> with_reducible rfl) hHeld ?_; simp only [pqZ]
  refine tkJ 2 74 rfl (by intro w; go_simp <;> with_reducible rfl) hHeld ?_; simp only [pqZ]
  refine tkJ 3 75 rfl (by intro w; go_simp <;> with_reducible rfl) hHeld ?_; simp only [pqZ]
  refine tkI 4 76 rfl (by intro w hSw; obtain ⟨j0, j1, j2, j3, j4, js, jt⟩ := (hSw); go_simp <;> with_reducible rfl) hHeld ?_; simp only [pqZ]
  refine tkJ 5 77 rfl (by intro w; go_simp <;> with_reducible rfl) hHeld ?_; simp only [pqZ]
  refine tkJ 6 78 rfl (by intro w; go_simp <;> with_reducible rfl) hHeld ?_; simp only [pqZ]
  refine tkJ 7 79 rfl (by intro w; go_simp <;> with_reducible rfl) hHeld ?_; simp only [pqZ]
  refine tkI 8 80 rfl (by intro w hSw; obtain ⟨j0, j1, j2, j3, j4, js, jt⟩ := (hSw); go_simp <;> with_reducible rfl) hHeld ?_; simp only [pqZ]
  refine tkJ 9 81 rfl (by intro w; go_simp <;> with_reducible rfl) hHeld ?_; simp only [pqZ]
  refine tkJ 10 82 rfl (by intro w; go_simp <;> with_reducible rfl) hHeld ?_; simp only [pqZ]
  refine tkJ 11 83 rfl (by intro w; go_simp <;> with_reducible rfl) hHeld ?_; simp only [pqZ]
  refine tkJ 12 84 rfl (by intro w; go_simp <;> with_reducible rfl) hHeld ?_; simp only [pqZ]
  refine tkI 13 85 rfl (by intro w hSw; obtain ⟨j0, j1, j2, j3, j4, js, jt⟩ := (hSw); go_simp <;> with_reducible rfl) hHeld ?_; simp only [pqZ]
  refine tkJ 14 86 rfl (by intro w; go_simp <;> with_reducible rfl) hHeld ?_; simp only [pqZ]
  refine tkJ 15 87 rfl (by intro w; go_simp <;> with_reducible rfl) hHeld ?_; simp only [pqZ]
  refine tkI 16 88 rfl (by intro w hSw; obtain ⟨j0, j1, j2, j3, j4, js, jt⟩ := (hSw); go_simp <;> with_reducible rfl) hHeld ?_; simp only [pqZ]
  refine tkJ 17 89 rfl (by intro w; go_simp <;> with_reducible rfl) hHeld ?_; simp only [pqZ]
  refine tkJ 18 90 rfl (by intro w; go_simp <;> with_reducible rfl) hHeld ?_; simp only [pqZ]
  refine tkJ 19 91 rfl (by intro w; go_simp <;> with_reducible rfl) hHeld ?_; simp only [pqZ]
  refine tkJ 20 92 rfl (by intro w; go_simp <;> with_reducible rfl) hHeld ?_; simp only [pqZ]
  refine tkI 21 93 rfl (by intro w hSw; obtain ⟨j0, j1, j2, j3, j4, js, jt⟩ := (hSw); go_simp <;> with_reducible rfl) hHeld ?_; simp only [pqZ]
  refine tkJ 22 94 rfl (by intro w; go_simp <;> with_reducible rfl) hHeld ?_; simp only [pqZ]
  refine tkJ 23 95 rfl (by intro w; go_simp <;> with_reducible rfl) hHeld ?_; simp only [pqZ]
  refine tkJ 24 96 rfl (by intro w; go_simp <;> with_reducible rfl) hHeld ?_; simp only [pqZ]
  refine tkI 25 97 rfl (by intro w hSw; obtain ⟨j0, j1, j2, j3, j4, js, jt⟩ := (hSw); go_simp <;> with_reducible rfl) hHeld ?_; simp only [pqZ]
  refine rdZ 26 98 rfl (by kernel_rfl) (fun K hK => ?_)
  go_simp
  refine HOP.out.mono ?_
  rintro e w4 ⟨⟨s4, A4, c4, R4, rfl, hs4, hr4⟩, hb4⟩
  have hbx4 := (hb4.block v ms).trans HBX3.out
  have hv4 := (HRV3.out.below (Below.refl _ w3).drew).below hb4
  have hq0 := hv4.got.1
  have HBX4 := Lib.hid hbx4
  have HRV4 := Lib.hid hv4
  have HS4 := Lib.hid hs4
  have HR4 := Lib.hid hr4
  have HB4 := Lib.hid hb4
  have hKeep : (fun Z => Z.cell? ⟨v, 0, none⟩ = some (.pointer (some ⟨b, 0, none⟩)) ∧ Z.cell? ⟨v, 1, none⟩ = some (.int .i64 x.each) ∧ Z.cell? ⟨v, 2, none⟩ = some (.int .i64 (x.life + 1)) ∧ Z.cell? ⟨v, 3, none⟩ = some (.int .i64 (x.era + 1)) ∧ Z.cell? ⟨b, 0, none⟩ = some (.slice A X1.C.length c) ∧ v < Z.heap.size ∧ b < Z.heap.size) w4 := ⟨(box_cells' hbx4 0).1, (box_cells' hbx4 1).1, (box_cells' hbx4 2).1, (box_cells' hbx4 3).1, hq0, (box_cells' hbx4 0).2.2, hv4.lt⟩
  have f5 := (box_cells' hbx4 5).2.1
  clear hbx4 hv4 hq0 hs4 hr4 hb4 m0 m1 m2 m3 m4 ms mt HOP
  go_wp2_with fail
  refine hK.out _ _ (by (try dsimp only); exact hKeep) (fun hHeld => ?_); clear hK K hKeep; try simp only [pqZ]
  refine tkJ 27 71 rfl (by intro w; go_simp <;> with_reducible rfl) hHeld ?_; simp only [pqZ]
  refine tkJ 28 99 rfl (by intro w; go_simp <;> with_reducible rfl) hHeld ?_; simp only [pqZ]
  refine tkJ 29 100 rfl (by intro w; go_simp <;> with_reducible rfl) hHeld ?_; simp only [pqZ]
  refine tkJ 30 101 rfl (by intro w; go_simp <;> with_reducible rfl) hHeld ?_; simp only [pqZ]
  refine tkJ 31 102 rfl (by intro w; go_simp <;> with_reducible rfl) hHeld ?_; simp only [pqZ]
  refine wpAnyH_ready (rs := [32]) (by kernel_rfl) (by simp) ?_
  refine AllReadyH.cons (o := ⟨none, _, _, _, _, _⟩) rfl (fun K hK => ?_) AllReadyH.nil
  have hHd := hHeld
  obtain ⟨j0, j1, j2, j3, j4, js, jt⟩ := (hHd)
  have hbx5 := set_blk (i := 5) (.pointer (some ⟨s4, 0, none⟩)) HBX4.out
  have hcv : ChgL [v] w4 (w4.setCell ⟨v, 5, none⟩ (.pointer (some ⟨s4, 0, none⟩))) := ChgL.set (l := [v]) (b := v) 5 _ (by simp)
  have hkv : ∀ y ∈ [v], ∃ cs z T, w4.heap[y]? = some (.cells cs T z) ∧ T = 91 := fun y hy => by rw [List.mem_singleton] at hy; rw [hy]; exact ⟨_, _, _, HBX4.out, rfl⟩
  have hv5 : RvA B (w4.setCell ⟨v, 5, none⟩ (.pointer (some ⟨s4, 0, none⟩))) b A c R' KA kc X1 := HRV4.out.box HBX4.out (by decide) (by decide) (by decide) (by decide) hcv
  have hs5 : RsA w3.drew.heap.size (w4.setCell ⟨v, 5, none⟩ (.pointer (some ⟨s4, 0, none⟩))) s4 b A4 c4 R4 Y := HS4.out.far hcv (not_mem_type hkv HS4.out.blk (by decide)) (own_not_type hkv HS4.out.own (by decide))
  have hr5 : OwnR w3.drew.heap.size (w4.setCell ⟨v, 5, none⟩ (.pointer (some ⟨s4, 0, none⟩))) R4 := fun r hr => hcv.own (HR4.out r hr) (own_not_type hkv (HR4.out r hr) (by decide))
  have hq0 := hv5.got.1
  have hKeep : (fun Z => Z.cell? ⟨v, 0, none⟩ = some (.pointer (some ⟨b, 0, none⟩)) ∧ Z.cell? ⟨v, 1, none⟩ = some (.int .i64 x.each) ∧ Z.cell? ⟨v, 2, none⟩ = some (.int .i64 (x.life + 1)) ∧ Z.cell? ⟨v, 3, none⟩ = some (.int .i64 (x.era + 1)) ∧ Z.cell? ⟨b, 0, none⟩ = some (.slice A X1.C.length c) ∧ v < Z.heap.size ∧ b < Z.heap.size) (w4.setCell ⟨v, 5, none⟩ (.pointer (some ⟨s4, 0, none⟩))) := ⟨(box_cells' hbx5 0).1, (box_cells' hbx5 1).1, (box_cells' hbx5 2).1, (box_cells' hbx5 3).1, hq0, (box_cells' hbx5 0).2.2, hv5.lt⟩
  have HBX5 := Lib.hid hbx5
  have HRV5 := Lib.hid hv5
  have HS5 := Lib.hid hs5
  have HR5 := Lib.hid hr5
  have HC5 := Lib.hid hcv
  have c5 := (box_cells' HBX4.out 5).1
  clear hbx5 hcv hkv hv5 hs5 hr5 hq0
  go_simp
  refine hK.out _ _ (by (try dsimp only); exact hKeep) (fun hHeld => ?_); clear hK K hKeep; try simp only [pqZ]
  refine wpAnyH_done (by kernel_rfl) ?_ _
  clear f5 c5 j0 j1 j2 j3 j4 js jt
  go_wp2_with fail
  go_ret
  have hsz3 : w.heap.size ≤ w3.drew.heap.size := HC3.out.size
  refine ⟨rfl, R', s4, A4, c4, R4, HRV5.out, HS5.out.base hsz3, fun r hr => own_base (HR5.out r hr) hsz3, HBX5.out, ?_⟩
  exact ((HC3.out.trans (ChgL.of_below (l := []) (Below.refl _ w3).drew) (fun y hy => by cases hy)).trans (ChgL.of_below (l := []) HB4.out) (fun y hy => by cases hy)).trans HC5.out (m := [v]) (fun y hy => .inl (by rw [List.mem_singleton] at hy; rw [hy]; exact List.mem_cons_self ..))
theorem rvcomp_any {B b c kc s c2 v k : Nat} {A KA A2 SA : Option Addr} {R R2 : List (RowS Nat)} {X : Rv} {x : Vv} (rA : Option Addr) (rc_ : Nat) (l : List Nat) (w : World) (h : RvA B w b A c R KA kc X) (hy : RsA B w s b A2 c2 R2 x.sc) (hv : w.heap[v]? = some (.cells (x.rcells b s SA k) 91 (0, 0))) (hB : B ≤ w.heap.size) (hlc : l.length ≤ rc_) (hcm : rc_ ≤ maxLen) (hl : l.length ≤ 100000) (hrs : Sl w rA (by8 l)) (ho : Oct l) (hfu : X.fuse ≤ 9223372036854775807) (hfl : -9223372036854775807 ≤ X.fuse) (he : 1 ≤ x.each) (h2e : 2 * x.each ≤ X.C.length) (her0 : 0 ≤ x.era) (her : x.era + 1 ≤ 16777215)
    (hap : ∀ z ∈ blkR b A X.C.length c, (x.sc.row A2 c2).ownBlock ≠ some z) (hl1 : 1 ≤ x.life) (hnew : (X.save 0 x.each x.life (x.era + 1) l).2 = 0 → newestN (X.save 0 x.each x.life (x.era + 1) l).1.C (2 * x.each) ((X.save 0 x.each x.life (x.era + 1) l).1.C.length - 2 * x.each) < x.life + 1) :
    Calls Try.prog 41 #[.pointer (some ⟨v, 0, none⟩), .slice rA l.length rc_] w fun e w' => e = .returned (.int .i64 (x.rcomp X l).2) ∧ ∃ R' s' A2' c2' R2' SA' k', RvA B w' b A c R' KA kc (x.rcomp X l).1.2 ∧ RsA B w' s' b A2' c2' R2' (x.rcomp X l).1.1.sc ∧ w'.heap[v]? = some (.cells ((x.rcomp X l).1.1.rcells b s' SA' k') 91 (0, 0)) ∧ ChgL (v :: blkR b A X.C.length c) w w' ∧
      ((s' = s ∧ A2' = A2 ∧ c2' = c2 ∧ R2' = R2 ∧ SA' = SA ∧ (x.rcomp X l).1.1.sc = x.sc ∧ (x.rcomp X l).1.1.state = x.state) ∨ (RsA w.heap.size w' s' b A2' c2' R2' (x.rcomp X l).1.1.sc ∧ OwnR w.heap.size w' R2' ∧ SA' = rA ∧ (x.rcomp X l).1.1.state = l)) := by
  by_cases hd : x.dead = true ∨ X.off = true
  · have e1 : x.rcomp X l = ((x, X), 9) := by unfold Vv.rcomp; rw [if_pos hd]
    rw [e1]
    refine (rvcomp_off rA rc_ l w h hy hv hd).mono ?_
    rintro e w' ⟨rfl, rfl⟩
    exact ⟨rfl, R, s, A2, c2, R2, SA, k, h, hy, hv, ChgL.refl _ _, .inl ⟨rfl, rfl, rfl, rfl, rfl, rfl, rfl⟩⟩
  · have hdead : x.dead = false := by cases hh : x.dead <;> simp_all
    have hoff : X.off = false := by cases hh : X.off <;> simp_all
    by_cases hf : 16777214 ≤ x.life
    · have e1 : x.rcomp X l = ((x, X), 10) := by unfold Vv.rcomp; rw [if_neg hd, if_pos hf]
      rw [e1]
      refine (rvcomp_full rA rc_ l w h hy hv hdead hoff hf).mono ?_
      rintro e w' ⟨rfl, rfl⟩
      exact ⟨rfl, R, s, A2, c2, R2, SA, k, h, hy, hv, ChgL.refl _ _, .inl ⟨rfl, rfl, rfl, rfl, rfl, rfl, rfl⟩⟩
    · by_cases hz : (X.save 0 x.each x.life (x.era + 1) l).2 ≠ 0
      · have e1 : x.rcomp X l = (({ x with dead := (X.save 0 x.each x.life (x.era + 1) l).2 == 9 }, (X.save 0 x.each x.life (x.era + 1) l).1), (X.save 0 x.each x.life (x.era + 1) l).2) := by unfold Vv.rcomp; rw [if_neg hd, if_neg hf, if_pos hz]
        rw [e1]
        refine (rvcomp_no rA rc_ l w h hy hv hB hlc hcm hl hrs ho hfu hfl he h2e her0 her hap hdead hoff (by omega) hz).mono ?_
        rintro e w' ⟨rfl, R', h1, h2, h3, h4⟩
        exact ⟨rfl, R', s, A2, c2, R2, SA, k, h1, h2, h3, h4, .inl ⟨rfl, rfl, rfl, rfl, rfl, rfl, rfl⟩⟩
      · have hz0 := Classical.not_not.1 hz
        have e1 : x.rcomp X l = (({ x with life := x.life + 1, era := x.era + 1, state := l, sc := openS (X.save 0 x.each x.life (x.era + 1) l).1.C x.each (x.life + 1) (x.era + 1) }, (X.save 0 x.each x.life (x.era + 1) l).1), 0) := by unfold Vv.rcomp; rw [if_neg hd, if_neg hf, if_neg hz]
        rw [e1]
        refine (rvcomp_go rA rc_ l w h hy hv hB hlc hcm hl hrs ho hfu hfl he h2e her0 her hdead hoff (by omega) hl1 hz0 (hnew hz0)).mono ?_
        rintro e w' ⟨rfl, R', s', A2', c2', R2', h1, h2, h3, h4, h5⟩
        exact ⟨rfl, R', s', A2', c2', R2', rA, rc_, h1, h2.base hB, h4, h5, .inr ⟨h2, h3, rfl, rfl⟩⟩
end
end Go.Proofs.Ytiggcpfmmgmncaa
