import Derived.Test.YtiggcpfmmgmncaaVp18
set_option maxHeartbeats 16000000
set_option maxRecDepth 100000
set_option linter.unusedVariables false
set_option linter.unusedSimpArgs false
namespace Go.Proofs.Ytiggcpfmmgmncaa
open Go.ChangeShapes Go.WideShapes Go.ChangeAt Go.RowKit
section
theorem sread_any {B b g kc s c : Nat} {K A : Option Addr} {d : Dv} {R : List (RowS Nat)} {x : Sc} (w : World) (hd : DrA B w b g K kc d) (hs : ScA B w s b A c R x) (hB : B ≤ w.heap.size) (ht : x.t ≤ d.S.length) (hq : x.f + x.used ≤ 2048) (hn : x.L.length ≤ 2048) :
    Calls Try.prog 52 #[.pointer (some ⟨s, 0, none⟩)] w fun e w' => e = .returned (.tuple #[]) ∧ ∃ A' c' R', ScA B w' s b A' c' R' { x with L := x.L ++ (scan d.S x.t x.era (x.f + x.used) x.L.length 0).1, used := (scan d.S x.t x.era (x.f + x.used) x.L.length 0).2 - x.f } ∧ ChgL (s :: (x.row A c).ownBlock.toList) w w' ∧ ((Sc.row { x with L := x.L ++ (scan d.S x.t x.era (x.f + x.used) x.L.length 0).1, used := (scan d.S x.t x.era (x.f + x.used) x.L.length 0).2 - x.f } A' c').ownBlock = (x.row A c).ownBlock ∨ ∃ k, w.heap.size ≤ k ∧ (Sc.row { x with L := x.L ++ (scan d.S x.t x.era (x.f + x.used) x.L.length 0).1, used := (scan d.S x.t x.era (x.f + x.used) x.L.length 0).2 - x.f } A' c').ownBlock = some k) := by
  obtain ⟨T, hT⟩ : ∃ T : List (List Nat) × Nat, (x.L ++ (scan d.S x.t x.era (x.f + x.used) x.L.length 0).1, (scan d.S x.t x.era (x.f + x.used) x.L.length 0).2) = T := ⟨_, rfl⟩
  rw [show x.L ++ (scan d.S x.t x.era (x.f + x.used) x.L.length 0).1 = T.1 by rw [← hT], show (scan d.S x.t x.era (x.f + x.used) x.L.length 0).2 = T.2 by rw [← hT]]
  have HT := Lib.hid hT
  have HS0 := Lib.hid hs
  have HD0 := Lib.hid hd
  have HB := Lib.hid hB
  have HTT := Lib.hid ht
  have HSL := Lib.hid hd.len.2
  obtain ⟨ff, tt, life0, era, L0, u0, dead⟩ := x
  simp only at hq hn
  have HQ := Lib.hid (show ff + u0 ≤ 2048 ∧ L0.length ≤ 2048 from ⟨hq, hn⟩)
  clear hT hd hs hB ht hq hn
  go_enter Try.func52, Try.ntmps52
  go_wp2_with fail
  go_loopw [2] (fun lv wr => ∃ (A' : Option Addr) (c' : Nat) (R' : List (RowS Nat)) (L' : List (List Nat)) (u life : Nat), lv = .int .i64 life ∧ Hid (ScA B wr s b A' c' R' ⟨ff, tt, life0, era, L', u, dead⟩) ∧ Hid (ChgL (s :: (Sc.row ⟨ff, tt, life0, era, L0, u0, dead⟩ A c).ownBlock.toList) w wr) ∧ Hid ((Sc.row ⟨ff, tt, life0, era, L', u, dead⟩ A' c').ownBlock = (Sc.row ⟨ff, tt, life0, era, L0, u0, dead⟩ A c).ownBlock ∨ ∃ k, w.heap.size ≤ k ∧ (Sc.row ⟨ff, tt, life0, era, L', u, dead⟩ A' c').ownBlock = some k) ∧ ff + u ≤ 2048 ∧ Hid (L'.length ≤ L0.length + u) ∧ Hid (T = (L' ++ (scan d.S tt era (ff + u) L'.length life).1, (scan d.S tt era (ff + u) L'.length life).2)) ∧ Hid (DrA B wr b g K kc d)) (fun _ wr => 4096 - (intOf ((wr.cell? ⟨s, 6, none⟩).getD undef)).toNat)
  case atStart => exact ⟨A, c, R, L0, u0, 0, rfl, HS0, ChgL.refl _ _, .inl rfl, HQ.out.1, Lib.hid (by omega), Lib.hid HT.out.symm, HD0⟩
  case round =>
    obtain ⟨A', c', R', L', u, life, rfl, HS, HC, HRW, hfu, HLN, HTE, HD⟩ := hrel
    have hw1 : IntKind.i64.wrap ((ff : Int) + (u : Int)) = ((ff + u : Nat) : Int) := by rw [IntKind.wrap_i64]; omega
    obtain ⟨q, hqe⟩ : ∃ q, ff + u = q := ⟨_, rfl⟩
    have HQE := Lib.hid hqe
    rw [hqe] at hw1 HTE hfu
    clear hqe
    have HSC := Lib.hid (fun V (hV : Below wr.heap.size wr V) => (show V.cell? ⟨s, 0, none⟩ = some (.pointer (some ⟨b, 0, none⟩)) ∧ V.cell? ⟨s, 1, none⟩ = some (.int .i64 ff) ∧ V.cell? ⟨s, 2, none⟩ = some (.int .i64 tt) ∧ V.cell? ⟨s, 6, none⟩ = some (.int .i64 u) ∧ s < V.heap.size from by
      have h := HS.out.below hV
      obtain ⟨k0, k1, k2, k3, k4, k5, k6, k7⟩ := h.got
      exact ⟨k0, k1, k2, k6, h.lt⟩))
    have HFR := Lib.hid (fun V (hV : Below wr.heap.size wr V) => pframes_any (ff : Int) q tt V (HD.out.below hV) HTT.out)
    have HENDQ : Hid (scan d.S tt era q L'.length life = ([], q) → ∀ V, Below wr.heap.size wr V → ScA B V s b A' c' R' ⟨ff, tt, life0, era, T.1, T.2 - ff, dead⟩ ∧ ChgL (s :: (Sc.row ⟨ff, tt, life0, era, L0, u0, dead⟩ A c).ownBlock.toList) w V ∧ ((Sc.row ⟨ff, tt, life0, era, T.1, T.2 - ff, dead⟩ A' c').ownBlock = (Sc.row ⟨ff, tt, life0, era, L0, u0, dead⟩ A c).ownBlock ∨ ∃ k, w.heap.size ≤ k ∧ (Sc.row ⟨ff, tt, life0, era, T.1, T.2 - ff, dead⟩ A' c').ownBlock = some k)) := Lib.hid (fun he V hV => by
      have hTe := HTE.out
      rw [he] at hTe
      simp only [List.append_nil] at hTe
      have e1 : T.1 = L' := by rw [hTe]
      have e2 : T.2 - ff = u := by rw [hTe]; have := HQE.out; simp only; omega
      rw [e1, e2]
      exact ⟨HS.out.below hV, HC.out.step hV, HRW.out⟩)
    cases hx : readF d.S (q : Int) (tt : Int) with
    | none =>
      have HEND := Lib.hid (HENDQ.out (scan_stop (fun bb f0 h0 => by rw [hx] at h0; cases h0)))
      rw [hx] at HFR
      clear hx
      go_wp2_with fail
      refine wp_region_held_drew (S := (fun V => Below wr.heap.size wr V)) (by kernel_rfl) (by exact (Below.refl _ _).drew) (fun hHeld => ?_)
      refine tkJ 0 7 rfl (by intro w; go_simp <;> with_reducible rfl) hHeld ?_; simp only [pqZ]
      refine tkJ 1 8 rfl (by intro w; go_simp <;> with_reducible rfl) hHeld ?_; simp only [pqZ]
      refine tkJ 2 9 rfl (by intro w; go_simp <;> with_reducible rfl) hHeld ?_; simp only [pqZ]
      refine tkI 3 10 rfl (by intro w hSw; obtain ⟨p0, p1, p2, p6, ps⟩ := HSC.out _ (hSw); go_simp <;> with_reducible rfl) hHeld ?_; simp only [pqZ]
      refine tkJ 4 11 rfl (by intro w; go_simp <;> with_reducible rfl) hHeld ?_; simp only [pqZ]
      refine tkJ 5 12 rfl (by intro w; go_simp <;> with_reducible rfl) hHeld ?_; simp only [pqZ]
      refine tkJ 6 13 rfl (by intro w; go_simp <;> with_reducible rfl) hHeld ?_; simp only [pqZ]
      refine tkJ 7 14 rfl (by intro w; go_simp <;> with_reducible rfl) hHeld ?_; simp only [pqZ]
      refine tkI 8 15 rfl (by intro w hSw; obtain ⟨p0, p1, p2, p6, ps⟩ := HSC.out _ (hSw); go_simp <;> with_reducible rfl) hHeld ?_; simp only [pqZ]
      refine tkJ 9 16 rfl (by intro w; go_simp <;> with_reducible rfl) hHeld ?_; simp only [pqZ]
      refine tkJ 10 17 rfl (by intro w; go_simp <;> with_reducible rfl) hHeld ?_; simp only [pqZ]
      refine tkJ 11 18 rfl (by intro w; go_simp <;> with_reducible rfl) hHeld ?_; simp only [pqZ]
      refine tkI 12 19 rfl (by intro w hSw; obtain ⟨p0, p1, p2, p6, ps⟩ := HSC.out _ (hSw); go_simp <;> with_reducible rfl) hHeld ?_; simp only [pqZ]
      refine tkJ 13 20 rfl (by intro w; go_simp <;> with_reducible rfl) hHeld ?_; simp only [pqZ]
      refine wpAnyH_ready (rs := [14, 19]) (by kernel_rfl) (by simp) ?_
      refine AllReadyH.cons (o := ⟨some 21, _, _, _, _, _⟩) rfl (fun K hK => ?_) (AllReadyH.cons (o := ⟨some 4, _, _, _, _, _⟩) rfl (fun K hK => ?_) AllReadyH.nil)
      · go_simp
        refine (HFR.out _ hHeld).mono ?_
        rintro e x1 ⟨hres, hk1⟩
        have hKeep := since_step hHeld hk1
        obtain rfl := hres
        have HPRE := Lib.hid hKeep
        clear hk1
        go_wp2_with fail
        refine hK.out _ _ (by (try dsimp only); exact hKeep) (fun hHeld => ?_); clear hK K hKeep; try simp only [pqZ]
        refine tkJ 15 6 rfl (by intro w; go_simp <;> with_reducible rfl) hHeld ?_; simp only [pqZ]
        refine tkJ 16 22 rfl (by intro w; go_simp <;> with_reducible rfl) hHeld ?_; simp only [pqZ]
        refine tkJ 17 23 rfl (by intro w; go_simp <;> with_reducible rfl) hHeld ?_; simp only [pqZ]
        refine tkJ 18 24 rfl (by intro w; go_simp <;> with_reducible rfl) hHeld ?_; simp only [pqZ]
        refine rdZ 19 4 rfl (by kernel_rfl) (fun K hK => ?_)
        have hHd := hHeld
        obtain ⟨p0, p1, p2, p6, ps⟩ := HSC.out _ (hHd)
        have hKeep := since_alloc hHeld (.cells #[.int .i64 0, .int .i64 0, .int .i64 0, .int .i64 0, .int .i64 0, .slice none 0 0] 130)
        go_simp
        refine hK.out _ _ (by (try dsimp only); exact hKeep) (fun hHeld => ?_); clear hK K hKeep; try simp only [pqZ]
        refine tkJ 20 3 rfl (by intro w; go_simp <;> with_reducible rfl) hHeld ?_; simp only [pqZ]
        refine wpAnyH_ready (rs := [21]) (by kernel_rfl) (by simp) ?_
        refine AllReadyH.cons (o := ⟨none, _, _, _, _, _⟩) rfl (fun K hK => ?_) AllReadyH.nil
        have hHd := hHeld
        obtain ⟨p0, p1, p2, p6, ps⟩ := HSC.out _ (hHd)
        have hKeep := HPRE.out.alloc HPRE.out.size (.cells #[.int .i64 0, .int .i64 0, .int .i64 0, .int .i64 0, .int .i64 0, .slice none 0 0] 130)
        go_simp
        refine hK.out _ _ (by (try dsimp only); exact hKeep) (fun hHeld => ?_); clear hK K hKeep; try simp only [pqZ]
        refine tkJ 22 5 rfl (by intro w; go_simp <;> with_reducible rfl) hHeld ?_; simp only [pqZ]
        refine wpAnyH_done (by kernel_rfl) ?_ _
        have HBY := Lib.hid hHeld
        generalize hY : (x1.alloc (.cells #[.int .i64 0, .int .i64 0, .int .i64 0, .int .i64 0, .int .i64 0, .slice none 0 0] 130)) = y at *
        clear hY
        go_wp2_with fail
        go_quiet (fail)
        go_wp2_with fail
        refine bodyPost_ret (v := .tuple #[]) (by simp [results, Try.results52, go_sem]) rfl ?_
        exact ⟨rfl, A', c', R', HEND.out _ (below_drewN HBY.out _)⟩
      · have hHd := hHeld
        obtain ⟨p0, p1, p2, p6, ps⟩ := HSC.out _ (hHd)
        have hKeep := since_alloc hHeld (.cells #[.int .i64 0, .int .i64 0, .int .i64 0, .int .i64 0, .int .i64 0, .slice none 0 0] 130)
        go_simp
        refine hK.out _ _ (by (try dsimp only); exact hKeep) (fun hHeld => ?_); clear hK K hKeep; try simp only [pqZ]
        refine rdZ 14 21 rfl (by kernel_rfl) (fun K hK => ?_)
        go_simp
        refine (HFR.out _ hHeld).mono ?_
        rintro e x1 ⟨hres, hk1⟩
        have hKeep := since_step hHeld hk1
        obtain rfl := hres
        have HSIX := Lib.hid (six_got (w := wr) (V := x1) (t := 130) (show Below (wr.heap.size + 1) (wr.alloc (.cells #[.int .i64 0, .int .i64 0, .int .i64 0, .int .i64 0, .int .i64 0, .slice none 0 0] 130)) x1 from (by have h := hk1; rw [World.size_drew, World.size_alloc] at h; exact ⟨h.os, h.tape, h.output, h.size, h.block⟩)))
        clear hk1
        go_wp2_with fail
        refine hK.out _ _ (by (try dsimp only); exact hKeep) (fun hHeld => ?_); clear hK K hKeep; try simp only [pqZ]
        refine tkJ 15 6 rfl (by intro w; go_simp <;> with_reducible rfl) hHeld ?_; simp only [pqZ]
        refine tkJ 16 22 rfl (by intro w; go_simp <;> with_reducible rfl) hHeld ?_; simp only [pqZ]
        refine tkJ 17 23 rfl (by intro w; go_simp <;> with_reducible rfl) hHeld ?_; simp only [pqZ]
        refine tkJ 18 24 rfl (by intro w; go_simp <;> with_reducible rfl) hHeld ?_; simp only [pqZ]
        refine tkJ 20 3 rfl (by intro w; go_simp <;> with_reducible rfl) hHeld ?_; simp only [pqZ]
        refine wpAnyH_ready (rs := [21]) (by kernel_rfl) (by simp) ?_
        refine AllReadyH.cons (o := ⟨none, _, _, _, _, _⟩) rfl (fun K hK => ?_) AllReadyH.nil
        have hHd := hHeld
        obtain ⟨p0, p1, p2, p6, ps⟩ := HSC.out _ (hHd)
        obtain ⟨⟨y0, y1, y2, y3, y4, y5⟩, ⟨z0, z1, z2, z3, z4, z5⟩, hltB⟩ := HSIX.out
        have hKeep := below_six (a0 := .int .i64 0) (a1 := .int .i64 0) (a2 := .int .i64 0) (a3 := .int .i64 0) (a4 := .int .i64 0) (a5 := .slice none 0 0) hHeld (g := wr.heap.size) (Nat.le_refl _)
        go_simp
        refine hK.out _ _ (by (try dsimp only); exact hKeep) (fun hHeld => ?_); clear hK K hKeep; try simp only [pqZ]
        refine tkJ 22 5 rfl (by intro w; go_simp <;> with_reducible rfl) hHeld ?_; simp only [pqZ]
        refine wpAnyH_done (by kernel_rfl) ?_ _
        have HBY := Lib.hid hHeld
        generalize hY : ((((((x1.setCell ⟨wr.heap.size, 0, none⟩ (.int .i64 0)).setCell ⟨wr.heap.size, 1, none⟩ (.int .i64 0)).setCell ⟨wr.heap.size, 2, none⟩ (.int .i64 0)).setCell ⟨wr.heap.size, 3, none⟩ (.int .i64 0)).setCell ⟨wr.heap.size, 4, none⟩ (.int .i64 0)).setCell ⟨wr.heap.size, 5, none⟩ (.slice none 0 0)) = y at *
        clear hY
        go_wp2_with fail
        go_quiet (fail)
        go_wp2_with fail
        refine bodyPost_ret (v := .tuple #[]) (by simp [results, Try.results52, go_sem]) rfl ?_
        exact ⟨rfl, A', c', R', HEND.out _ (below_drewN HBY.out _)⟩
    | some y =>
      obtain ⟨l, ⟨g0, g1, g2, g3, g4, gd⟩⟩ := y
      have HX := Lib.hid hx
      rw [hx] at HFR
      clear hx
      go_wp2_with fail
      refine wp_region_held_drew (S := (fun V => Below wr.heap.size wr V)) (by kernel_rfl) (by exact (Below.refl _ _).drew) (fun hHeld => ?_)
      refine tkJ 0 7 rfl (by intro w; go_simp <;> with_reducible rfl) hHeld ?_; simp only [pqZ]
      refine tkJ 1 8 rfl (by intro w; go_simp <;> with_reducible rfl) hHeld ?_; simp only [pqZ]
      refine tkJ 2 9 rfl (by intro w; go_simp <;> with_reducible rfl) hHeld ?_; simp only [pqZ]
      refine tkI 3 10 rfl (by intro w hSw; obtain ⟨p0, p1, p2, p6, ps⟩ := HSC.out _ (hSw); go_simp <;> with_reducible rfl) hHeld ?_; simp only [pqZ]
      refine tkJ 4 11 rfl (by intro w; go_simp <;> with_reducible rfl) hHeld ?_; simp only [pqZ]
      refine tkJ 5 12 rfl (by intro w; go_simp <;> with_reducible rfl) hHeld ?_; simp only [pqZ]
      refine tkJ 6 13 rfl (by intro w; go_simp <;> with_reducible rfl) hHeld ?_; simp only [pqZ]
      refine tkJ 7 14 rfl (by intro w; go_simp <;> with_reducible rfl) hHeld ?_; simp only [pqZ]
      refine tkI 8 15 rfl (by intro w hSw; obtain ⟨p0, p1, p2, p6, ps⟩ := HSC.out _ (hSw); go_simp <;> with_reducible rfl) hHeld ?_; simp only [pqZ]
      refine tkJ 9 16 rfl (by intro w; go_simp <;> with_reducible rfl) hHeld ?_; simp only [pqZ]
      refine tkJ 10 17 rfl (by intro w; go_simp <;> with_reducible rfl) hHeld ?_; simp only [pqZ]
      refine tkJ 11 18 rfl (by intro w; go_simp <;> with_reducible rfl) hHeld ?_; simp only [pqZ]
      refine tkI 12 19 rfl (by intro w hSw; obtain ⟨p0, p1, p2, p6, ps⟩ := HSC.out _ (hSw); go_simp <;> with_reducible rfl) hHeld ?_; simp only [pqZ]
      refine tkJ 13 20 rfl (by intro w; go_simp <;> with_reducible rfl) hHeld ?_; simp only [pqZ]
      refine wpAnyH_ready (rs := [14, 19]) (by kernel_rfl) (by simp) ?_
      refine AllReadyH.cons (o := ⟨some 21, _, _, _, _, _⟩) rfl (fun K hK => ?_) (AllReadyH.cons (o := ⟨some 4, _, _, _, _, _⟩) rfl (fun K hK => ?_) AllReadyH.nil)
      · go_simp
        refine (HFR.out _ hHeld).mono ?_
        rintro e x1 ⟨hres, hk1⟩
        have hKeep := since_step hHeld hk1
        obtain ⟨A1, c1, A2, c2, rfl, own1⟩ := hres
        have HOW := Lib.hid (own_base own1 (show wr.heap.size ≤ _ from hHeld.size))
        unfold Fr.val
        clear own1
        have HPRE := Lib.hid hKeep
        clear hk1
        go_wp2_with fail
        refine hK.out _ _ (by (try dsimp only); exact hKeep) (fun hHeld => ?_); clear hK K hKeep; try simp only [pqZ]
        refine tkJ 15 6 rfl (by intro w; go_simp <;> with_reducible rfl) hHeld ?_; simp only [pqZ]
        refine tkJ 16 22 rfl (by intro w; go_simp <;> with_reducible rfl) hHeld ?_; simp only [pqZ]
        refine tkJ 17 23 rfl (by intro w; go_simp <;> with_reducible rfl) hHeld ?_; simp only [pqZ]
        refine tkJ 18 24 rfl (by intro w; go_simp <;> with_reducible rfl) hHeld ?_; simp only [pqZ]
        refine rdZ 19 4 rfl (by kernel_rfl) (fun K hK => ?_)
        have hHd := hHeld
        obtain ⟨p0, p1, p2, p6, ps⟩ := HSC.out _ (hHd)
        have hKeep := since_alloc hHeld (.cells #[.int .i64 0, .int .i64 0, .int .i64 0, .int .i64 0, .int .i64 0, .slice none 0 0] 130)
        go_simp
        refine hK.out _ _ (by (try dsimp only); exact hKeep) (fun hHeld => ?_); clear hK K hKeep; try simp only [pqZ]
        refine tkJ 20 3 rfl (by intro w; go_simp <;> with_reducible rfl) hHeld ?_; simp only [pqZ]
        refine wpAnyH_ready (rs := [21]) (by kernel_rfl) (by simp) ?_
        refine AllReadyH.cons (o := ⟨none, _, _, _, _, _⟩) rfl (fun K hK => ?_) AllReadyH.nil
        have hHd := hHeld
        obtain ⟨p0, p1, p2, p6, ps⟩ := HSC.out _ (hHd)
        have hKeep := HPRE.out.alloc HPRE.out.size (.cells #[.int .i64 g0, .int .i64 g1, .int .i64 g2, .int .i64 g3, .int .i64 g4, .slice A2 gd.length c2] 130)
        go_simp
        refine hK.out _ _ (by (try dsimp only); exact hKeep) (fun hHeld => ?_); clear hK K hKeep; try simp only [pqZ]
        refine tkJ 22 5 rfl (by intro w; go_simp <;> with_reducible rfl) hHeld ?_; simp only [pqZ]
        refine wpAnyH_done (by kernel_rfl) ?_ _
        have HBY := Lib.hid hHeld
        have hbox : (x1.alloc (.cells #[.int .i64 g0, .int .i64 g1, .int .i64 g2, .int .i64 g3, .int .i64 g4, .slice A2 gd.length c2] 130)).cell? ⟨x1.heap.size, 0, none⟩ = some (.int .i64 g0) ∧ (x1.alloc (.cells #[.int .i64 g0, .int .i64 g1, .int .i64 g2, .int .i64 g3, .int .i64 g4, .slice A2 gd.length c2] 130)).cell? ⟨x1.heap.size, 1, none⟩ = some (.int .i64 g1) ∧ (x1.alloc (.cells #[.int .i64 g0, .int .i64 g1, .int .i64 g2, .int .i64 g3, .int .i64 g4, .slice A2 gd.length c2] 130)).cell? ⟨x1.heap.size, 2, none⟩ = some (.int .i64 g2) ∧ (x1.alloc (.cells #[.int .i64 g0, .int .i64 g1, .int .i64 g2, .int .i64 g3, .int .i64 g4, .slice A2 gd.length c2] 130)).cell? ⟨x1.heap.size, 4, none⟩ = some (.int .i64 g4) ∧ x1.heap.size < (x1.alloc (.cells #[.int .i64 g0, .int .i64 g1, .int .i64 g2, .int .i64 g3, .int .i64 g4, .slice A2 gd.length c2] 130)).heap.size := by
          exact ⟨World.cell?_alloc_new _ _ _ 0, World.cell?_alloc_new _ _ _ 1, World.cell?_alloc_new _ _ _ 2, World.cell?_alloc_new _ _ _ 4, by simp⟩
        have hown : (x1.alloc (.cells #[.int .i64 g0, .int .i64 g1, .int .i64 g2, .int .i64 g3, .int .i64 g4, .slice A2 gd.length c2] 130)).ownsRow B 5 1 (.slice A1 l.length c1) l.length (by8 l) := (own_base HOW.out (Nat.le_trans HB.out (HC.out.size))).alloc _
        obtain ⟨x0, x1', x2, x4, hltX⟩ := hbox
        have hXs : x1.heap.size ≠ s := by have := HS.out.lt; have := HPRE.out.size; omega
        have HXS := Lib.hid hXs
        have HOWN := Lib.hid hown
        generalize hY : (x1.alloc (.cells #[.int .i64 g0, .int .i64 g1, .int .i64 g2, .int .i64 g3, .int .i64 g4, .slice A2 gd.length c2] 130)) = y at *
        clear hY hown hXs
        have hBXw : wr.heap.size ≤ x1.heap.size := HPRE.out.size
        have HBXW := Lib.hid hBXw
        clear hBXw
        have hsy := HS.out.below HBY.out
        obtain ⟨p0, p1, p2, p3, p4, p5, p6, p7⟩ := hsy.got
        have ps := hsy.lt
        simp only at p0 p1 p2 p3 p4 p5 p6 p7
        have HNX := Lib.hid (fun (m : Nat) => snext_any (y.drewN m) (HS.out.below (below_drewN HBY.out m)))
        simp only at HNX
        obtain ⟨n1, hn1⟩ : ∃ n1, L'.length + 1 = n1 := ⟨_, rfl⟩
        rw [hn1] at HNX
        have HN1 := Lib.hid hn1
        have hpr := readF_parts HX.out
        simp only at hpr
        have hokf := (Fr.ok_iff _).1 hpr.2.2.2.2
        simp only at hokf
        have HPR := Lib.hid hpr
        have HOK := Lib.hid hokf
        clear hn1 hsy hpr hokf
        by_cases e1 : g1 = era
        · by_cases e2 : g2 = (n1 : Int)
          · by_cases e3 : g0 < (life : Int)
            · have f1 : (g1 != era) = false := by simp [e1]
              have f2 : (g2 != (n1 : Int)) = false := by simp [e2]
              have f3 : decide (g0 < (life : Int)) = true := decide_eq_true e3
              have HEND := Lib.hid (HENDQ.out (scan_stop (fun bb f0 h0 => by rw [HX.out] at h0; injection h0 with h0; injection h0 with _ h0; subst h0; rintro ⟨_, _, h3⟩; simp only at h3; omega)))
              clear e1 e2 e3
              go_wp2_with fail
              go_quiet ((go_at_call 55; refine Calls.quiet_of_same (HNX.out _)))
              go_wp2_with fail
              refine bodyPost_ret (v := .tuple #[]) (by simp [results, Try.results52, go_sem]) rfl ?_
              exact ⟨rfl, A', c', R', HEND.out _ (below_drewN HBY.out _)⟩
            · have f1 : (g1 != era) = false := by simp [e1]
              have f2 : (g2 != (n1 : Int)) = false := by simp [e2]
              have f3 : decide (g0 < (life : Int)) = false := decide_eq_false e3
              have HGO := Lib.hid (scan_go HX.out ⟨e1, by rw [HN1.out]; exact e2, by show (life : Int) ≤ g0; omega⟩)
              clear e1 e2
              obtain ⟨pp, hpp⟩ : ∃ pp : Nat, g4 = (pp : Int) := ⟨g4.toNat, by have := HOK.out; omega⟩
              obtain ⟨l1, hl1⟩ : ∃ l1 : Nat, g0 = (l1 : Int) := ⟨g0.toNat, by have := HOK.out; omega⟩
              subst hpp
              subst hl1
              go_wp2_with fail
              go_quiet ((go_at_call 55; refine Calls.quiet_of_same (HNX.out _)))
              go_wp2_with fail
              generalize hyn : y.drewN _ = yd at *
              have HBD : Hid (Below wr.heap.size wr yd) := Lib.hid (by rw [← hyn]; exact below_drewN HBY.out _)
              have HOD : Hid (yd.ownsRow B 5 1 (.slice A1 l.length c1) l.length (by8 l)) := Lib.hid (by rw [← hyn]; exact own_below HOWN.out (below_drewN (Below.refl _ _) _))
              have HCX : Hid (yd.cell? ⟨x1.heap.size, 0, none⟩ = some (.int .i64 (l1 : Int)) ∧ x1.heap.size < yd.heap.size) := Lib.hid (by rw [← hyn]; exact ⟨x0, hltX⟩)
              clear hyn x0 x1' x2 x4 hltX p0 p1 p2 p3 p4 p5 p6 p7 ps HNX HOWN
              have hsD := HS.out.below HBD.out
              have hadd := sadd_any A1 c1 l pp yd hsD (Nat.le_trans HB.out (Nat.le_trans HC.out.size HBD.out.size)) HOD.out (by have := HPR.out; have := HQE.out; have := HQ.out; simp only; omega) (by have := HLN.out; have := HQE.out; have := HQ.out; simp only; omega)
              have HADD := Lib.hid hadd
              have HDD := Lib.hid (HD.out.below HBD.out)
              clear hadd
              refine HADD.out.mono ?_
              rintro e y2 ⟨rfl, A3, c3, hs3, hc3, hr3⟩
              have HDN := Lib.hid (HDD.out.scroll hsD hc3)
              have hblk : y2.heap[x1.heap.size]? = yd.heap[x1.heap.size]? := hc3.block _ HCX.out.2 (by
                intro hm
                rcases List.mem_cons.1 hm with e | e
                · exact HXS.out e
                · have e2 := Option.mem_def.1 (Option.mem_toList.1 e)
                  have := HS.out.own.lt (x1.heap.size) e2
                  have := HBXW.out
                  omega)
              have x0 : y2.cell? ⟨x1.heap.size, 0, none⟩ = some (.int .i64 (l1 : Int)) := by rw [← HCX.out.1]; unfold World.cell?; simp only [hblk]
              have hltX : x1.heap.size < y2.heap.size := Nat.lt_of_lt_of_le HCX.out.2 hc3.size
              have HS3 := Lib.hid hs3
              have HC3 := Lib.hid hc3
              have HR3 := Lib.hid hr3
              clear hs3 hc3 hr3 hblk hsD
              have HCN : Hid (ChgL (s :: (Sc.row ⟨ff, tt, life0, era, L0, u0, dead⟩ A c).ownBlock.toList) w y2) := Lib.hid ((HC.out.step HBD.out).trans HC3.out (fun zz hz => by
                rcases List.mem_cons.1 hz with e | e
                · exact .inl (by rw [e]; exact List.mem_cons_self ..)
                · have e2 := Option.mem_def.1 (Option.mem_toList.1 e)
                  rcases HRW.out with h1 | ⟨k, h1, h2⟩
                  · rw [h1] at e2
                    exact .inl (List.mem_cons_of_mem _ (Option.mem_toList.2 (Option.mem_def.2 e2)))
                  · rw [h2] at e2
                    injection e2 with e2
                    exact .inr (by omega)))
              have HRN : Hid ((Sc.row ⟨ff, tt, life0, era, L' ++ [l], u + pp, dead⟩ A3 c3).ownBlock = (Sc.row ⟨ff, tt, life0, era, L0, u0, dead⟩ A c).ownBlock ∨ ∃ k, w.heap.size ≤ k ∧ (Sc.row ⟨ff, tt, life0, era, L' ++ [l], u + pp, dead⟩ A3 c3).ownBlock = some k) := Lib.hid (by
                rcases HR3.out with h1 | ⟨k, h1, h2⟩
                · rcases HRW.out with h3 | ⟨k, h3, h4⟩
                  · exact .inl (h1.trans h3)
                  · exact .inr ⟨k, h3, h1.trans h4⟩
                · exact .inr ⟨k, Nat.le_trans (Nat.le_trans HC.out.size HBD.out.size) h1, h2⟩)
              have HTN : Hid (T = ((L' ++ [l]) ++ (scan d.S tt era (ff + (u + pp)) (L' ++ [l]).length l1).1, (scan d.S tt era (ff + (u + pp)) (L' ++ [l]).length l1).2)) := Lib.hid (by
                have h1 := HTE.out
                have h2 := HGO.out
                simp only [Int.toNat_natCast] at h2
                rw [h2] at h1
                rw [h1, show ff + (u + pp) = q + pp by have := HQE.out; omega, List.length_append, List.length_singleton]
                simp only [List.append_assoc, List.singleton_append])
              have HLN2 : Hid ((L' ++ [l]).length ≤ L0.length + (u + pp)) := Lib.hid (by rw [List.length_append, List.length_singleton]; have := HLN.out; have := HPR.out; omega)
              have hfu2 : ff + (u + pp) ≤ 2048 := by have h1 := HPR.out; have h2 := HQE.out; have h3 : tt ≤ d.S.length := HTT.out; have h4 := HSL.out; omega
              have m1 : wr.cell? ⟨s, 6, none⟩ = some (.int .i64 u) := HS.out.got.2.2.2.2.2.2.1
              have m2 : y2.cell? ⟨s, 6, none⟩ = some (.int .i64 ((u + pp : Nat) : Int)) := HS3.out.got.2.2.2.2.2.2.1
              have M1 := Lib.hid m1
              have M2 := Lib.hid m2
              have HPP := Lib.hid (show 1 ≤ pp ∧ u + pp ≤ 2048 by have := HPR.out; omega)
              clear m1 m2
              go_wp2_with fail
              go_roundw
              case rel => exact ⟨A3, c3, R' ++ [⟨A1, c1, l⟩], L' ++ [l], u + pp, l1, rfl, HS3, HCN, HRN, hfu2, HLN2, HTN, Lib.hid HDN.out⟩
              case measure =>
                rw [M1.out, M2.out]
                simp only [Option.getD_some, intOf]
                have := HPP.out
                omega
          · have f1 : (g1 != era) = false := by simp [e1]
            have f2 : (g2 != (n1 : Int)) = true := by simpa using e2
            have HEND := Lib.hid (HENDQ.out (scan_stop (fun bb f0 h0 => by rw [HX.out] at h0; injection h0 with h0; injection h0 with _ h0; subst h0; rintro ⟨_, h3, _⟩; rw [HN1.out] at h3; exact e2 h3)))
            clear e1 e2
            go_wp2_with fail
            go_quiet ((go_at_call 55; refine Calls.quiet_of_same (HNX.out _)))
            go_wp2_with fail
            refine bodyPost_ret (v := .tuple #[]) (by simp [results, Try.results52, go_sem]) rfl ?_
            exact ⟨rfl, A', c', R', HEND.out _ (below_drewN HBY.out _)⟩
        · have f1 : (g1 != era) = true := by simpa using e1
          have HEND := Lib.hid (HENDQ.out (scan_stop (fun bb f0 h0 => by rw [HX.out] at h0; injection h0 with h0; injection h0 with _ h0; subst h0; rintro ⟨h3, _, _⟩; exact e1 h3)))
          clear e1
          go_wp2_with fail
          go_quiet ((go_at_call 55; refine Calls.quiet_of_same (HNX.out _)))
          go_wp2_with fail
          refine bodyPost_ret (v := .tuple #[]) (by simp [results, Try.results52, go_sem]) rfl ?_
          exact ⟨rfl, A', c', R', HEND.out _ (below_drewN HBY.out _)⟩
      · have hHd := hHeld
        obtain ⟨p0, p1, p2, p6, ps⟩ := HSC.out _ (hHd)
        have hKeep := since_alloc hHeld (.cells #[.int .i64 0, .int .i64 0, .int .i64 0, .int .i64 0, .int .i64 0, .slice none 0 0] 130)
        go_simp
        refine hK.out _ _ (by (try dsimp only); exact hKeep) (fun hHeld => ?_); clear hK K hKeep; try simp only [pqZ]
        refine rdZ 14 21 rfl (by kernel_rfl) (fun K hK => ?_)
        go_simp
        refine (HFR.out _ hHeld).mono ?_
        rintro e x1 ⟨hres, hk1⟩
        have hKeep := since_step hHeld hk1
        obtain ⟨A1, c1, A2, c2, rfl, own1⟩ := hres
        have HOW := Lib.hid (own_base own1 (show wr.heap.size ≤ _ from hHeld.size))
        have HNE := Lib.hid (show (Value.slice A1 l.length c1).ownBlock ≠ some wr.heap.size from fun e => by have h1 := own_ge own1 _ e; simp only [World.size_drew, World.size_alloc] at h1; omega)
        unfold Fr.val
        clear own1
        have HSIX := Lib.hid (six_got (w := wr) (V := x1) (t := 130) (show Below (wr.heap.size + 1) (wr.alloc (.cells #[.int .i64 0, .int .i64 0, .int .i64 0, .int .i64 0, .int .i64 0, .slice none 0 0] 130)) x1 from (by have h := hk1; rw [World.size_drew, World.size_alloc] at h; exact ⟨h.os, h.tape, h.output, h.size, h.block⟩)))
        clear hk1
        go_wp2_with fail
        refine hK.out _ _ (by (try dsimp only); exact hKeep) (fun hHeld => ?_); clear hK K hKeep; try simp only [pqZ]
        refine tkJ 15 6 rfl (by intro w; go_simp <;> with_reducible rfl) hHeld ?_; simp only [pqZ]
        refine tkJ 16 22 rfl (by intro w; go_simp <;> with_reducible rfl) hHeld ?_; simp only [pqZ]
        refine tkJ 17 23 rfl (by intro w; go_simp <;> with_reducible rfl) hHeld ?_; simp only [pqZ]
        refine tkJ 18 24 rfl (by intro w; go_simp <;> with_reducible rfl) hHeld ?_; simp only [pqZ]
        refine tkJ 20 3 rfl (by intro w; go_simp <;> with_reducible rfl) hHeld ?_; simp only [pqZ]
        refine wpAnyH_ready (rs := [21]) (by kernel_rfl) (by simp) ?_
        refine AllReadyH.cons (o := ⟨none, _, _, _, _, _⟩) rfl (fun K hK => ?_) AllReadyH.nil
        have hHd := hHeld
        obtain ⟨p0, p1, p2, p6, ps⟩ := HSC.out _ (hHd)
        obtain ⟨⟨y0, y1, y2, y3, y4, y5⟩, ⟨z0, z1, z2, z3, z4, z5⟩, hltB⟩ := HSIX.out
        have hKeep := below_six (a0 := .int .i64 g0) (a1 := .int .i64 g1) (a2 := .int .i64 g2) (a3 := .int .i64 g3) (a4 := .int .i64 g4) (a5 := .slice A2 gd.length c2) hHeld (g := wr.heap.size) (Nat.le_refl _)
        go_simp
        refine hK.out _ _ (by (try dsimp only); exact hKeep) (fun hHeld => ?_); clear hK K hKeep; try simp only [pqZ]
        refine tkJ 22 5 rfl (by intro w; go_simp <;> with_reducible rfl) hHeld ?_; simp only [pqZ]
        refine wpAnyH_done (by kernel_rfl) ?_ _
        have HBY := Lib.hid hHeld
        have hbox : ((((((x1.setCell ⟨wr.heap.size, 0, none⟩ (.int .i64 g0)).setCell ⟨wr.heap.size, 1, none⟩ (.int .i64 g1)).setCell ⟨wr.heap.size, 2, none⟩ (.int .i64 g2)).setCell ⟨wr.heap.size, 3, none⟩ (.int .i64 g3)).setCell ⟨wr.heap.size, 4, none⟩ (.int .i64 g4)).setCell ⟨wr.heap.size, 5, none⟩ (.slice A2 gd.length c2)).cell? ⟨wr.heap.size, 0, none⟩ = some (.int .i64 g0) ∧ ((((((x1.setCell ⟨wr.heap.size, 0, none⟩ (.int .i64 g0)).setCell ⟨wr.heap.size, 1, none⟩ (.int .i64 g1)).setCell ⟨wr.heap.size, 2, none⟩ (.int .i64 g2)).setCell ⟨wr.heap.size, 3, none⟩ (.int .i64 g3)).setCell ⟨wr.heap.size, 4, none⟩ (.int .i64 g4)).setCell ⟨wr.heap.size, 5, none⟩ (.slice A2 gd.length c2)).cell? ⟨wr.heap.size, 1, none⟩ = some (.int .i64 g1) ∧ ((((((x1.setCell ⟨wr.heap.size, 0, none⟩ (.int .i64 g0)).setCell ⟨wr.heap.size, 1, none⟩ (.int .i64 g1)).setCell ⟨wr.heap.size, 2, none⟩ (.int .i64 g2)).setCell ⟨wr.heap.size, 3, none⟩ (.int .i64 g3)).setCell ⟨wr.heap.size, 4, none⟩ (.int .i64 g4)).setCell ⟨wr.heap.size, 5, none⟩ (.slice A2 gd.length c2)).cell? ⟨wr.heap.size, 2, none⟩ = some (.int .i64 g2) ∧ ((((((x1.setCell ⟨wr.heap.size, 0, none⟩ (.int .i64 g0)).setCell ⟨wr.heap.size, 1, none⟩ (.int .i64 g1)).setCell ⟨wr.heap.size, 2, none⟩ (.int .i64 g2)).setCell ⟨wr.heap.size, 3, none⟩ (.int .i64 g3)).setCell ⟨wr.heap.size, 4, none⟩ (.int .i64 g4)).setCell ⟨wr.heap.size, 5, none⟩ (.slice A2 gd.length c2)).cell? ⟨wr.heap.size, 4, none⟩ = some (.int .i64 g4) ∧ wr.heap.size < ((((((x1.setCell ⟨wr.heap.size, 0, none⟩ (.int .i64 g0)).setCell ⟨wr.heap.size, 1, none⟩ (.int .i64 g1)).setCell ⟨wr.heap.size, 2, none⟩ (.int .i64 g2)).setCell ⟨wr.heap.size, 3, none⟩ (.int .i64 g3)).setCell ⟨wr.heap.size, 4, none⟩ (.int .i64 g4)).setCell ⟨wr.heap.size, 5, none⟩ (.slice A2 gd.length c2)).heap.size := by
          obtain ⟨⟨y0, y1, y2, y3, y4, y5⟩, ⟨z0, z1, z2, z3, z4, z5⟩, hltB⟩ := HSIX.out
          refine ⟨?_, ?_, ?_, ?_, by simpa using hltB⟩ <;> simp [cell_set, y0, y1, y2, y3, y4, y5]
        have hown : ((((((x1.setCell ⟨wr.heap.size, 0, none⟩ (.int .i64 g0)).setCell ⟨wr.heap.size, 1, none⟩ (.int .i64 g1)).setCell ⟨wr.heap.size, 2, none⟩ (.int .i64 g2)).setCell ⟨wr.heap.size, 3, none⟩ (.int .i64 g3)).setCell ⟨wr.heap.size, 4, none⟩ (.int .i64 g4)).setCell ⟨wr.heap.size, 5, none⟩ (.slice A2 gd.length c2)).ownsRow B 5 1 (.slice A1 l.length c1) l.length (by8 l) := own_six (own_base HOW.out (Nat.le_trans HB.out (HC.out.size))) HNE.out
        obtain ⟨x0, x1', x2, x4, hltX⟩ := hbox
        have hXs : wr.heap.size ≠ s := by have := HS.out.lt; omega
        have HXS := Lib.hid hXs
        have HOWN := Lib.hid hown
        generalize hY : ((((((x1.setCell ⟨wr.heap.size, 0, none⟩ (.int .i64 g0)).setCell ⟨wr.heap.size, 1, none⟩ (.int .i64 g1)).setCell ⟨wr.heap.size, 2, none⟩ (.int .i64 g2)).setCell ⟨wr.heap.size, 3, none⟩ (.int .i64 g3)).setCell ⟨wr.heap.size, 4, none⟩ (.int .i64 g4)).setCell ⟨wr.heap.size, 5, none⟩ (.slice A2 gd.length c2)) = y at *
        clear hY hown hXs
        have hBXw : wr.heap.size ≤ wr.heap.size := Nat.le_refl _
        have HBXW := Lib.hid hBXw
        clear hBXw
        have hsy := HS.out.below HBY.out
        obtain ⟨p0, p1, p2, p3, p4, p5, p6, p7⟩ := hsy.got
        have ps := hsy.lt
        simp only at p0 p1 p2 p3 p4 p5 p6 p7
        have HNX := Lib.hid (fun (m : Nat) => snext_any (y.drewN m) (HS.out.below (below_drewN HBY.out m)))
        simp only at HNX
        obtain ⟨n1, hn1⟩ : ∃ n1, L'.length + 1 = n1 := ⟨_, rfl⟩
        rw [hn1] at HNX
        have HN1 := Lib.hid hn1
        have hpr := readF_parts HX.out
        simp only at hpr
        have hokf := (Fr.ok_iff _).1 hpr.2.2.2.2
        simp only at hokf
        have HPR := Lib.hid hpr
        have HOK := Lib.hid hokf
        clear hn1 hsy hpr hokf
        by_cases e1 : g1 = era
        · by_cases e2 : g2 = (n1 : Int)
          · by_cases e3 : g0 < (life : Int)
            · have f1 : (g1 != era) = false := by simp [e1]
              have f2 : (g2 != (n1 : Int)) = false := by simp [e2]
              have f3 : decide (g0 < (life : Int)) = true := decide_eq_true e3
              have HEND := Lib.hid (HENDQ.out (scan_stop (fun bb f0 h0 => by rw [HX.out] at h0; injection h0 with h0; injection h0 with _ h0; subst h0; rintro ⟨_, _, h3⟩; simp only at h3; omega)))
              clear e1 e2 e3
              go_wp2_with fail
              go_quiet ((go_at_call 55; refine Calls.quiet_of_same (HNX.out _)))
              go_wp2_with fail
              refine bodyPost_ret (v := .tuple #[]) (by simp [results, Try.results52, go_sem]) rfl ?_
              exact ⟨rfl, A', c', R', HEND.out _ (below_drewN HBY.out _)⟩
            · have f1 : (g1 != era) = false := by simp [e1]
              have f2 : (g2 != (n1 : Int)) = false := by simp [e2]
              have f3 : decide (g0 < (life : Int)) = false := decide_eq_false e3
              have HGO := Lib.hid (scan_go HX.out ⟨e1, by rw [HN1.out]; exact e2, by show (life : Int) ≤ g0; omega⟩)
              clear e1 e2
              obtain ⟨pp, hpp⟩ : ∃ pp : Nat, g4 = (pp : Int) := ⟨g4.toNat, by have := HOK.out; omega⟩
              obtain ⟨l1, hl1⟩ : ∃ l1 : Nat, g0 = (l1 : Int) := ⟨g0.toNat, by have := HOK.out; omega⟩
              subst hpp
              subst hl1
              go_wp2_with fail
              go_quiet ((go_at_call 55; refine Calls.quiet_of_same (HNX.out _)))
              go_wp2_with fail
              generalize hyn : y.drewN _ = yd at *
              have HBD : Hid (Below wr.heap.size wr yd) := Lib.hid (by rw [← hyn]; exact below_drewN HBY.out _)
              have HOD : Hid (yd.ownsRow B 5 1 (.slice A1 l.length c1) l.length (by8 l)) := Lib.hid (by rw [← hyn]; exact own_below HOWN.out (below_drewN (Below.refl _ _) _))
              have HCX : Hid (yd.cell? ⟨wr.heap.size, 0, none⟩ = some (.int .i64 (l1 : Int)) ∧ wr.heap.size < yd.heap.size) := Lib.hid (by rw [← hyn]; exact ⟨x0, hltX⟩)
              clear hyn x0 x1' x2 x4 hltX p0 p1 p2 p3 p4 p5 p6 p7 ps HNX HOWN
              have hsD := HS.out.below HBD.out
              have hadd := sadd_any A1 c1 l pp yd hsD (Nat.le_trans HB.out (Nat.le_trans HC.out.size HBD.out.size)) HOD.out (by have := HPR.out; have := HQE.out; have := HQ.out; simp only; omega) (by have := HLN.out; have := HQE.out; have := HQ.out; simp only; omega)
              have HADD := Lib.hid hadd
              have HDD := Lib.hid (HD.out.below HBD.out)
              clear hadd
              refine HADD.out.mono ?_
              rintro e y2 ⟨rfl, A3, c3, hs3, hc3, hr3⟩
              have HDN := Lib.hid (HDD.out.scroll hsD hc3)
              have hblk : y2.heap[wr.heap.size]? = yd.heap[wr.heap.size]? := hc3.block _ HCX.out.2 (by
                intro hm
                rcases List.mem_cons.1 hm with e | e
                · exact HXS.out e
                · have e2 := Option.mem_def.1 (Option.mem_toList.1 e)
                  have := HS.out.own.lt (wr.heap.size) e2
                  have := HBXW.out
                  omega)
              have x0 : y2.cell? ⟨wr.heap.size, 0, none⟩ = some (.int .i64 (l1 : Int)) := by rw [← HCX.out.1]; unfold World.cell?; simp only [hblk]
              have hltX : wr.heap.size < y2.heap.size := Nat.lt_of_lt_of_le HCX.out.2 hc3.size
              have HS3 := Lib.hid hs3
              have HC3 := Lib.hid hc3
              have HR3 := Lib.hid hr3
              clear hs3 hc3 hr3 hblk hsD
              have HCN : Hid (ChgL (s :: (Sc.row ⟨ff, tt, life0, era, L0, u0, dead⟩ A c).ownBlock.toList) w y2) := Lib.hid ((HC.out.step HBD.out).trans HC3.out (fun zz hz => by
                rcases List.mem_cons.1 hz with e | e
                · exact .inl (by rw [e]; exact List.mem_cons_self ..)
                · have e2 := Option.mem_def.1 (Option.mem_toList.1 e)
                  rcases HRW.out with h1 | ⟨k, h1, h2⟩
                  · rw [h1] at e2
                    exact .inl (List.mem_cons_of_mem _ (Option.mem_toList.2 (Option.mem_def.2 e2)))
                  · rw [h2] at e2
                    injection e2 with e2
                    exact .inr (by omega)))
              have HRN : Hid ((Sc.row ⟨ff, tt, life0, era, L' ++ [l], u + pp, dead⟩ A3 c3).ownBlock = (Sc.row ⟨ff, tt, life0, era, L0, u0, dead⟩ A c).ownBlock ∨ ∃ k, w.heap.size ≤ k ∧ (Sc.row ⟨ff, tt, life0, era, L' ++ [l], u + pp, dead⟩ A3 c3).ownBlock = some k) := Lib.hid (by
                rcases HR3.out with h1 | ⟨k, h1, h2⟩
                · rcases HRW.out with h3 | ⟨k, h3, h4⟩
                  · exact .inl (h1.trans h3)
                  · exact .inr ⟨k, h3, h1.trans h4⟩
                · exact .inr ⟨k, Nat.le_trans (Nat.le_trans HC.out.size HBD.out.size) h1, h2⟩)
              have HTN : Hid (T = ((L' ++ [l]) ++ (scan d.S tt era (ff + (u + pp)) (L' ++ [l]).length l1).1, (scan d.S tt era (ff + (u + pp)) (L' ++ [l]).length l1).2)) := Lib.hid (by
                have h1 := HTE.out
                have h2 := HGO.out
                simp only [Int.toNat_natCast] at h2
                rw [h2] at h1
                rw [h1, show ff + (u + pp) = q + pp by have := HQE.out; omega, List.length_append, List.length_singleton]
                simp only [List.append_assoc, List.singleton_append])
              have HLN2 : Hid ((L' ++ [l]).length ≤ L0.length + (u + pp)) := Lib.hid (by rw [List.length_append, List.length_singleton]; have := HLN.out; have := HPR.out; omega)
              have hfu2 : ff + (u + pp) ≤ 2048 := by have h1 := HPR.out; have h2 := HQE.out; have h3 : tt ≤ d.S.length := HTT.out; have h4 := HSL.out; omega
              have m1 : wr.cell? ⟨s, 6, none⟩ = some (.int .i64 u) := HS.out.got.2.2.2.2.2.2.1
              have m2 : y2.cell? ⟨s, 6, none⟩ = some (.int .i64 ((u + pp : Nat) : Int)) := HS3.out.got.2.2.2.2.2.2.1
              have M1 := Lib.hid m1
              have M2 := Lib.hid m2
              have HPP := Lib.hid (show 1 ≤ pp ∧ u + pp ≤ 2048 by have := HPR.out; omega)
              clear m1 m2
              go_wp2_with fail
              go_roundw
              case rel => exact ⟨A3, c3, R' ++ [⟨A1, c1, l⟩], L' ++ [l], u + pp, l1, rfl, HS3, HCN, HRN, hfu2, HLN2, HTN, Lib.hid HDN.out⟩
              case measure =>
                rw [M1.out, M2.out]
                simp only [Option.getD_some, intOf]
                have := HPP.out
                omega
          · have f1 : (g1 != era) = false := by simp [e1]
            have f2 : (g2 != (n1 : Int)) = true := by simpa using e2
            have HEND := Lib.hid (HENDQ.out (scan_stop (fun bb f0 h0 => by rw [HX.out] at h0; injection h0 with h0; injection h0 with _ h0; subst h0; rintro ⟨_, h3, _⟩; rw [HN1.out] at h3; exact e2 h3)))
            clear e1 e2
            go_wp2_with fail
            go_quiet ((go_at_call 55; refine Calls.quiet_of_same (HNX.out _)))
            go_wp2_with fail
            refine bodyPost_ret (v := .tuple #[]) (by simp [results, Try.results52, go_sem]) rfl ?_
            exact ⟨rfl, A', c', R', HEND.out _ (below_drewN HBY.out _)⟩
        · have f1 : (g1 != era) = true := by simpa using e1
          have HEND := Lib.hid (HENDQ.out (scan_stop (fun bb f0 h0 => by rw [HX.out] at h0; injection h0 with h0; injection h0 with _ h0; subst h0; rintro ⟨h3, _, _⟩; exact e1 h3)))
          clear e1
          go_wp2_with fail
          go_quiet ((go_at_call 55; refine Calls.quiet_of_same (HNX.out _)))
          go_wp2_with fail
          refine bodyPost_ret (v := .tuple #[]) (by simp [results, Try.results52, go_sem]) rfl ?_
          exact ⟨rfl, A', c', R', HEND.out _ (below_drewN HBY.out _)⟩
end
end Go.Proofs.Ytiggcpfmmgmncaa
