import Derived.Test.YtldnponbkhgijaaBK12
section
namespace Go.Proofs.Ytldnponbkhgijaa
open Go.ChangeShapes Go.WideShapes Go.ChangeAt Go.RowKit
set_option linter.unusedVariables false
set_option linter.unusedSimpArgs false

set_option maxHeartbeats 32000000 in
set_option maxRecDepth 100000 in
theorem bmoves_C12 (a0 : Option Addr) (c0 : Nat) (l : List Po) (fa fc ta tc oa oc : Int) (a3 : Option Addr) (c3 : Nat) (l3 : List Lg) (w : World) (hl3 : l3.length ≤ c3) (hc3 : c3 ≤ maxLen) (hs3 : Sl w a3 (rc Lg.cells l3)) (hq3 : ∀ y ∈ l3, In64 y.qty) (hs : Sl w a0 (rc Po.cells l)) (hd : ∀ g ∈ l, InH w g) (hf1 : Hid (oa ≠ fa)) (ht1 : Hid (oa = ta)) (ht2 : Hid (oc ≠ tc)) :
    Calls Try.prog 7 #[.slice a0 l.length c0, .agg #[.int .i64 fa, .int .i64 fc], .agg #[.int .i64 ta, .int .i64 tc], .agg #[.int .i64 oa, .int .i64 oc], .slice a3 l3.length c3] w fun e w' => e = .returned (.bool true) ∧ Below w.heap.size w w' := by
  have hB := since_alloc (since_alloc (since_alloc (Below.refl _ w) (.cells #[.int .i64 fa, .int .i64 fc] 24)) (.cells #[.int .i64 ta, .int .i64 tc] 24)) (.cells #[.int .i64 oa, .int .i64 oc] 24)
  have hK1 := ((Bk.new w #[.int .i64 fa, .int .i64 fc] 24).alloc (.cells #[.int .i64 ta, .int .i64 tc] 24)).alloc (.cells #[.int .i64 oa, .int .i64 oc] 24)
  have hK2 := (Bk.new (w.alloc (.cells #[.int .i64 fa, .int .i64 fc] 24)) #[.int .i64 ta, .int .i64 tc] 24).alloc (.cells #[.int .i64 oa, .int .i64 oc] 24)
  have hK3 := Bk.new ((w.alloc (.cells #[.int .i64 fa, .int .i64 fc] 24)).alloc (.cells #[.int .i64 ta, .int .i64 tc] 24)) #[.int .i64 oa, .int .i64 oc] 24
  rw [World.size_alloc] at hK2
  rw [World.size_alloc, World.size_alloc] at hK3
  have HF1 := Lib.hid (few19_any a0 c0 l _ (hs.below hB) (fun g hg => (hd g hg).below hB))
  obtain ⟨M, hM⟩ : ∃ M, l3.take 12 = M := ⟨_, rfl⟩
  have hM12 : M.length ≤ 12 := by rw [← hM]; simp; omega
  have hM6 : ∀ y ∈ M, In64 y.qty := by rw [← hM]; exact fun y hy => hq3 y (List.mem_of_mem_take hy)
  have hsM : Sl w a3 (rc Lg.cells M) := by rw [← hM, ← rc_take Lg.len]; exact hs3.take _
  have HF2 := few11_any a3 c3 l3
  rw [hM] at HF2
  have HF2 := Lib.hid (fun V h => HF2 V hl3 hc3 h)
  have hs3 := hs3.below hB
  have hsM := hsM.below hB
  have HLV := Lib.hid (fun V => lives19_any V)
  clear hs hd hM hl3 hc3 hq3
  go_enter Try.func7, Try.ntmps7
  go_upto_region 1 with fail
  generalize hWW : ((w.alloc (.cells #[.int .i64 fa, .int .i64 fc] 24)).alloc (.cells #[.int .i64 ta, .int .i64 tc] 24)).alloc (.cells #[.int .i64 oa, .int .i64 oc] 24) = W at *
  clear hWW
  obtain ⟨hK1_l, hK1_c⟩ := id hK1
  have hK1_0 := hK1_c 0
  have hK1_1 := hK1_c 1
  simp at hK1_0 hK1_1
  clear hK1_c
  obtain ⟨hK2_l, hK2_c⟩ := id hK2
  have hK2_0 := hK2_c 0
  have hK2_1 := hK2_c 1
  simp at hK2_0 hK2_1
  clear hK2_c
  obtain ⟨hK3_l, hK3_c⟩ := id hK3
  have hK3_0 := hK3_c 0
  have hK3_1 := hK3_c 1
  simp at hK3_0 hK3_1
  clear hK3_c
  go_wp2_with fail
  refine (HF1.out).mono ?_
  rintro e z1 ⟨⟨R, cs, A, c, rfl, hs, ht, hcap, hR, hgd⟩, hb⟩
  have hB := since_step hB hb
  have hK1 := hK1.below hb
  have hK2 := hK2.below hb
  have hK3 := hK3.below hb
  have hs3 := hs3.below hb
  have hsM := hsM.below hb
  clear hb
  clear hK1_l hK1_0 hK1_1 hK2_l hK2_0 hK2_1 hK3_l hK3_0 hK3_1
  have hRc := ht.1
  have hR8 : R.length ≤ 800000 := by omega
  have hR9 : R.length ≤ 900000 := by omega
  have hcs : cs.length ≤ 12 := by omega
  have hcl9 : ∀ g ∈ cs, g.L.length ≤ 900000 := fun g hg => Nat.le_trans (hgd.1 g hg) (by omega)
  have hcl4 : ∀ g ∈ cs, g.L.length ≤ 400000 := fun g hg => Nat.le_trans (hgd.1 g hg) (by omega)
  have hM4 : M.length ≤ 400000 := by omega
  have HV1 := Lib.hid (fun V h1 h2 h3 => bmove_any A c R cs fa fc ta tc a3 c3 M V hR8 hcl4 hgd.2 hM4 hM6 h1 h2 h3)
  obtain ⟨vn, VL, hV⟩ : ∃ n L, moveP cs fa fc ta tc M = (n, L) := ⟨_, _, rfl⟩
  rw [hV] at HV1
  unfold HRes at HV1
  simp only at HV1
  have HT := Lib.hid (And.intro hs ht)
  clear hs ht hcap hR hRc hM12
  obtain ⟨hK1_l, hK1_c⟩ := id hK1
  have hK1_0 := hK1_c 0
  have hK1_1 := hK1_c 1
  simp at hK1_0 hK1_1
  clear hK1_c
  obtain ⟨hK2_l, hK2_c⟩ := id hK2
  have hK2_0 := hK2_c 0
  have hK2_1 := hK2_c 1
  simp at hK2_0 hK2_1
  clear hK2_c
  obtain ⟨hK3_l, hK3_c⟩ := id hK3
  have hK3_0 := hK3_c 0
  have hK3_1 := hK3_c 1
  simp at hK3_0 hK3_1
  clear hK3_c
  go_wp2_with fail
  refine (HF2.out _ hs3).mono ?_
  rintro e z2 ⟨rfl, hb⟩
  have hB := since_step hB hb
  have hK1 := hK1.below hb
  have hK2 := hK2.below hb
  have hK3 := hK3.below hb
  have hs3 := hs3.below hb
  have hsM := hsM.below hb
  have HT := Lib.hid (And.intro (HT.out.1.below hb) (HT.out.2.below hb))
  clear hb
  clear hK1_l hK1_0 hK1_1 hK2_l hK2_0 hK2_1 hK3_l hK3_0 hK3_1
  clear hs3
  obtain ⟨hK1_l, hK1_c⟩ := id hK1
  have hK1_0 := hK1_c 0
  have hK1_1 := hK1_c 1
  simp at hK1_0 hK1_1
  clear hK1_c
  obtain ⟨hK2_l, hK2_c⟩ := id hK2
  have hK2_0 := hK2_c 0
  have hK2_1 := hK2_c 1
  simp at hK2_0 hK2_1
  clear hK2_c
  obtain ⟨hK3_l, hK3_c⟩ := id hK3
  have hK3_0 := hK3_c 0
  have hK3_1 := hK3_c 1
  simp at hK3_0 hK3_1
  clear hK3_c
  go_wp2_with fail
  refine (HV1.out _ HT.out.1 HT.out.2 hsM).mono ?_
  rintro e z3 ⟨⟨m1, X1, d1, rfl, hsN, htN, _⟩, hb⟩
  have hB := since_step hB hb
  have hK1 := hK1.below hb
  have hK2 := hK2.below hb
  have hK3 := hK3.below hb
  have hsM := hsM.below hb
  have HT := Lib.hid (And.intro (HT.out.1.below hb) (HT.out.2.below hb))
  clear hb
  clear hK1_l hK1_0 hK1_1 hK2_l hK2_0 hK2_1 hK3_l hK3_0 hK3_1
  have HR1 := Lib.hid (And.intro hsN htN)
  clear hsN htN
  clear HV1 HF1 HF2
  by_cases hm0 : vn = 0
  · subst hm0
    obtain ⟨_, hVi, hV6, hVl, hVc⟩ := movP_is hV
    have hV6 := hV6 hgd.2
    have hVc := hVc 400000 (by omega) hcl4
    have hVc9 : ∀ g ∈ VL, g.L.length ≤ 900000 := fun g hg => Nat.le_trans (hVc g hg) (by omega)
    have HSUM := Lib.hid (fun k h1 h8 => movP_sum hV k h1 h8)
    have HTA := Lib.hid (fun A1 c1 l1 k V hl h1 h2 => bopen_any A1 c1 l1 VL k V hl hVc9 hV6 h1 h2)
    have HTL := Lib.hid (fun k V h1 h2 => bopen_any A c R cs k V hR9 hcl9 hgd.2 h1 h2)
    have hMB := fun A1 c1 l1 V hl h1 h2 h3 => bmove_any A1 c1 l1 VL ta tc fa fc a3 c3 M V hl hVc hV6 hM4 hM6 h1 h2 h3
    obtain ⟨kn, KL, hK⟩ : ∃ n L, moveP VL ta tc fa fc M = (n, L) := ⟨_, _, rfl⟩
    rw [hK] at hMB
    unfold HRes at hMB
    simp only at hMB
    have HMB := Lib.hid hMB
    have hIA := fun A1 c1 l1 V hl h1 h2 => his_any A1 c1 l1 VL V hl hVc9 h1 h2
    rw [hVi] at hIA
    have HIA := Lib.hid hIA
    have hBA := fun A1 c1 l1 V hl h1 h2 => bbal_any A1 c1 l1 VL V hl hVc9 hV6 h1 h2
    rw [balP_same (fun k h1 h8 => movP_sum hV k h1 h8)] at hBA
    have HBA := Lib.hid hBA
    have HBL := Lib.hid (fun V h1 h2 => bbal_any A c R cs V hR9 hcl9 hgd.2 h1 h2)
    generalize balP cs = bp at *
    have hbp : (bp == bp) = true := by simp
    have HSB := Lib.hid (fun A1 c1 l1 A2 c2 l2 V hl h1 t1 h2 t2 => rhsame_self A1 c1 l1 A2 c2 l2 cs V hl hcl9 h1 t1 h2 t2)
    have HZV : Hid (VL.length ≤ 800000) := Lib.hid (by omega)
    have HZR := Lib.hid hR8
    clear hMB hIA hBA
    have hLO1 := fun A1 c1 l1 V hl h1 h2 => hlots_any A1 c1 l1 VL oa oc V hl hVc9 h1 h2
    rw [movP_other hV (fun h => hf1.out h.1) (fun h => ht2.out h.2)] at hLO1
    have HLO1 := Lib.hid hLO1
    have HLO := Lib.hid (fun V h1 h2 => hlots_any A c R cs oa oc V hR9 hcl9 h1 h2)
    have hlo := lotsH_len hgd.1 oa oc
    have HSO := Lib.hid (fun A1 A2 c1 c2 V h1 h2 => rvsame_any_self A1 A2 c1 c2 (lotsH cs oa oc) V (by omega) h1 h2)
    generalize lotsH cs oa oc = L1 at *
    clear hLO1 hlo
    have HKB : Hid (kn = 0 → KL = cs) := Lib.hid (fun h => by subst h; exact movP_back hV hK)
    clear hVi hV6 hVl hVc hVc9 hgd hV hK hR9 hR8 hcl9 hcl4 hM4 hM6
    have bf1 : (oa != fa) = true := by simpa using hf1.out
    have cf1 : (oa == fa) = false := by simpa using hf1.out
    clear hf1
    have bt1 : (oa != ta) = false := by rw [ht1.out]; simp
    have bt2 : (oc != tc) = true := by simpa using ht2.out
    have ct1 : (oa == ta) = true := by rw [ht1.out]; simp
    have ct2 : (oc == tc) = false := by simpa using ht2.out
    clear ht1 ht2
    go_wp2_with fail
    go_loopw [13] (fun iv wr => ∃ k : Nat, 1 ≤ k ∧ k ≤ 9 ∧ iv = .int .i64 k ∧ Below z3.heap.size z3 wr) (fun iv _ => 9 - (intOf iv).toNat)
    case atStart => exact ⟨1, by omega, by omega, rfl, Below.refl _ _⟩
    case round =>
      obtain ⟨k, hk1, hk9, rfl, hbr⟩ := hrel
      by_cases hk : k ≤ 8
      · have hki : (k : Int) ≤ 8 := by omega
        have HTLk := Lib.hid (fun V h1 h2 => HTL.out (k : Int) V h1 h2)
        have HTAk := Lib.hid (fun A1 c1 l1 V hl h1 h2 => HTA.out A1 c1 l1 (k : Int) V hl h1 h2)
        rw [HSUM.out (k : Int) (by omega) (by omega)] at HTAk
        obtain ⟨th, hth⟩ : ∃ n, hiN (sumsH cs (k : Int)).sum = n := ⟨_, rfl⟩
        obtain ⟨tl, htl⟩ : ∃ n, loN (sumsH cs (k : Int)).sum = n := ⟨_, rfl⟩
        have hq1 : (th == th) = true := by simp
        have hq2 : (tl == tl) = true := by simp
        rw [hth, htl] at HTLk HTAk
        clear hth htl HTL HTA
        have hBl := hbr
        have HT := Lib.hid (And.intro (HT.out.1.below hbr) (HT.out.2.below hbr))
        have HR1 := Lib.hid (And.intro (HR1.out.1.below hbr) (HR1.out.2.below hbr))
        go_wp2_with fail
        refine (HTAk.out X1 d1 m1 _ (by have := HR1.out.2.1; have := HZV.out; omega) HR1.out.1 HR1.out.2).mono ?_
        rintro e r1 ⟨rfl, hb⟩
        have hBl := since_step hBl hb
        have HT := Lib.hid (And.intro (HT.out.1.below hb) (HT.out.2.below hb))
        have HR1 := Lib.hid (And.intro (HR1.out.1.below hb) (HR1.out.2.below hb))
        clear hb
        go_wp2_with fail
        refine (HTLk.out _ HT.out.1 HT.out.2).mono ?_
        rintro e r2 ⟨rfl, hb⟩
        have hBl := since_step hBl hb
        have HT := Lib.hid (And.intro (HT.out.1.below hb) (HT.out.2.below hb))
        have HR1 := Lib.hid (And.intro (HR1.out.1.below hb) (HR1.out.2.below hb))
        clear hb
        go_wp2_with fail
        go_roundw
        case rel => exact ⟨k + 1, by omega, by omega, by go_num, hBl⟩
        case measure => simp [intOf]; omega
      · have hki : ¬ ((k : Int) ≤ 8) := by omega
        have hB := since_step hB hbr
        have hK1 := hK1.below hbr
        have hK2 := hK2.below hbr
        have hK3 := hK3.below hbr
        have HT := Lib.hid (And.intro (HT.out.1.below hbr) (HT.out.2.below hbr))
        have HR1 := Lib.hid (And.intro (HR1.out.1.below hbr) (HR1.out.2.below hbr))
        have hsM := hsM.below hbr
        clear hbr HTL HTA
        go_upto_region 10 with fail
        have HC : Hid (∀ V, Below wr.heap.size wr V → (V.cell? ⟨w.heap.size, 0, none⟩ = some (.int .i64 fa) ∧ V.cell? ⟨w.heap.size, 1, none⟩ = some (.int .i64 fc)) ∧ (V.cell? ⟨w.heap.size + 1, 0, none⟩ = some (.int .i64 ta) ∧ V.cell? ⟨w.heap.size + 1, 1, none⟩ = some (.int .i64 tc)) ∧ (V.cell? ⟨w.heap.size + 1 + 1, 0, none⟩ = some (.int .i64 oa) ∧ V.cell? ⟨w.heap.size + 1 + 1, 1, none⟩ = some (.int .i64 oc))) := Lib.hid fun V h => ⟨⟨(hK1.below h).2 0, (hK1.below h).2 1⟩, ⟨(hK2.below h).2 0, (hK2.below h).2 1⟩, ⟨(hK3.below h).2 0, (hK3.below h).2 1⟩⟩
        have HR0 : Hid (∀ V, Below wr.heap.size wr V → Sl V A (rc Po.cells R) ∧ PoTab V R cs) := Lib.hid fun V h => ⟨HT.out.1.below h, HT.out.2.below h⟩
        have HRA : Hid (∀ V, Below wr.heap.size wr V → Sl V X1 (rc Po.cells m1) ∧ PoTab V m1 VL) := Lib.hid fun V h => ⟨HR1.out.1.below h, HR1.out.2.below h⟩
        have HM0 : Hid (∀ V, Below wr.heap.size wr V → Sl V a3 (rc Lg.cells M)) := Lib.hid fun V h => hsM.below h
        have hszU := hB.size
        clear hK1 hK2 hK3 HT HR1 hsM
        go_wp2_with fail
        refine wp_region_held_drew (S := (fun V => Below wr.heap.size wr V)) (by kernel_rfl) (by exact (Below.refl _ _).drew) (fun hHeld => ?_)
        refine wpAnyH_take (i := 0) (oi := { dst := some 47, op := _, type := _, pos := _, after := _, guard := _ }) (v := ?_) rfl (by kernel_rfl) (by kernel_rfl) (by kernel_rfl) (fun _ _ _ h => h) (Or.inl ⟨by rfl, ?_⟩) hHeld ?_
        rotate_left
        · (intro w hSw; obtain ⟨⟨p0, p1⟩, ⟨p2, p3⟩, ⟨p4, p5⟩⟩ := HC.out _ hSw; go_simp <;> with_reducible rfl)
        try simp only [Act.put, List.setIfInBounds_toArray, List.set_cons_zero, List.set_cons_succ]
        refine wpAnyH_take (i := 1) (oi := { dst := some 48, op := _, type := _, pos := _, after := _, guard := _ }) (v := ?_) rfl (by kernel_rfl) (by kernel_rfl) (by kernel_rfl) (fun _ _ _ h => h) (Or.inl ⟨by rfl, ?_⟩) hHeld ?_
        rotate_left
        · (intro w hSw; obtain ⟨⟨p0, p1⟩, ⟨p2, p3⟩, ⟨p4, p5⟩⟩ := HC.out _ hSw; go_simp <;> with_reducible rfl)
        try simp only [Act.put, List.setIfInBounds_toArray, List.set_cons_zero, List.set_cons_succ]
        refine wpAnyH_take (i := 2) (oi := { dst := some 49, op := _, type := _, pos := _, after := _, guard := _ }) (v := ?_) rfl (by kernel_rfl) (by kernel_rfl) (by kernel_rfl) (fun _ _ _ h => h) (Or.inl ⟨by rfl, ?_⟩) hHeld ?_
        rotate_left
        · (intro w hSw; clear hSw; go_simp <;> with_reducible rfl)
        try simp only [Act.put, List.setIfInBounds_toArray, List.set_cons_zero, List.set_cons_succ]
        refine wpAnyH_take (i := 3) (oi := { dst := some 50, op := _, type := _, pos := _, after := _, guard := _ }) (v := ?_) rfl (by kernel_rfl) (by kernel_rfl) (by kernel_rfl) (fun _ _ _ h => h) (Or.inl ⟨by rfl, ?_⟩) hHeld ?_
        rotate_left
        · (intro w hSw; clear hSw; go_simp <;> with_reducible rfl)
        try simp only [Act.put, List.setIfInBounds_toArray, List.set_cons_zero, List.set_cons_succ]
        refine wpAnyH_take (i := 4) (oi := { dst := some 51, op := _, type := _, pos := _, after := _, guard := _ }) (v := ?_) rfl (by kernel_rfl) (by kernel_rfl) (by kernel_rfl) (fun _ _ _ h => h) (Or.inl ⟨by rfl, ?_⟩) hHeld ?_
        rotate_left
        · (intro w hSw; obtain ⟨⟨p0, p1⟩, ⟨p2, p3⟩, ⟨p4, p5⟩⟩ := HC.out _ hSw; go_simp <;> with_reducible rfl)
        try simp only [Act.put, List.setIfInBounds_toArray, List.set_cons_zero, List.set_cons_succ]
        refine wpAnyH_take (i := 5) (oi := { dst := some 52, op := _, type := _, pos := _, after := _, guard := _ }) (v := ?_) rfl (by kernel_rfl) (by kernel_rfl) (by kernel_rfl) (fun _ _ _ h => h) (Or.inl ⟨by rfl, ?_⟩) hHeld ?_
        rotate_left
        · (intro w hSw; obtain ⟨⟨p0, p1⟩, ⟨p2, p3⟩, ⟨p4, p5⟩⟩ := HC.out _ hSw; go_simp <;> with_reducible rfl)
        try simp only [Act.put, List.setIfInBounds_toArray, List.set_cons_zero, List.set_cons_succ]
        refine wpAnyH_take (i := 6) (oi := { dst := some 53, op := _, type := _, pos := _, after := _, guard := _ }) (v := ?_) rfl (by kernel_rfl) (by kernel_rfl) (by kernel_rfl) (fun _ _ _ h => h) (Or.inl ⟨by rfl, ?_⟩) hHeld ?_
        rotate_left
        · (intro w hSw; clear hSw; go_simp <;> with_reducible rfl)
        try simp only [Act.put, List.setIfInBounds_toArray, List.set_cons_zero, List.set_cons_succ]
        refine wpAnyH_take (i := 7) (oi := { dst := some 54, op := _, type := _, pos := _, after := _, guard := _ }) (v := ?_) rfl (by kernel_rfl) (by kernel_rfl) (by kernel_rfl) (fun _ _ _ h => h) (Or.inl ⟨by rfl, ?_⟩) hHeld ?_
        rotate_left
        · (intro w hSw; clear hSw; go_simp <;> with_reducible rfl)
        try simp only [Act.put, List.setIfInBounds_toArray, List.set_cons_zero, List.set_cons_succ]
        refine wpAnyH_take (i := 8) (oi := { dst := some 55, op := _, type := _, pos := _, after := _, guard := _ }) (v := ?_) rfl (by kernel_rfl) (by kernel_rfl) (by kernel_rfl) (fun _ _ _ h => h) (Or.inl ⟨by rfl, ?_⟩) hHeld ?_
        rotate_left
        · (intro w hSw; clear hSw; go_simp <;> with_reducible rfl)
        try simp only [Act.put, List.setIfInBounds_toArray, List.set_cons_zero, List.set_cons_succ]
        refine wpAnyH_take (i := 9) (oi := { dst := some 56, op := _, type := _, pos := _, after := _, guard := _ }) (v := ?_) rfl (by kernel_rfl) (by kernel_rfl) (by kernel_rfl) (fun _ _ _ h => h) (Or.inl ⟨by rfl, ?_⟩) hHeld ?_
        rotate_left
        · (intro w hSw; clear hSw; go_simp <;> with_reducible rfl)
        try simp only [Act.put, List.setIfInBounds_toArray, List.set_cons_zero, List.set_cons_succ]
        refine wpAnyH_take (i := 10) (oi := { dst := some 57, op := _, type := _, pos := _, after := _, guard := _ }) (v := ?_) rfl (by kernel_rfl) (by kernel_rfl) (by kernel_rfl) (fun _ _ _ h => h) (Or.inl ⟨by rfl, ?_⟩) hHeld ?_
        rotate_left
        · (intro w hSw; obtain ⟨⟨p0, p1⟩, ⟨p2, p3⟩, ⟨p4, p5⟩⟩ := HC.out _ hSw; go_simp <;> with_reducible rfl)
        try simp only [Act.put, List.setIfInBounds_toArray, List.set_cons_zero, List.set_cons_succ]
        refine wpAnyH_take (i := 12) (oi := { dst := some 59, op := _, type := _, pos := _, after := _, guard := _ }) (v := ?_) rfl (by kernel_rfl) (by kernel_rfl) (by kernel_rfl) (fun _ _ _ h => h) (Or.inl ⟨by rfl, ?_⟩) hHeld ?_
        rotate_left
        · (intro w hSw; clear hSw; go_simp <;> with_reducible rfl)
        try simp only [Act.put, List.setIfInBounds_toArray, List.set_cons_zero, List.set_cons_succ]
        refine wpAnyH_take (i := 13) (oi := { dst := some 60, op := _, type := _, pos := _, after := _, guard := _ }) (v := ?_) rfl (by kernel_rfl) (by kernel_rfl) (by kernel_rfl) (fun _ _ _ h => h) (Or.inl ⟨by rfl, ?_⟩) hHeld ?_
        rotate_left
        · (intro w hSw; obtain ⟨⟨p0, p1⟩, ⟨p2, p3⟩, ⟨p4, p5⟩⟩ := HC.out _ hSw; go_simp <;> with_reducible rfl)
        try simp only [Act.put, List.setIfInBounds_toArray, List.set_cons_zero, List.set_cons_succ]
        refine wpAnyH_ready (rs := [11]) (by kernel_rfl) (by simp) ?_
        refine AllReadyH.cons (o := { dst := some 58, op := _, type := _, pos := _, after := _, guard := _ }) rfl (fun K hK => ?_) AllReadyH.nil
        go_simp
        refine (HLO1.out X1 d1 m1 _ (by have := (show PoTab _ _ _ from (HRA.out _ hHeld).2).1; have := HZV.out; omega) (HRA.out _ hHeld).1 (HRA.out _ hHeld).2).mono ?_
        rintro e x5 ⟨⟨A6, c6, rfl, o6⟩, hk5⟩
        have hKeep := since_step hHeld hk5
        have h6 := Sl.of_own o6
        clear o6
        go_wp2_with fail
        refine hK.out _ _ (by (try dsimp only); exact hKeep) (fun hHeld => ?_)
        clear hK K hKeep
        try simp only [Act.put, List.setIfInBounds_toArray, List.set_cons_zero, List.set_cons_succ]
        refine wpAnyH_ready (rs := [14]) (by kernel_rfl) (by simp) ?_
        refine AllReadyH.cons (o := { dst := some 61, op := _, type := _, pos := _, after := _, guard := _ }) rfl (fun K hK => ?_) AllReadyH.nil
        go_simp
        refine (HLO.out _ (HR0.out _ hHeld).1 (HR0.out _ hHeld).2).mono ?_
        rintro e x6 ⟨⟨A7, c7, rfl, o7⟩, hk6⟩
        have hKeep := since_step hHeld hk6
        have h6 := h6.below hk6
        have h7 := Sl.of_own o7
        clear o7
        go_wp2_with fail
        refine hK.out _ _ (by (try dsimp only); exact hKeep) (fun hHeld => ?_)
        clear hK K hKeep
        try simp only [Act.put, List.setIfInBounds_toArray, List.set_cons_zero, List.set_cons_succ]
        refine wpAnyH_ready (rs := [15]) (by kernel_rfl) (by simp) ?_
        refine AllReadyH.cons (o := { dst := some 62, op := _, type := _, pos := _, after := _, guard := _ }) rfl (fun K hK => ?_) AllReadyH.nil
        go_simp
        refine (HSO.out A6 A7 c6 c7 _ h6 h7).mono ?_
        rintro e x7 ⟨rfl, hk7⟩
        have hKeep := since_step hHeld hk7
        clear h6 h7
        go_wp2_with fail
        refine hK.out _ _ (by (try dsimp only); exact hKeep) (fun hHeld => ?_)
        clear hK K hKeep
        try simp only [Act.put, List.setIfInBounds_toArray, List.set_cons_zero, List.set_cons_succ]
        refine wpAnyH_take (i := 16) (oi := { dst := some 63, op := _, type := _, pos := _, after := _, guard := _ }) (v := ?_) rfl (by kernel_rfl) (by kernel_rfl) (by kernel_rfl) (fun _ _ _ h => h) (Or.inl ⟨by rfl, ?_⟩) hHeld ?_
        rotate_left
        · (intro w hSw; clear hSw; go_simp <;> with_reducible rfl)
        try simp only [Act.put, List.setIfInBounds_toArray, List.set_cons_zero, List.set_cons_succ]
        refine wpAnyH_take (i := 17) (oi := { dst := some 64, op := _, type := _, pos := _, after := _, guard := _ }) (v := ?_) rfl (by kernel_rfl) (by kernel_rfl) (by kernel_rfl) (fun _ _ _ h => h) (Or.inl ⟨by rfl, ?_⟩) hHeld ?_
        rotate_left
        · (intro w hSw; clear hSw; go_simp <;> with_reducible rfl)
        try simp only [Act.put, List.setIfInBounds_toArray, List.set_cons_zero, List.set_cons_succ]
        refine wpAnyH_done (by kernel_rfl) ?_ _
        have hB := hB.trans (hHeld.mono hszU)
        obtain ⟨⟨p0, p1⟩, ⟨p2, p3⟩, ⟨p4, p5⟩⟩ := HC.out _ hHeld
        have HT := Lib.hid (HR0.out _ hHeld)
        have HR1 := Lib.hid (HRA.out _ hHeld)
        have hsM := HM0.out _ hHeld
        clear HR0 HRA HM0 HC hHeld
        go_wp2_with fail
        refine (HMB.out X1 d1 m1 _ (by have := HR1.out.2.1; have := HZV.out; omega) HR1.out.1 HR1.out.2 hsM).mono ?_
        rintro e v1 ⟨⟨m3, X3, d3, rfl, hsN, htN, _⟩, hb⟩
        have hB := since_step hB hb
        have HT := Lib.hid (And.intro (HT.out.1.below hb) (HT.out.2.below hb))
        have HR1 := Lib.hid (And.intro (HR1.out.1.below hb) (HR1.out.2.below hb))
        clear hb
        have HR3 := Lib.hid (And.intro hsN htN)
        clear hsN htN p0 p1 p2 p3 p4 p5 hsM
        by_cases hk0 : kn = 0
        · have hKc := HKB.out hk0
          subst hk0
          rw [hKc] at HR3
          have HZ3 : Hid (m3.length ≤ 900000) := Lib.hid (by have h3 := HR3.out.2.1; have h4 := HT.out.2.1; have := HZR.out; omega)
          clear hKc HKB
          go_wp2_with fail
          refine (HSB.out _ _ _ _ _ _ _ HZ3.out HR3.out.1 HR3.out.2 HT.out.1 HT.out.2).mono ?_
          rintro e u1 ⟨rfl, hb⟩
          have hB := since_step hB hb
          have HT := Lib.hid (And.intro (HT.out.1.below hb) (HT.out.2.below hb))
          have HR1 := Lib.hid (And.intro (HR1.out.1.below hb) (HR1.out.2.below hb))
          have HR3 := Lib.hid (And.intro (HR3.out.1.below hb) (HR3.out.2.below hb))
          clear hb
          clear HR3
          go_wp2_with fail
          refine (HIA.out X1 d1 m1 _ (by have := HR1.out.2.1; have := HZV.out; omega) HR1.out.1 HR1.out.2).mono ?_
          rintro e u2 ⟨rfl, hb⟩
          have hB := since_step hB hb
          have HT := Lib.hid (And.intro (HT.out.1.below hb) (HT.out.2.below hb))
          have HR1 := Lib.hid (And.intro (HR1.out.1.below hb) (HR1.out.2.below hb))
          clear hb
          go_wp2_with fail
          refine (HBA.out X1 d1 m1 _ (by have := HR1.out.2.1; have := HZV.out; omega) HR1.out.1 HR1.out.2).mono ?_
          rintro e u3 ⟨rfl, hb⟩
          have hB := since_step hB hb
          have HT := Lib.hid (And.intro (HT.out.1.below hb) (HT.out.2.below hb))
          have HR1 := Lib.hid (And.intro (HR1.out.1.below hb) (HR1.out.2.below hb))
          clear hb
          go_wp2_with fail
          refine (HBL.out _ HT.out.1 HT.out.2).mono ?_
          rintro e u4 ⟨rfl, hb⟩
          have hB := since_step hB hb
          have HT := Lib.hid (And.intro (HT.out.1.below hb) (HT.out.2.below hb))
          have HR1 := Lib.hid (And.intro (HR1.out.1.below hb) (HR1.out.2.below hb))
          clear hb
          clear HT HR1
          go_wp2_with fail
          refine (HLV.out _).mono ?_
          rintro e u5 ⟨rfl, hb⟩
          have hB := since_step hB hb
          clear hb
          go_wp2_with fail
          go_ret
          exact ⟨rfl, hB⟩
        · have hkb : (kn != 0) = true := by simpa using hk0
          have hkb2 : (kn == 0) = false := by simpa using hk0
          clear hk0 HR3 HKB
          go_wp2_with fail
          refine (HIA.out X1 d1 m1 _ (by have := HR1.out.2.1; have := HZV.out; omega) HR1.out.1 HR1.out.2).mono ?_
          rintro e u1 ⟨rfl, hb⟩
          have hB := since_step hB hb
          have HT := Lib.hid (And.intro (HT.out.1.below hb) (HT.out.2.below hb))
          have HR1 := Lib.hid (And.intro (HR1.out.1.below hb) (HR1.out.2.below hb))
          clear hb
          go_wp2_with fail
          refine (HBA.out X1 d1 m1 _ (by have := HR1.out.2.1; have := HZV.out; omega) HR1.out.1 HR1.out.2).mono ?_
          rintro e u2 ⟨rfl, hb⟩
          have hB := since_step hB hb
          have HT := Lib.hid (And.intro (HT.out.1.below hb) (HT.out.2.below hb))
          have HR1 := Lib.hid (And.intro (HR1.out.1.below hb) (HR1.out.2.below hb))
          clear hb
          go_wp2_with fail
          refine (HBL.out _ HT.out.1 HT.out.2).mono ?_
          rintro e u3 ⟨rfl, hb⟩
          have hB := since_step hB hb
          have HT := Lib.hid (And.intro (HT.out.1.below hb) (HT.out.2.below hb))
          have HR1 := Lib.hid (And.intro (HR1.out.1.below hb) (HR1.out.2.below hb))
          clear hb
          clear HT HR1
          go_wp2_with fail
          refine (HLV.out _).mono ?_
          rintro e u4 ⟨rfl, hb⟩
          have hB := since_step hB hb
          clear hb
          go_wp2_with fail
          go_ret
          exact ⟨rfl, hB⟩
  · have hVn := movP_err hV hm0
    have hl0 : ((m1.length : Int) == 0) = true := by
      have := HR1.out.2.1
      rw [hVn] at this
      rw [this]; rfl
    have hvb : (vn != 0) = true := by simpa using hm0
    have hvb2 : (vn == 0) = false := by simpa using hm0
    clear hVn hm0 hV HR1 HT hgd hR9 hR8 hcl9 hcl4 hM4 hM6 hK1 hK2 hK3 hsM hcs
    go_wp2_with fail
    refine (HLV.out _).mono ?_
    rintro e u1 ⟨rfl, hb⟩
    have hB := since_step hB hb
    go_wp2_with fail
    go_ret
    exact ⟨rfl, hB⟩
set_option maxHeartbeats 32000000 in
set_option maxRecDepth 100000 in
theorem bmoves_C21 (a0 : Option Addr) (c0 : Nat) (l : List Po) (fa fc ta tc oa oc : Int) (a3 : Option Addr) (c3 : Nat) (l3 : List Lg) (w : World) (hl3 : l3.length ≤ c3) (hc3 : c3 ≤ maxLen) (hs3 : Sl w a3 (rc Lg.cells l3)) (hq3 : ∀ y ∈ l3, In64 y.qty) (hs : Sl w a0 (rc Po.cells l)) (hd : ∀ g ∈ l, InH w g) (hf1 : Hid (oa = fa)) (hf2 : Hid (oc ≠ fc)) (ht1 : Hid (oa ≠ ta)) :
    Calls Try.prog 7 #[.slice a0 l.length c0, .agg #[.int .i64 fa, .int .i64 fc], .agg #[.int .i64 ta, .int .i64 tc], .agg #[.int .i64 oa, .int .i64 oc], .slice a3 l3.length c3] w fun e w' => e = .returned (.bool true) ∧ Below w.heap.size w w' := by
  have hB := since_alloc (since_alloc (since_alloc (Below.refl _ w) (.cells #[.int .i64 fa, .int .i64 fc] 24)) (.cells #[.int .i64 ta, .int .i64 tc] 24)) (.cells #[.int .i64 oa, .int .i64 oc] 24)
  have hK1 := ((Bk.new w #[.int .i64 fa, .int .i64 fc] 24).alloc (.cells #[.int .i64 ta, .int .i64 tc] 24)).alloc (.cells #[.int .i64 oa, .int .i64 oc] 24)
  have hK2 := (Bk.new (w.alloc (.cells #[.int .i64 fa, .int .i64 fc] 24)) #[.int .i64 ta, .int .i64 tc] 24).alloc (.cells #[.int .i64 oa, .int .i64 oc] 24)
  have hK3 := Bk.new ((w.alloc (.cells #[.int .i64 fa, .int .i64 fc] 24)).alloc (.cells #[.int .i64 ta, .int .i64 tc] 24)) #[.int .i64 oa, .int .i64 oc] 24
  rw [World.size_alloc] at hK2
  rw [World.size_alloc, World.size_alloc] at hK3
  have HF1 := Lib.hid (few19_any a0 c0 l _ (hs.below hB) (fun g hg => (hd g hg).below hB))
  obtain ⟨M, hM⟩ : ∃ M, l3.take 12 = M := ⟨_, rfl⟩
  have hM12 : M.length ≤ 12 := by rw [← hM]; simp; omega
  have hM6 : ∀ y ∈ M, In64 y.qty := by rw [← hM]; exact fun y hy => hq3 y (List.mem_of_mem_take hy)
  have hsM : Sl w a3 (rc Lg.cells M) := by rw [← hM, ← rc_take Lg.len]; exact hs3.take _
  have HF2 := few11_any a3 c3 l3
  rw [hM] at HF2
  have HF2 := Lib.hid (fun V h => HF2 V hl3 hc3 h)
  have hs3 := hs3.below hB
  have hsM := hsM.below hB
  have HLV := Lib.hid (fun V => lives19_any V)
  clear hs hd hM hl3 hc3 hq3
  go_enter Try.func7, Try.ntmps7
  go_upto_region 1 with fail
  generalize hWW : ((w.alloc (.cells #[.int .i64 fa, .int .i64 fc] 24)).alloc (.cells #[.int .i64 ta, .int .i64 tc] 24)).alloc (.cells #[.int .i64 oa, .int .i64 oc] 24) = W at *
  clear hWW
  obtain ⟨hK1_l, hK1_c⟩ := id hK1
  have hK1_0 := hK1_c 0
  have hK1_1 := hK1_c 1
  simp at hK1_0 hK1_1
  clear hK1_c
  obtain ⟨hK2_l, hK2_c⟩ := id hK2
  have hK2_0 := hK2_c 0
  have hK2_1 := hK2_c 1
  simp at hK2_0 hK2_1
  clear hK2_c
  obtain ⟨hK3_l, hK3_c⟩ := id hK3
  have hK3_0 := hK3_c 0
  have hK3_1 := hK3_c 1
  simp at hK3_0 hK3_1
  clear hK3_c
  go_wp2_with fail
  refine (HF1.out).mono ?_
  rintro e z1 ⟨⟨R, cs, A, c, rfl, hs, ht, hcap, hR, hgd⟩, hb⟩
  have hB := since_step hB hb
  have hK1 := hK1.below hb
  have hK2 := hK2.below hb
  have hK3 := hK3.below hb
  have hs3 := hs3.below hb
  have hsM := hsM.below hb
  clear hb
  clear hK1_l hK1_0 hK1_1 hK2_l hK2_0 hK2_1 hK3_l hK3_0 hK3_1
  have hRc := ht.1
  have hR8 : R.length ≤ 800000 := by omega
  have hR9 : R.length ≤ 900000 := by omega
  have hcs : cs.length ≤ 12 := by omega
  have hcl9 : ∀ g ∈ cs, g.L.length ≤ 900000 := fun g hg => Nat.le_trans (hgd.1 g hg) (by omega)
  have hcl4 : ∀ g ∈ cs, g.L.length ≤ 400000 := fun g hg => Nat.le_trans (hgd.1 g hg) (by omega)
  have hM4 : M.length ≤ 400000 := by omega
  have HV1 := Lib.hid (fun V h1 h2 h3 => bmove_any A c R cs fa fc ta tc a3 c3 M V hR8 hcl4 hgd.2 hM4 hM6 h1 h2 h3)
  obtain ⟨vn, VL, hV⟩ : ∃ n L, moveP cs fa fc ta tc M = (n, L) := ⟨_, _, rfl⟩
  rw [hV] at HV1
  unfold HRes at HV1
  simp only at HV1
  have HT := Lib.hid (And.intro hs ht)
  clear hs ht hcap hR hRc hM12
  obtain ⟨hK1_l, hK1_c⟩ := id hK1
  have hK1_0 := hK1_c 0
  have hK1_1 := hK1_c 1
  simp at hK1_0 hK1_1
  clear hK1_c
  obtain ⟨hK2_l, hK2_c⟩ := id hK2
  have hK2_0 := hK2_c 0
  have hK2_1 := hK2_c 1
  simp at hK2_0 hK2_1
  clear hK2_c
  obtain ⟨hK3_l, hK3_c⟩ := id hK3
  have hK3_0 := hK3_c 0
  have hK3_1 := hK3_c 1
  simp at hK3_0 hK3_1
  clear hK3_c
  go_wp2_with fail
  refine (HF2.out _ hs3).mono ?_
  rintro e z2 ⟨rfl, hb⟩
  have hB := since_step hB hb
  have hK1 := hK1.below hb
  have hK2 := hK2.below hb
  have hK3 := hK3.below hb
  have hs3 := hs3.below hb
  have hsM := hsM.below hb
  have HT := Lib.hid (And.intro (HT.out.1.below hb) (HT.out.2.below hb))
  clear hb
  clear hK1_l hK1_0 hK1_1 hK2_l hK2_0 hK2_1 hK3_l hK3_0 hK3_1
  clear hs3
  obtain ⟨hK1_l, hK1_c⟩ := id hK1
  have hK1_0 := hK1_c 0
  have hK1_1 := hK1_c 1
  simp at hK1_0 hK1_1
  clear hK1_c
  obtain ⟨hK2_l, hK2_c⟩ := id hK2
  have hK2_0 := hK2_c 0
  have hK2_1 := hK2_c 1
  simp at hK2_0 hK2_1
  clear hK2_c
  obtain ⟨hK3_l, hK3_c⟩ := id hK3
  have hK3_0 := hK3_c 0
  have hK3_1 := hK3_c 1
  simp at hK3_0 hK3_1
  clear hK3_c
  go_wp2_with fail
  refine (HV1.out _ HT.out.1 HT.out.2 hsM).mono ?_
  rintro e z3 ⟨⟨m1, X1, d1, rfl, hsN, htN, _⟩, hb⟩
  have hB := since_step hB hb
  have hK1 := hK1.below hb
  have hK2 := hK2.below hb
  have hK3 := hK3.below hb
  have hsM := hsM.below hb
  have HT := Lib.hid (And.intro (HT.out.1.below hb) (HT.out.2.below hb))
  clear hb
  clear hK1_l hK1_0 hK1_1 hK2_l hK2_0 hK2_1 hK3_l hK3_0 hK3_1
  have HR1 := Lib.hid (And.intro hsN htN)
  clear hsN htN
  clear HV1 HF1 HF2
  by_cases hm0 : vn = 0
  · subst hm0
    obtain ⟨_, hVi, hV6, hVl, hVc⟩ := movP_is hV
    have hV6 := hV6 hgd.2
    have hVc := hVc 400000 (by omega) hcl4
    have hVc9 : ∀ g ∈ VL, g.L.length ≤ 900000 := fun g hg => Nat.le_trans (hVc g hg) (by omega)
    have HSUM := Lib.hid (fun k h1 h8 => movP_sum hV k h1 h8)
    have HTA := Lib.hid (fun A1 c1 l1 k V hl h1 h2 => bopen_any A1 c1 l1 VL k V hl hVc9 hV6 h1 h2)
    have HTL := Lib.hid (fun k V h1 h2 => bopen_any A c R cs k V hR9 hcl9 hgd.2 h1 h2)
    have hMB := fun A1 c1 l1 V hl h1 h2 h3 => bmove_any A1 c1 l1 VL ta tc fa fc a3 c3 M V hl hVc hV6 hM4 hM6 h1 h2 h3
    obtain ⟨kn, KL, hK⟩ : ∃ n L, moveP VL ta tc fa fc M = (n, L) := ⟨_, _, rfl⟩
    rw [hK] at hMB
    unfold HRes at hMB
    simp only at hMB
    have HMB := Lib.hid hMB
    have hIA := fun A1 c1 l1 V hl h1 h2 => his_any A1 c1 l1 VL V hl hVc9 h1 h2
    rw [hVi] at hIA
    have HIA := Lib.hid hIA
    have hBA := fun A1 c1 l1 V hl h1 h2 => bbal_any A1 c1 l1 VL V hl hVc9 hV6 h1 h2
    rw [balP_same (fun k h1 h8 => movP_sum hV k h1 h8)] at hBA
    have HBA := Lib.hid hBA
    have HBL := Lib.hid (fun V h1 h2 => bbal_any A c R cs V hR9 hcl9 hgd.2 h1 h2)
    generalize balP cs = bp at *
    have hbp : (bp == bp) = true := by simp
    have HSB := Lib.hid (fun A1 c1 l1 A2 c2 l2 V hl h1 t1 h2 t2 => rhsame_self A1 c1 l1 A2 c2 l2 cs V hl hcl9 h1 t1 h2 t2)
    have HZV : Hid (VL.length ≤ 800000) := Lib.hid (by omega)
    have HZR := Lib.hid hR8
    clear hMB hIA hBA
    have hLO1 := fun A1 c1 l1 V hl h1 h2 => hlots_any A1 c1 l1 VL oa oc V hl hVc9 h1 h2
    rw [movP_other hV (fun h => hf2.out h.2) (fun h => ht1.out h.1)] at hLO1
    have HLO1 := Lib.hid hLO1
    have HLO := Lib.hid (fun V h1 h2 => hlots_any A c R cs oa oc V hR9 hcl9 h1 h2)
    have hlo := lotsH_len hgd.1 oa oc
    have HSO := Lib.hid (fun A1 A2 c1 c2 V h1 h2 => rvsame_any_self A1 A2 c1 c2 (lotsH cs oa oc) V (by omega) h1 h2)
    generalize lotsH cs oa oc = L1 at *
    clear hLO1 hlo
    have HKB : Hid (kn = 0 → KL = cs) := Lib.hid (fun h => by subst h; exact movP_back hV hK)
    clear hVi hV6 hVl hVc hVc9 hgd hV hK hR9 hR8 hcl9 hcl4 hM4 hM6
    have bf1 : (oa != fa) = false := by rw [hf1.out]; simp
    have bf2 : (oc != fc) = true := by simpa using hf2.out
    have cf1 : (oa == fa) = true := by rw [hf1.out]; simp
    have cf2 : (oc == fc) = false := by simpa using hf2.out
    clear hf1 hf2
    have bt1 : (oa != ta) = true := by simpa using ht1.out
    have ct1 : (oa == ta) = false := by simpa using ht1.out
    clear ht1
    go_wp2_with fail
    go_loopw [13] (fun iv wr => ∃ k : Nat, 1 ≤ k ∧ k ≤ 9 ∧ iv = .int .i64 k ∧ Below z3.heap.size z3 wr) (fun iv _ => 9 - (intOf iv).toNat)
    case atStart => exact ⟨1, by omega, by omega, rfl, Below.refl _ _⟩
    case round =>
      obtain ⟨k, hk1, hk9, rfl, hbr⟩ := hrel
      by_cases hk : k ≤ 8
      · have hki : (k : Int) ≤ 8 := by omega
        have HTLk := Lib.hid (fun V h1 h2 => HTL.out (k : Int) V h1 h2)
        have HTAk := Lib.hid (fun A1 c1 l1 V hl h1 h2 => HTA.out A1 c1 l1 (k : Int) V hl h1 h2)
        rw [HSUM.out (k : Int) (by omega) (by omega)] at HTAk
        obtain ⟨th, hth⟩ : ∃ n, hiN (sumsH cs (k : Int)).sum = n := ⟨_, rfl⟩
        obtain ⟨tl, htl⟩ : ∃ n, loN (sumsH cs (k : Int)).sum = n := ⟨_, rfl⟩
        have hq1 : (th == th) = true := by simp
        have hq2 : (tl == tl) = true := by simp
        rw [hth, htl] at HTLk HTAk
        clear hth htl HTL HTA
        have hBl := hbr
        have HT := Lib.hid (And.intro (HT.out.1.below hbr) (HT.out.2.below hbr))
        have HR1 := Lib.hid (And.intro (HR1.out.1.below hbr) (HR1.out.2.below hbr))
        go_wp2_with fail
        refine (HTAk.out X1 d1 m1 _ (by have := HR1.out.2.1; have := HZV.out; omega) HR1.out.1 HR1.out.2).mono ?_
        rintro e r1 ⟨rfl, hb⟩
        have hBl := since_step hBl hb
        have HT := Lib.hid (And.intro (HT.out.1.below hb) (HT.out.2.below hb))
        have HR1 := Lib.hid (And.intro (HR1.out.1.below hb) (HR1.out.2.below hb))
        clear hb
        go_wp2_with fail
        refine (HTLk.out _ HT.out.1 HT.out.2).mono ?_
        rintro e r2 ⟨rfl, hb⟩
        have hBl := since_step hBl hb
        have HT := Lib.hid (And.intro (HT.out.1.below hb) (HT.out.2.below hb))
        have HR1 := Lib.hid (And.intro (HR1.out.1.below hb) (HR1.out.2.below hb))
        clear hb
        go_wp2_with fail
        go_roundw
        case rel => exact ⟨k + 1, by omega, by omega, by go_num, hBl⟩
        case measure => simp [intOf]; omega
      · have hki : ¬ ((k : Int) ≤ 8) := by omega
        have hB := since_step hB hbr
        have hK1 := hK1.below hbr
        have hK2 := hK2.below hbr
        have hK3 := hK3.below hbr
        have HT := Lib.hid (And.intro (HT.out.1.below hbr) (HT.out.2.below hbr))
        have HR1 := Lib.hid (And.intro (HR1.out.1.below hbr) (HR1.out.2.below hbr))
        have hsM := hsM.below hbr
        clear hbr HTL HTA
        go_upto_region 10 with fail
        have HC : Hid (∀ V, Below wr.heap.size wr V → (V.cell? ⟨w.heap.size, 0, none⟩ = some (.int .i64 fa) ∧ V.cell? ⟨w.heap.size, 1, none⟩ = some (.int .i64 fc)) ∧ (V.cell? ⟨w.heap.size + 1, 0, none⟩ = some (.int .i64 ta) ∧ V.cell? ⟨w.heap.size + 1, 1, none⟩ = some (.int .i64 tc)) ∧ (V.cell? ⟨w.heap.size + 1 + 1, 0, none⟩ = some (.int .i64 oa) ∧ V.cell? ⟨w.heap.size + 1 + 1, 1, none⟩ = some (.int .i64 oc))) := Lib.hid fun V h => ⟨⟨(hK1.below h).2 0, (hK1.below h).2 1⟩, ⟨(hK2.below h).2 0, (hK2.below h).2 1⟩, ⟨(hK3.below h).2 0, (hK3.below h).2 1⟩⟩
        have HR0 : Hid (∀ V, Below wr.heap.size wr V → Sl V A (rc Po.cells R) ∧ PoTab V R cs) := Lib.hid fun V h => ⟨HT.out.1.below h, HT.out.2.below h⟩
        have HRA : Hid (∀ V, Below wr.heap.size wr V → Sl V X1 (rc Po.cells m1) ∧ PoTab V m1 VL) := Lib.hid fun V h => ⟨HR1.out.1.below h, HR1.out.2.below h⟩
        have HM0 : Hid (∀ V, Below wr.heap.size wr V → Sl V a3 (rc Lg.cells M)) := Lib.hid fun V h => hsM.below h
        have hszU := hB.size
        clear hK1 hK2 hK3 HT HR1 hsM
        go_wp2_with fail
        refine wp_region_held_drew (S := (fun V => Below wr.heap.size wr V)) (by kernel_rfl) (by exact (Below.refl _ _).drew) (fun hHeld => ?_)
        refine wpAnyH_take (i := 0) (oi := { dst := some 47, op := _, type := _, pos := _, after := _, guard := _ }) (v := ?_) rfl (by kernel_rfl) (by kernel_rfl) (by kernel_rfl) (fun _ _ _ h => h) (Or.inl ⟨by rfl, ?_⟩) hHeld ?_
        rotate_left
        · (intro w hSw; obtain ⟨⟨p0, p1⟩, ⟨p2, p3⟩, ⟨p4, p5⟩⟩ := HC.out _ hSw; go_simp <;> with_reducible rfl)
        try simp only [Act.put, List.setIfInBounds_toArray, List.set_cons_zero, List.set_cons_succ]
        refine wpAnyH_take (i := 1) (oi := { dst := some 48, op := _, type := _, pos := _, after := _, guard := _ }) (v := ?_) rfl (by kernel_rfl) (by kernel_rfl) (by kernel_rfl) (fun _ _ _ h => h) (Or.inl ⟨by rfl, ?_⟩) hHeld ?_
        rotate_left
        · (intro w hSw; obtain ⟨⟨p0, p1⟩, ⟨p2, p3⟩, ⟨p4, p5⟩⟩ := HC.out _ hSw; go_simp <;> with_reducible rfl)
        try simp only [Act.put, List.setIfInBounds_toArray, List.set_cons_zero, List.set_cons_succ]
        refine wpAnyH_take (i := 2) (oi := { dst := some 49, op := _, type := _, pos := _, after := _, guard := _ }) (v := ?_) rfl (by kernel_rfl) (by kernel_rfl) (by kernel_rfl) (fun _ _ _ h => h) (Or.inl ⟨by rfl, ?_⟩) hHeld ?_
        rotate_left
        · (intro w hSw; clear hSw; go_simp <;> with_reducible rfl)
        try simp only [Act.put, List.setIfInBounds_toArray, List.set_cons_zero, List.set_cons_succ]
        refine wpAnyH_take (i := 3) (oi := { dst := some 50, op := _, type := _, pos := _, after := _, guard := _ }) (v := ?_) rfl (by kernel_rfl) (by kernel_rfl) (by kernel_rfl) (fun _ _ _ h => h) (Or.inl ⟨by rfl, ?_⟩) hHeld ?_
        rotate_left
        · (intro w hSw; clear hSw; go_simp <;> with_reducible rfl)
        try simp only [Act.put, List.setIfInBounds_toArray, List.set_cons_zero, List.set_cons_succ]
        refine wpAnyH_take (i := 4) (oi := { dst := some 51, op := _, type := _, pos := _, after := _, guard := _ }) (v := ?_) rfl (by kernel_rfl) (by kernel_rfl) (by kernel_rfl) (fun _ _ _ h => h) (Or.inl ⟨by rfl, ?_⟩) hHeld ?_
        rotate_left
        · (intro w hSw; obtain ⟨⟨p0, p1⟩, ⟨p2, p3⟩, ⟨p4, p5⟩⟩ := HC.out _ hSw; go_simp <;> with_reducible rfl)
        try simp only [Act.put, List.setIfInBounds_toArray, List.set_cons_zero, List.set_cons_succ]
        refine wpAnyH_take (i := 5) (oi := { dst := some 52, op := _, type := _, pos := _, after := _, guard := _ }) (v := ?_) rfl (by kernel_rfl) (by kernel_rfl) (by kernel_rfl) (fun _ _ _ h => h) (Or.inl ⟨by rfl, ?_⟩) hHeld ?_
        rotate_left
        · (intro w hSw; obtain ⟨⟨p0, p1⟩, ⟨p2, p3⟩, ⟨p4, p5⟩⟩ := HC.out _ hSw; go_simp <;> with_reducible rfl)
        try simp only [Act.put, List.setIfInBounds_toArray, List.set_cons_zero, List.set_cons_succ]
        refine wpAnyH_take (i := 6) (oi := { dst := some 53, op := _, type := _, pos := _, after := _, guard := _ }) (v := ?_) rfl (by kernel_rfl) (by kernel_rfl) (by kernel_rfl) (fun _ _ _ h => h) (Or.inl ⟨by rfl, ?_⟩) hHeld ?_
        rotate_left
        · (intro w hSw; clear hSw; go_simp <;> with_reducible rfl)
        try simp only [Act.put, List.setIfInBounds_toArray, List.set_cons_zero, List.set_cons_succ]
        refine wpAnyH_take (i := 7) (oi := { dst := some 54, op := _, type := _, pos := _, after := _, guard := _ }) (v := ?_) rfl (by kernel_rfl) (by kernel_rfl) (by kernel_rfl) (fun _ _ _ h => h) (Or.inl ⟨by rfl, ?_⟩) hHeld ?_
        rotate_left
        · (intro w hSw; clear hSw; go_simp <;> with_reducible rfl)
        try simp only [Act.put, List.setIfInBounds_toArray, List.set_cons_zero, List.set_cons_succ]
        refine wpAnyH_take (i := 8) (oi := { dst := some 55, op := _, type := _, pos := _, after := _, guard := _ }) (v := ?_) rfl (by kernel_rfl) (by kernel_rfl) (by kernel_rfl) (fun _ _ _ h => h) (Or.inl ⟨by rfl, ?_⟩) hHeld ?_
        rotate_left
        · (intro w hSw; clear hSw; go_simp <;> with_reducible rfl)
        try simp only [Act.put, List.setIfInBounds_toArray, List.set_cons_zero, List.set_cons_succ]
        refine wpAnyH_take (i := 9) (oi := { dst := some 56, op := _, type := _, pos := _, after := _, guard := _ }) (v := ?_) rfl (by kernel_rfl) (by kernel_rfl) (by kernel_rfl) (fun _ _ _ h => h) (Or.inl ⟨by rfl, ?_⟩) hHeld ?_
        rotate_left
        · (intro w hSw; clear hSw; go_simp <;> with_reducible rfl)
        try simp only [Act.put, List.setIfInBounds_toArray, List.set_cons_zero, List.set_cons_succ]
        refine wpAnyH_take (i := 10) (oi := { dst := some 57, op := _, type := _, pos := _, after := _, guard := _ }) (v := ?_) rfl (by kernel_rfl) (by kernel_rfl) (by kernel_rfl) (fun _ _ _ h => h) (Or.inl ⟨by rfl, ?_⟩) hHeld ?_
        rotate_left
        · (intro w hSw; obtain ⟨⟨p0, p1⟩, ⟨p2, p3⟩, ⟨p4, p5⟩⟩ := HC.out _ hSw; go_simp <;> with_reducible rfl)
        try simp only [Act.put, List.setIfInBounds_toArray, List.set_cons_zero, List.set_cons_succ]
        refine wpAnyH_take (i := 12) (oi := { dst := some 59, op := _, type := _, pos := _, after := _, guard := _ }) (v := ?_) rfl (by kernel_rfl) (by kernel_rfl) (by kernel_rfl) (fun _ _ _ h => h) (Or.inl ⟨by rfl, ?_⟩) hHeld ?_
        rotate_left
        · (intro w hSw; clear hSw; go_simp <;> with_reducible rfl)
        try simp only [Act.put, List.setIfInBounds_toArray, List.set_cons_zero, List.set_cons_succ]
        refine wpAnyH_take (i := 13) (oi := { dst := some 60, op := _, type := _, pos := _, after := _, guard := _ }) (v := ?_) rfl (by kernel_rfl) (by kernel_rfl) (by kernel_rfl) (fun _ _ _ h => h) (Or.inl ⟨by rfl, ?_⟩) hHeld ?_
        rotate_left
        · (intro w hSw; obtain ⟨⟨p0, p1⟩, ⟨p2, p3⟩, ⟨p4, p5⟩⟩ := HC.out _ hSw; go_simp <;> with_reducible rfl)
        try simp only [Act.put, List.setIfInBounds_toArray, List.set_cons_zero, List.set_cons_succ]
        refine wpAnyH_ready (rs := [11]) (by kernel_rfl) (by simp) ?_
        refine AllReadyH.cons (o := { dst := some 58, op := _, type := _, pos := _, after := _, guard := _ }) rfl (fun K hK => ?_) AllReadyH.nil
        go_simp
        refine (HLO1.out X1 d1 m1 _ (by have := (show PoTab _ _ _ from (HRA.out _ hHeld).2).1; have := HZV.out; omega) (HRA.out _ hHeld).1 (HRA.out _ hHeld).2).mono ?_
        rintro e x5 ⟨⟨A6, c6, rfl, o6⟩, hk5⟩
        have hKeep := since_step hHeld hk5
        have h6 := Sl.of_own o6
        clear o6
        go_wp2_with fail
        refine hK.out _ _ (by (try dsimp only); exact hKeep) (fun hHeld => ?_)
        clear hK K hKeep
        try simp only [Act.put, List.setIfInBounds_toArray, List.set_cons_zero, List.set_cons_succ]
        refine wpAnyH_ready (rs := [14]) (by kernel_rfl) (by simp) ?_
        refine AllReadyH.cons (o := { dst := some 61, op := _, type := _, pos := _, after := _, guard := _ }) rfl (fun K hK => ?_) AllReadyH.nil
        go_simp
        refine (HLO.out _ (HR0.out _ hHeld).1 (HR0.out _ hHeld).2).mono ?_
        rintro e x6 ⟨⟨A7, c7, rfl, o7⟩, hk6⟩
        have hKeep := since_step hHeld hk6
        have h6 := h6.below hk6
        have h7 := Sl.of_own o7
        clear o7
        go_wp2_with fail
        refine hK.out _ _ (by (try dsimp only); exact hKeep) (fun hHeld => ?_)
        clear hK K hKeep
        try simp only [Act.put, List.setIfInBounds_toArray, List.set_cons_zero, List.set_cons_succ]
        refine wpAnyH_ready (rs := [15]) (by kernel_rfl) (by simp) ?_
        refine AllReadyH.cons (o := { dst := some 62, op := _, type := _, pos := _, after := _, guard := _ }) rfl (fun K hK => ?_) AllReadyH.nil
        go_simp
        refine (HSO.out A6 A7 c6 c7 _ h6 h7).mono ?_
        rintro e x7 ⟨rfl, hk7⟩
        have hKeep := since_step hHeld hk7
        clear h6 h7
        go_wp2_with fail
        refine hK.out _ _ (by (try dsimp only); exact hKeep) (fun hHeld => ?_)
        clear hK K hKeep
        try simp only [Act.put, List.setIfInBounds_toArray, List.set_cons_zero, List.set_cons_succ]
        refine wpAnyH_take (i := 16) (oi := { dst := some 63, op := _, type := _, pos := _, after := _, guard := _ }) (v := ?_) rfl (by kernel_rfl) (by kernel_rfl) (by kernel_rfl) (fun _ _ _ h => h) (Or.inl ⟨by rfl, ?_⟩) hHeld ?_
        rotate_left
        · (intro w hSw; clear hSw; go_simp <;> with_reducible rfl)
        try simp only [Act.put, List.setIfInBounds_toArray, List.set_cons_zero, List.set_cons_succ]
        refine wpAnyH_take (i := 17) (oi := { dst := some 64, op := _, type := _, pos := _, after := _, guard := _ }) (v := ?_) rfl (by kernel_rfl) (by kernel_rfl) (by kernel_rfl) (fun _ _ _ h => h) (Or.inl ⟨by rfl, ?_⟩) hHeld ?_
        rotate_left
        · (intro w hSw; clear hSw; go_simp <;> with_reducible rfl)
        try simp only [Act.put, List.setIfInBounds_toArray, List.set_cons_zero, List.set_cons_succ]
        refine wpAnyH_done (by kernel_rfl) ?_ _
        have hB := hB.trans (hHeld.mono hszU)
        obtain ⟨⟨p0, p1⟩, ⟨p2, p3⟩, ⟨p4, p5⟩⟩ := HC.out _ hHeld
        have HT := Lib.hid (HR0.out _ hHeld)
        have HR1 := Lib.hid (HRA.out _ hHeld)
        have hsM := HM0.out _ hHeld
        clear HR0 HRA HM0 HC hHeld
        go_wp2_with fail
        refine (HMB.out X1 d1 m1 _ (by have := HR1.out.2.1; have := HZV.out; omega) HR1.out.1 HR1.out.2 hsM).mono ?_
        rintro e v1 ⟨⟨m3, X3, d3, rfl, hsN, htN, _⟩, hb⟩
        have hB := since_step hB hb
        have HT := Lib.hid (And.intro (HT.out.1.below hb) (HT.out.2.below hb))
        have HR1 := Lib.hid (And.intro (HR1.out.1.below hb) (HR1.out.2.below hb))
        clear hb
        have HR3 := Lib.hid (And.intro hsN htN)
        clear hsN htN p0 p1 p2 p3 p4 p5 hsM
        by_cases hk0 : kn = 0
        · have hKc := HKB.out hk0
          subst hk0
          rw [hKc] at HR3
          have HZ3 : Hid (m3.length ≤ 900000) := Lib.hid (by have h3 := HR3.out.2.1; have h4 := HT.out.2.1; have := HZR.out; omega)
          clear hKc HKB
          go_wp2_with fail
          refine (HSB.out _ _ _ _ _ _ _ HZ3.out HR3.out.1 HR3.out.2 HT.out.1 HT.out.2).mono ?_
          rintro e u1 ⟨rfl, hb⟩
          have hB := since_step hB hb
          have HT := Lib.hid (And.intro (HT.out.1.below hb) (HT.out.2.below hb))
          have HR1 := Lib.hid (And.intro (HR1.out.1.below hb) (HR1.out.2.below hb))
          have HR3 := Lib.hid (And.intro (HR3.out.1.below hb) (HR3.out.2.below hb))
          clear hb
          clear HR3
          go_wp2_with fail
          refine (HIA.out X1 d1 m1 _ (by have := HR1.out.2.1; have := HZV.out; omega) HR1.out.1 HR1.out.2).mono ?_
          rintro e u2 ⟨rfl, hb⟩
          have hB := since_step hB hb
          have HT := Lib.hid (And.intro (HT.out.1.below hb) (HT.out.2.below hb))
          have HR1 := Lib.hid (And.intro (HR1.out.1.below hb) (HR1.out.2.below hb))
          clear hb
          go_wp2_with fail
          refine (HBA.out X1 d1 m1 _ (by have := HR1.out.2.1; have := HZV.out; omega) HR1.out.1 HR1.out.2).mono ?_
          rintro e u3 ⟨rfl, hb⟩
          have hB := since_step hB hb
          have HT := Lib.hid (And.intro (HT.out.1.below hb) (HT.out.2.below hb))
          have HR1 := Lib.hid (And.intro (HR1.out.1.below hb) (HR1.out.2.below hb))
          clear hb
          go_wp2_with fail
          refine (HBL.out _ HT.out.1 HT.out.2).mono ?_
          rintro e u4 ⟨rfl, hb⟩
          have hB := since_step hB hb
          have HT := Lib.hid (And.intro (HT.out.1.below hb) (HT.out.2.below hb))
          have HR1 := Lib.hid (And.intro (HR1.out.1.below hb) (HR1.out.2.below hb))
          clear hb
          clear HT HR1
          go_wp2_with fail
          refine (HLV.out _).mono ?_
          rintro e u5 ⟨rfl, hb⟩
          have hB := since_step hB hb
          clear hb
          go_wp2_with fail
          go_ret
          exact ⟨rfl, hB⟩
        · have hkb : (kn != 0) = true := by simpa using hk0
          have hkb2 : (kn == 0) = false := by simpa using hk0
          clear hk0 HR3 HKB
          go_wp2_with fail
          refine (HIA.out X1 d1 m1 _ (by have := HR1.out.2.1; have := HZV.out; omega) HR1.out.1 HR1.out.2).mono ?_
          rintro e u1 ⟨rfl, hb⟩
          have hB := since_step hB hb
          have HT := Lib.hid (And.intro (HT.out.1.below hb) (HT.out.2.below hb))
          have HR1 := Lib.hid (And.intro (HR1.out.1.below hb) (HR1.out.2.below hb))
          clear hb
          go_wp2_with fail
          refine (HBA.out X1 d1 m1 _ (by have := HR1.out.2.1; have := HZV.out; omega) HR1.out.1 HR1.out.2).mono ?_
          rintro e u2 ⟨rfl, hb⟩
          have hB := since_step hB hb
          have HT := Lib.hid (And.intro (HT.out.1.below hb) (HT.out.2.below hb))
          have HR1 := Lib.hid (And.intro (HR1.out.1.below hb) (HR1.out.2.below hb))
          clear hb
          go_wp2_with fail
          refine (HBL.out _ HT.out.1 HT.out.2).mono ?_
          rintro e u3 ⟨rfl, hb⟩
          have hB := since_step hB hb
          have HT := Lib.hid (And.intro (HT.out.1.below hb) (HT.out.2.below hb))
          have HR1 := Lib.hid (And.intro (HR1.out.1.below hb) (HR1.out.2.below hb))
          clear hb
          clear HT HR1
          go_wp2_with fail
          refine (HLV.out _).mono ?_
          rintro e u4 ⟨rfl, hb⟩
          have hB := since_step hB hb
          clear hb
          go_wp2_with fail
          go_ret
          exact ⟨rfl, hB⟩
  · have hVn := movP_err hV hm0
    have hl0 : ((m1.length : Int) == 0) = true := by
      have := HR1.out.2.1
      rw [hVn] at this
      rw [this]; rfl
    have hvb : (vn != 0) = true := by simpa using hm0
    have hvb2 : (vn == 0) = false := by simpa using hm0
    clear hVn hm0 hV HR1 HT hgd hR9 hR8 hcl9 hcl4 hM4 hM6 hK1 hK2 hK3 hsM hcs
    go_wp2_with fail
    refine (HLV.out _).mono ?_
    rintro e u1 ⟨rfl, hb⟩
    have hB := since_step hB hb
    go_wp2_with fail
    go_ret
    exact ⟨rfl, hB⟩
set_option maxHeartbeats 32000000 in
set_option maxRecDepth 100000 in
theorem bmoves_C22 (a0 : Option Addr) (c0 : Nat) (l : List Po) (fa fc ta tc oa oc : Int) (a3 : Option Addr) (c3 : Nat) (l3 : List Lg) (w : World) (hl3 : l3.length ≤ c3) (hc3 : c3 ≤ maxLen) (hs3 : Sl w a3 (rc Lg.cells l3)) (hq3 : ∀ y ∈ l3, In64 y.qty) (hs : Sl w a0 (rc Po.cells l)) (hd : ∀ g ∈ l, InH w g) (hf1 : Hid (oa = fa)) (hf2 : Hid (oc ≠ fc)) (ht1 : Hid (oa = ta)) (ht2 : Hid (oc ≠ tc)) :
    Calls Try.prog 7 #[.slice a0 l.length c0, .agg #[.int .i64 fa, .int .i64 fc], .agg #[.int .i64 ta, .int .i64 tc], .agg #[.int .i64 oa, .int .i64 oc], .slice a3 l3.length c3] w fun e w' => e = .returned (.bool true) ∧ Below w.heap.size w w' := by
  have hB := since_alloc (since_alloc (since_alloc (Below.refl _ w) (.cells #[.int .i64 fa, .int .i64 fc] 24)) (.cells #[.int .i64 ta, .int .i64 tc] 24)) (.cells #[.int .i64 oa, .int .i64 oc] 24)
  have hK1 := ((Bk.new w #[.int .i64 fa, .int .i64 fc] 24).alloc (.cells #[.int .i64 ta, .int .i64 tc] 24)).alloc (.cells #[.int .i64 oa, .int .i64 oc] 24)
  have hK2 := (Bk.new (w.alloc (.cells #[.int .i64 fa, .int .i64 fc] 24)) #[.int .i64 ta, .int .i64 tc] 24).alloc (.cells #[.int .i64 oa, .int .i64 oc] 24)
  have hK3 := Bk.new ((w.alloc (.cells #[.int .i64 fa, .int .i64 fc] 24)).alloc (.cells #[.int .i64 ta, .int .i64 tc] 24)) #[.int .i64 oa, .int .i64 oc] 24
  rw [World.size_alloc] at hK2
  rw [World.size_alloc, World.size_alloc] at hK3
  have HF1 := Lib.hid (few19_any a0 c0 l _ (hs.below hB) (fun g hg => (hd g hg).below hB))
  obtain ⟨M, hM⟩ : ∃ M, l3.take 12 = M := ⟨_, rfl⟩
  have hM12 : M.length ≤ 12 := by rw [← hM]; simp; omega
  have hM6 : ∀ y ∈ M, In64 y.qty := by rw [← hM]; exact fun y hy => hq3 y (List.mem_of_mem_take hy)
  have hsM : Sl w a3 (rc Lg.cells M) := by rw [← hM, ← rc_take Lg.len]; exact hs3.take _
  have HF2 := few11_any a3 c3 l3
  rw [hM] at HF2
  have HF2 := Lib.hid (fun V h => HF2 V hl3 hc3 h)
  have hs3 := hs3.below hB
  have hsM := hsM.below hB
  have HLV := Lib.hid (fun V => lives19_any V)
  clear hs hd hM hl3 hc3 hq3
  go_enter Try.func7, Try.ntmps7
  go_upto_region 1 with fail
  generalize hWW : ((w.alloc (.cells #[.int .i64 fa, .int .i64 fc] 24)).alloc (.cells #[.int .i64 ta, .int .i64 tc] 24)).alloc (.cells #[.int .i64 oa, .int .i64 oc] 24) = W at *
  clear hWW
  obtain ⟨hK1_l, hK1_c⟩ := id hK1
  have hK1_0 := hK1_c 0
  have hK1_1 := hK1_c 1
  simp at hK1_0 hK1_1
  clear hK1_c
  obtain ⟨hK2_l, hK2_c⟩ := id hK2
  have hK2_0 := hK2_c 0
  have hK2_1 := hK2_c 1
  simp at hK2_0 hK2_1
  clear hK2_c
  obtain ⟨hK3_l, hK3_c⟩ := id hK3
  have hK3_0 := hK3_c 0
  have hK3_1 := hK3_c 1
  simp at hK3_0 hK3_1
  clear hK3_c
  go_wp2_with fail
  refine (HF1.out).mono ?_
  rintro e z1 ⟨⟨R, cs, A, c, rfl, hs, ht, hcap, hR, hgd⟩, hb⟩
  have hB := since_step hB hb
  have hK1 := hK1.below hb
  have hK2 := hK2.below hb
  have hK3 := hK3.below hb
  have hs3 := hs3.below hb
  have hsM := hsM.below hb
  clear hb
  clear hK1_l hK1_0 hK1_1 hK2_l hK2_0 hK2_1 hK3_l hK3_0 hK3_1
  have hRc := ht.1
  have hR8 : R.length ≤ 800000 := by omega
  have hR9 : R.length ≤ 900000 := by omega
  have hcs : cs.length ≤ 12 := by omega
  have hcl9 : ∀ g ∈ cs, g.L.length ≤ 900000 := fun g hg => Nat.le_trans (hgd.1 g hg) (by omega)
  have hcl4 : ∀ g ∈ cs, g.L.length ≤ 400000 := fun g hg => Nat.le_trans (hgd.1 g hg) (by omega)
  have hM4 : M.length ≤ 400000 := by omega
  have HV1 := Lib.hid (fun V h1 h2 h3 => bmove_any A c R cs fa fc ta tc a3 c3 M V hR8 hcl4 hgd.2 hM4 hM6 h1 h2 h3)
  obtain ⟨vn, VL, hV⟩ : ∃ n L, moveP cs fa fc ta tc M = (n, L) := ⟨_, _, rfl⟩
  rw [hV] at HV1
  unfold HRes at HV1
  simp only at HV1
  have HT := Lib.hid (And.intro hs ht)
  clear hs ht hcap hR hRc hM12
  obtain ⟨hK1_l, hK1_c⟩ := id hK1
  have hK1_0 := hK1_c 0
  have hK1_1 := hK1_c 1
  simp at hK1_0 hK1_1
  clear hK1_c
  obtain ⟨hK2_l, hK2_c⟩ := id hK2
  have hK2_0 := hK2_c 0
  have hK2_1 := hK2_c 1
  simp at hK2_0 hK2_1
  clear hK2_c
  obtain ⟨hK3_l, hK3_c⟩ := id hK3
  have hK3_0 := hK3_c 0
  have hK3_1 := hK3_c 1
  simp at hK3_0 hK3_1
  clear hK3_c
  go_wp2_with fail
  refine (HF2.out _ hs3).mono ?_
  rintro e z2 ⟨rfl, hb⟩
  have hB := since_step hB hb
  have hK1 := hK1.below hb
  have hK2 := hK2.below hb
  have hK3 := hK3.below hb
  have hs3 := hs3.below hb
  have hsM := hsM.below hb
  have HT := Lib.hid (And.intro (HT.out.1.below hb) (HT.out.2.below hb))
  clear hb
  clear hK1_l hK1_0 hK1_1 hK2_l hK2_0 hK2_1 hK3_l hK3_0 hK3_1
  clear hs3
  obtain ⟨hK1_l, hK1_c⟩ := id hK1
  have hK1_0 := hK1_c 0
  have hK1_1 := hK1_c 1
  simp at hK1_0 hK1_1
  clear hK1_c
  obtain ⟨hK2_l, hK2_c⟩ := id hK2
  have hK2_0 := hK2_c 0
  have hK2_1 := hK2_c 1
  simp at hK2_0 hK2_1
  clear hK2_c
  obtain ⟨hK3_l, hK3_c⟩ := id hK3
  have hK3_0 := hK3_c 0
  have hK3_1 := hK3_c 1
  simp at hK3_0 hK3_1
  clear hK3_c
  go_wp2_with fail
  refine (HV1.out _ HT.out.1 HT.out.2 hsM).mono ?_
  rintro e z3 ⟨⟨m1, X1, d1, rfl, hsN, htN, _⟩, hb⟩
  have hB := since_step hB hb
  have hK1 := hK1.below hb
  have hK2 := hK2.below hb
  have hK3 := hK3.below hb
  have hsM := hsM.below hb
  have HT := Lib.hid (And.intro (HT.out.1.below hb) (HT.out.2.below hb))
  clear hb
  clear hK1_l hK1_0 hK1_1 hK2_l hK2_0 hK2_1 hK3_l hK3_0 hK3_1
  have HR1 := Lib.hid (And.intro hsN htN)
  clear hsN htN
  clear HV1 HF1 HF2
  by_cases hm0 : vn = 0
  · subst hm0
    obtain ⟨_, hVi, hV6, hVl, hVc⟩ := movP_is hV
    have hV6 := hV6 hgd.2
    have hVc := hVc 400000 (by omega) hcl4
    have hVc9 : ∀ g ∈ VL, g.L.length ≤ 900000 := fun g hg => Nat.le_trans (hVc g hg) (by omega)
    have HSUM := Lib.hid (fun k h1 h8 => movP_sum hV k h1 h8)
    have HTA := Lib.hid (fun A1 c1 l1 k V hl h1 h2 => bopen_any A1 c1 l1 VL k V hl hVc9 hV6 h1 h2)
    have HTL := Lib.hid (fun k V h1 h2 => bopen_any A c R cs k V hR9 hcl9 hgd.2 h1 h2)
    have hMB := fun A1 c1 l1 V hl h1 h2 h3 => bmove_any A1 c1 l1 VL ta tc fa fc a3 c3 M V hl hVc hV6 hM4 hM6 h1 h2 h3
    obtain ⟨kn, KL, hK⟩ : ∃ n L, moveP VL ta tc fa fc M = (n, L) := ⟨_, _, rfl⟩
    rw [hK] at hMB
    unfold HRes at hMB
    simp only at hMB
    have HMB := Lib.hid hMB
    have hIA := fun A1 c1 l1 V hl h1 h2 => his_any A1 c1 l1 VL V hl hVc9 h1 h2
    rw [hVi] at hIA
    have HIA := Lib.hid hIA
    have hBA := fun A1 c1 l1 V hl h1 h2 => bbal_any A1 c1 l1 VL V hl hVc9 hV6 h1 h2
    rw [balP_same (fun k h1 h8 => movP_sum hV k h1 h8)] at hBA
    have HBA := Lib.hid hBA
    have HBL := Lib.hid (fun V h1 h2 => bbal_any A c R cs V hR9 hcl9 hgd.2 h1 h2)
    generalize balP cs = bp at *
    have hbp : (bp == bp) = true := by simp
    have HSB := Lib.hid (fun A1 c1 l1 A2 c2 l2 V hl h1 t1 h2 t2 => rhsame_self A1 c1 l1 A2 c2 l2 cs V hl hcl9 h1 t1 h2 t2)
    have HZV : Hid (VL.length ≤ 800000) := Lib.hid (by omega)
    have HZR := Lib.hid hR8
    clear hMB hIA hBA
    have hLO1 := fun A1 c1 l1 V hl h1 h2 => hlots_any A1 c1 l1 VL oa oc V hl hVc9 h1 h2
    rw [movP_other hV (fun h => hf2.out h.2) (fun h => ht2.out h.2)] at hLO1
    have HLO1 := Lib.hid hLO1
    have HLO := Lib.hid (fun V h1 h2 => hlots_any A c R cs oa oc V hR9 hcl9 h1 h2)
    have hlo := lotsH_len hgd.1 oa oc
    have HSO := Lib.hid (fun A1 A2 c1 c2 V h1 h2 => rvsame_any_self A1 A2 c1 c2 (lotsH cs oa oc) V (by omega) h1 h2)
    generalize lotsH cs oa oc = L1 at *
    clear hLO1 hlo
    have HKB : Hid (kn = 0 → KL = cs) := Lib.hid (fun h => by subst h; exact movP_back hV hK)
    clear hVi hV6 hVl hVc hVc9 hgd hV hK hR9 hR8 hcl9 hcl4 hM4 hM6
    have bf1 : (oa != fa) = false := by rw [hf1.out]; simp
    have bf2 : (oc != fc) = true := by simpa using hf2.out
    have cf1 : (oa == fa) = true := by rw [hf1.out]; simp
    have cf2 : (oc == fc) = false := by simpa using hf2.out
    clear hf1 hf2
    have bt1 : (oa != ta) = false := by rw [ht1.out]; simp
    have bt2 : (oc != tc) = true := by simpa using ht2.out
    have ct1 : (oa == ta) = true := by rw [ht1.out]; simp
    have ct2 : (oc == tc) = false := by simpa using ht2.out
    clear ht1 ht2
    go_wp2_with fail
    go_loopw [13] (fun iv wr => ∃ k : Nat, 1 ≤ k ∧ k ≤ 9 ∧ iv = .int .i64 k ∧ Below z3.heap.size z3 wr) (fun iv _ => 9 - (intOf iv).toNat)
    case atStart => exact ⟨1, by omega, by omega, rfl, Below.refl _ _⟩
    case round =>
      obtain ⟨k, hk1, hk9, rfl, hbr⟩ := hrel
      by_cases hk : k ≤ 8
      · have hki : (k : Int) ≤ 8 := by omega
        have HTLk := Lib.hid (fun V h1 h2 => HTL.out (k : Int) V h1 h2)
        have HTAk := Lib.hid (fun A1 c1 l1 V hl h1 h2 => HTA.out A1 c1 l1 (k : Int) V hl h1 h2)
        rw [HSUM.out (k : Int) (by omega) (by omega)] at HTAk
        obtain ⟨th, hth⟩ : ∃ n, hiN (sumsH cs (k : Int)).sum = n := ⟨_, rfl⟩
        obtain ⟨tl, htl⟩ : ∃ n, loN (sumsH cs (k : Int)).sum = n := ⟨_, rfl⟩
        have hq1 : (th == th) = true := by simp
        have hq2 : (tl == tl) = true := by simp
        rw [hth, htl] at HTLk HTAk
        clear hth htl HTL HTA
        have hBl := hbr
        have HT := Lib.hid (And.intro (HT.out.1.below hbr) (HT.out.2.below hbr))
        have HR1 := Lib.hid (And.intro (HR1.out.1.below hbr) (HR1.out.2.below hbr))
        go_wp2_with fail
        refine (HTAk.out X1 d1 m1 _ (by have := HR1.out.2.1; have := HZV.out; omega) HR1.out.1 HR1.out.2).mono ?_
        rintro e r1 ⟨rfl, hb⟩
        have hBl := since_step hBl hb
        have HT := Lib.hid (And.intro (HT.out.1.below hb) (HT.out.2.below hb))
        have HR1 := Lib.hid (And.intro (HR1.out.1.below hb) (HR1.out.2.below hb))
        clear hb
        go_wp2_with fail
        refine (HTLk.out _ HT.out.1 HT.out.2).mono ?_
        rintro e r2 ⟨rfl, hb⟩
        have hBl := since_step hBl hb
        have HT := Lib.hid (And.intro (HT.out.1.below hb) (HT.out.2.below hb))
        have HR1 := Lib.hid (And.intro (HR1.out.1.below hb) (HR1.out.2.below hb))
        clear hb
        go_wp2_with fail
        go_roundw
        case rel => exact ⟨k + 1, by omega, by omega, by go_num, hBl⟩
        case measure => simp [intOf]; omega
      · have hki : ¬ ((k : Int) ≤ 8) := by omega
        have hB := since_step hB hbr
        have hK1 := hK1.below hbr
        have hK2 := hK2.below hbr
        have hK3 := hK3.below hbr
        have HT := Lib.hid (And.intro (HT.out.1.below hbr) (HT.out.2.below hbr))
        have HR1 := Lib.hid (And.intro (HR1.out.1.below hbr) (HR1.out.2.below hbr))
        have hsM := hsM.below hbr
        clear hbr HTL HTA
        go_upto_region 10 with fail
        have HC : Hid (∀ V, Below wr.heap.size wr V → (V.cell? ⟨w.heap.size, 0, none⟩ = some (.int .i64 fa) ∧ V.cell? ⟨w.heap.size, 1, none⟩ = some (.int .i64 fc)) ∧ (V.cell? ⟨w.heap.size + 1, 0, none⟩ = some (.int .i64 ta) ∧ V.cell? ⟨w.heap.size + 1, 1, none⟩ = some (.int .i64 tc)) ∧ (V.cell? ⟨w.heap.size + 1 + 1, 0, none⟩ = some (.int .i64 oa) ∧ V.cell? ⟨w.heap.size + 1 + 1, 1, none⟩ = some (.int .i64 oc))) := Lib.hid fun V h => ⟨⟨(hK1.below h).2 0, (hK1.below h).2 1⟩, ⟨(hK2.below h).2 0, (hK2.below h).2 1⟩, ⟨(hK3.below h).2 0, (hK3.below h).2 1⟩⟩
        have HR0 : Hid (∀ V, Below wr.heap.size wr V → Sl V A (rc Po.cells R) ∧ PoTab V R cs) := Lib.hid fun V h => ⟨HT.out.1.below h, HT.out.2.below h⟩
        have HRA : Hid (∀ V, Below wr.heap.size wr V → Sl V X1 (rc Po.cells m1) ∧ PoTab V m1 VL) := Lib.hid fun V h => ⟨HR1.out.1.below h, HR1.out.2.below h⟩
        have HM0 : Hid (∀ V, Below wr.heap.size wr V → Sl V a3 (rc Lg.cells M)) := Lib.hid fun V h => hsM.below h
        have hszU := hB.size
        clear hK1 hK2 hK3 HT HR1 hsM
        go_wp2_with fail
        refine wp_region_held_drew (S := (fun V => Below wr.heap.size wr V)) (by kernel_rfl) (by exact (Below.refl _ _).drew) (fun hHeld => ?_)
        refine wpAnyH_take (i := 0) (oi := { dst := some 47, op := _, type := _, pos := _, after := _, guard := _ }) (v := ?_) rfl (by kernel_rfl) (by kernel_rfl) (by kernel_rfl) (fun _ _ _ h => h) (Or.inl ⟨by rfl, ?_⟩) hHeld ?_
        rotate_left
        · (intro w hSw; obtain ⟨⟨p0, p1⟩, ⟨p2, p3⟩, ⟨p4, p5⟩⟩ := HC.out _ hSw; go_simp <;> with_reducible rfl)
        try simp only [Act.put, List.setIfInBounds_toArray, List.set_cons_zero, List.set_cons_succ]
        refine wpAnyH_take (i := 1) (oi := { dst := some 48, op := _, type := _, pos := _, after := _, guard := _ }) (v := ?_) rfl (by kernel_rfl) (by kernel_rfl) (by kernel_rfl) (fun _ _ _ h => h) (Or.inl ⟨by rfl, ?_⟩) hHeld ?_
        rotate_left
        · (intro w hSw; obtain ⟨⟨p0, p1⟩, ⟨p2, p3⟩, ⟨p4, p5⟩⟩ := HC.out _ hSw; go_simp <;> with_reducible rfl)
        try simp only [Act.put, List.setIfInBounds_toArray, List.set_cons_zero, List.set_cons_succ]
        refine wpAnyH_take (i := 2) (oi := { dst := some 49, op := _, type := _, pos := _, after := _, guard := _ }) (v := ?_) rfl (by kernel_rfl) (by kernel_rfl) (by kernel_rfl) (fun _ _ _ h => h) (Or.inl ⟨by rfl, ?_⟩) hHeld ?_
        rotate_left
        · (intro w hSw; clear hSw; go_simp <;> with_reducible rfl)
        try simp only [Act.put, List.setIfInBounds_toArray, List.set_cons_zero, List.set_cons_succ]
        refine wpAnyH_take (i := 3) (oi := { dst := some 50, op := _, type := _, pos := _, after := _, guard := _ }) (v := ?_) rfl (by kernel_rfl) (by kernel_rfl) (by kernel_rfl) (fun _ _ _ h => h) (Or.inl ⟨by rfl, ?_⟩) hHeld ?_
        rotate_left
        · (intro w hSw; clear hSw; go_simp <;> with_reducible rfl)
        try simp only [Act.put, List.setIfInBounds_toArray, List.set_cons_zero, List.set_cons_succ]
        refine wpAnyH_take (i := 4) (oi := { dst := some 51, op := _, type := _, pos := _, after := _, guard := _ }) (v := ?_) rfl (by kernel_rfl) (by kernel_rfl) (by kernel_rfl) (fun _ _ _ h => h) (Or.inl ⟨by rfl, ?_⟩) hHeld ?_
        rotate_left
        · (intro w hSw; obtain ⟨⟨p0, p1⟩, ⟨p2, p3⟩, ⟨p4, p5⟩⟩ := HC.out _ hSw; go_simp <;> with_reducible rfl)
        try simp only [Act.put, List.setIfInBounds_toArray, List.set_cons_zero, List.set_cons_succ]
        refine wpAnyH_take (i := 5) (oi := { dst := some 52, op := _, type := _, pos := _, after := _, guard := _ }) (v := ?_) rfl (by kernel_rfl) (by kernel_rfl) (by kernel_rfl) (fun _ _ _ h => h) (Or.inl ⟨by rfl, ?_⟩) hHeld ?_
        rotate_left
        · (intro w hSw; obtain ⟨⟨p0, p1⟩, ⟨p2, p3⟩, ⟨p4, p5⟩⟩ := HC.out _ hSw; go_simp <;> with_reducible rfl)
        try simp only [Act.put, List.setIfInBounds_toArray, List.set_cons_zero, List.set_cons_succ]
        refine wpAnyH_take (i := 6) (oi := { dst := some 53, op := _, type := _, pos := _, after := _, guard := _ }) (v := ?_) rfl (by kernel_rfl) (by kernel_rfl) (by kernel_rfl) (fun _ _ _ h => h) (Or.inl ⟨by rfl, ?_⟩) hHeld ?_
        rotate_left
        · (intro w hSw; clear hSw; go_simp <;> with_reducible rfl)
        try simp only [Act.put, List.setIfInBounds_toArray, List.set_cons_zero, List.set_cons_succ]
        refine wpAnyH_take (i := 7) (oi := { dst := some 54, op := _, type := _, pos := _, after := _, guard := _ }) (v := ?_) rfl (by kernel_rfl) (by kernel_rfl) (by kernel_rfl) (fun _ _ _ h => h) (Or.inl ⟨by rfl, ?_⟩) hHeld ?_
        rotate_left
        · (intro w hSw; clear hSw; go_simp <;> with_reducible rfl)
        try simp only [Act.put, List.setIfInBounds_toArray, List.set_cons_zero, List.set_cons_succ]
        refine wpAnyH_take (i := 8) (oi := { dst := some 55, op := _, type := _, pos := _, after := _, guard := _ }) (v := ?_) rfl (by kernel_rfl) (by kernel_rfl) (by kernel_rfl) (fun _ _ _ h => h) (Or.inl ⟨by rfl, ?_⟩) hHeld ?_
        rotate_left
        · (intro w hSw; clear hSw; go_simp <;> with_reducible rfl)
        try simp only [Act.put, List.setIfInBounds_toArray, List.set_cons_zero, List.set_cons_succ]
        refine wpAnyH_take (i := 9) (oi := { dst := some 56, op := _, type := _, pos := _, after := _, guard := _ }) (v := ?_) rfl (by kernel_rfl) (by kernel_rfl) (by kernel_rfl) (fun _ _ _ h => h) (Or.inl ⟨by rfl, ?_⟩) hHeld ?_
        rotate_left
        · (intro w hSw; clear hSw; go_simp <;> with_reducible rfl)
        try simp only [Act.put, List.setIfInBounds_toArray, List.set_cons_zero, List.set_cons_succ]
        refine wpAnyH_take (i := 10) (oi := { dst := some 57, op := _, type := _, pos := _, after := _, guard := _ }) (v := ?_) rfl (by kernel_rfl) (by kernel_rfl) (by kernel_rfl) (fun _ _ _ h => h) (Or.inl ⟨by rfl, ?_⟩) hHeld ?_
        rotate_left
        · (intro w hSw; obtain ⟨⟨p0, p1⟩, ⟨p2, p3⟩, ⟨p4, p5⟩⟩ := HC.out _ hSw; go_simp <;> with_reducible rfl)
        try simp only [Act.put, List.setIfInBounds_toArray, List.set_cons_zero, List.set_cons_succ]
        refine wpAnyH_take (i := 12) (oi := { dst := some 59, op := _, type := _, pos := _, after := _, guard := _ }) (v := ?_) rfl (by kernel_rfl) (by kernel_rfl) (by kernel_rfl) (fun _ _ _ h => h) (Or.inl ⟨by rfl, ?_⟩) hHeld ?_
        rotate_left
        · (intro w hSw; clear hSw; go_simp <;> with_reducible rfl)
        try simp only [Act.put, List.setIfInBounds_toArray, List.set_cons_zero, List.set_cons_succ]
        refine wpAnyH_take (i := 13) (oi := { dst := some 60, op := _, type := _, pos := _, after := _, guard := _ }) (v := ?_) rfl (by kernel_rfl) (by kernel_rfl) (by kernel_rfl) (fun _ _ _ h => h) (Or.inl ⟨by rfl, ?_⟩) hHeld ?_
        rotate_left
        · (intro w hSw; obtain ⟨⟨p0, p1⟩, ⟨p2, p3⟩, ⟨p4, p5⟩⟩ := HC.out _ hSw; go_simp <;> with_reducible rfl)
        try simp only [Act.put, List.setIfInBounds_toArray, List.set_cons_zero, List.set_cons_succ]
        refine wpAnyH_ready (rs := [11]) (by kernel_rfl) (by simp) ?_
        refine AllReadyH.cons (o := { dst := some 58, op := _, type := _, pos := _, after := _, guard := _ }) rfl (fun K hK => ?_) AllReadyH.nil
        go_simp
        refine (HLO1.out X1 d1 m1 _ (by have := (show PoTab _ _ _ from (HRA.out _ hHeld).2).1; have := HZV.out; omega) (HRA.out _ hHeld).1 (HRA.out _ hHeld).2).mono ?_
        rintro e x5 ⟨⟨A6, c6, rfl, o6⟩, hk5⟩
        have hKeep := since_step hHeld hk5
        have h6 := Sl.of_own o6
        clear o6
        go_wp2_with fail
        refine hK.out _ _ (by (try dsimp only); exact hKeep) (fun hHeld => ?_)
        clear hK K hKeep
        try simp only [Act.put, List.setIfInBounds_toArray, List.set_cons_zero, List.set_cons_succ]
        refine wpAnyH_ready (rs := [14]) (by kernel_rfl) (by simp) ?_
        refine AllReadyH.cons (o := { dst := some 61, op := _, type := _, pos := _, after := _, guard := _ }) rfl (fun K hK => ?_) AllReadyH.nil
        go_simp
        refine (HLO.out _ (HR0.out _ hHeld).1 (HR0.out _ hHeld).2).mono ?_
        rintro e x6 ⟨⟨A7, c7, rfl, o7⟩, hk6⟩
        have hKeep := since_step hHeld hk6
        have h6 := h6.below hk6
        have h7 := Sl.of_own o7
        clear o7
        go_wp2_with fail
        refine hK.out _ _ (by (try dsimp only); exact hKeep) (fun hHeld => ?_)
        clear hK K hKeep
        try simp only [Act.put, List.setIfInBounds_toArray, List.set_cons_zero, List.set_cons_succ]
        refine wpAnyH_ready (rs := [15]) (by kernel_rfl) (by simp) ?_
        refine AllReadyH.cons (o := { dst := some 62, op := _, type := _, pos := _, after := _, guard := _ }) rfl (fun K hK => ?_) AllReadyH.nil
        go_simp
        refine (HSO.out A6 A7 c6 c7 _ h6 h7).mono ?_
        rintro e x7 ⟨rfl, hk7⟩
        have hKeep := since_step hHeld hk7
        clear h6 h7
        go_wp2_with fail
        refine hK.out _ _ (by (try dsimp only); exact hKeep) (fun hHeld => ?_)
        clear hK K hKeep
        try simp only [Act.put, List.setIfInBounds_toArray, List.set_cons_zero, List.set_cons_succ]
        refine wpAnyH_take (i := 16) (oi := { dst := some 63, op := _, type := _, pos := _, after := _, guard := _ }) (v := ?_) rfl (by kernel_rfl) (by kernel_rfl) (by kernel_rfl) (fun _ _ _ h => h) (Or.inl ⟨by rfl, ?_⟩) hHeld ?_
        rotate_left
        · (intro w hSw; clear hSw; go_simp <;> with_reducible rfl)
        try simp only [Act.put, List.setIfInBounds_toArray, List.set_cons_zero, List.set_cons_succ]
        refine wpAnyH_take (i := 17) (oi := { dst := some 64, op := _, type := _, pos := _, after := _, guard := _ }) (v := ?_) rfl (by kernel_rfl) (by kernel_rfl) (by kernel_rfl) (fun _ _ _ h => h) (Or.inl ⟨by rfl, ?_⟩) hHeld ?_
        rotate_left
        · (intro w hSw; clear hSw; go_simp <;> with_reducible rfl)
        try simp only [Act.put, List.setIfInBounds_toArray, List.set_cons_zero, List.set_cons_succ]
        refine wpAnyH_done (by kernel_rfl) ?_ _
        have hB := hB.trans (hHeld.mono hszU)
        obtain ⟨⟨p0, p1⟩, ⟨p2, p3⟩, ⟨p4, p5⟩⟩ := HC.out _ hHeld
        have HT := Lib.hid (HR0.out _ hHeld)
        have HR1 := Lib.hid (HRA.out _ hHeld)
        have hsM := HM0.out _ hHeld
        clear HR0 HRA HM0 HC hHeld
        go_wp2_with fail
        refine (HMB.out X1 d1 m1 _ (by have := HR1.out.2.1; have := HZV.out; omega) HR1.out.1 HR1.out.2 hsM).mono ?_
        rintro e v1 ⟨⟨m3, X3, d3, rfl, hsN, htN, _⟩, hb⟩
        have hB := since_step hB hb
        have HT := Lib.hid (And.intro (HT.out.1.below hb) (HT.out.2.below hb))
        have HR1 := Lib.hid (And.intro (HR1.out.1.below hb) (HR1.out.2.below hb))
        clear hb
        have HR3 := Lib.hid (And.intro hsN htN)
        clear hsN htN p0 p1 p2 p3 p4 p5 hsM
        by_cases hk0 : kn = 0
        · have hKc := HKB.out hk0
          subst hk0
          rw [hKc] at HR3
          have HZ3 : Hid (m3.length ≤ 900000) := Lib.hid (by have h3 := HR3.out.2.1; have h4 := HT.out.2.1; have := HZR.out; omega)
          clear hKc HKB
          go_wp2_with fail
          refine (HSB.out _ _ _ _ _ _ _ HZ3.out HR3.out.1 HR3.out.2 HT.out.1 HT.out.2).mono ?_
          rintro e u1 ⟨rfl, hb⟩
          have hB := since_step hB hb
          have HT := Lib.hid (And.intro (HT.out.1.below hb) (HT.out.2.below hb))
          have HR1 := Lib.hid (And.intro (HR1.out.1.below hb) (HR1.out.2.below hb))
          have HR3 := Lib.hid (And.intro (HR3.out.1.below hb) (HR3.out.2.below hb))
          clear hb
          clear HR3
          go_wp2_with fail
          refine (HIA.out X1 d1 m1 _ (by have := HR1.out.2.1; have := HZV.out; omega) HR1.out.1 HR1.out.2).mono ?_
          rintro e u2 ⟨rfl, hb⟩
          have hB := since_step hB hb
          have HT := Lib.hid (And.intro (HT.out.1.below hb) (HT.out.2.below hb))
          have HR1 := Lib.hid (And.intro (HR1.out.1.below hb) (HR1.out.2.below hb))
          clear hb
          go_wp2_with fail
          refine (HBA.out X1 d1 m1 _ (by have := HR1.out.2.1; have := HZV.out; omega) HR1.out.1 HR1.out.2).mono ?_
          rintro e u3 ⟨rfl, hb⟩
          have hB := since_step hB hb
          have HT := Lib.hid (And.intro (HT.out.1.below hb) (HT.out.2.below hb))
          have HR1 := Lib.hid (And.intro (HR1.out.1.below hb) (HR1.out.2.below hb))
          clear hb
          go_wp2_with fail
          refine (HBL.out _ HT.out.1 HT.out.2).mono ?_
          rintro e u4 ⟨rfl, hb⟩
          have hB := since_step hB hb
          have HT := Lib.hid (And.intro (HT.out.1.below hb) (HT.out.2.below hb))
          have HR1 := Lib.hid (And.intro (HR1.out.1.below hb) (HR1.out.2.below hb))
          clear hb
          clear HT HR1
          go_wp2_with fail
          refine (HLV.out _).mono ?_
          rintro e u5 ⟨rfl, hb⟩
          have hB := since_step hB hb
          clear hb
          go_wp2_with fail
          go_ret
          exact ⟨rfl, hB⟩
        · have hkb : (kn != 0) = true := by simpa using hk0
          have hkb2 : (kn == 0) = false := by simpa using hk0
          clear hk0 HR3 HKB
          go_wp2_with fail
          refine (HIA.out X1 d1 m1 _ (by have := HR1.out.2.1; have := HZV.out; omega) HR1.out.1 HR1.out.2).mono ?_
          rintro e u1 ⟨rfl, hb⟩
          have hB := since_step hB hb
          have HT := Lib.hid (And.intro (HT.out.1.below hb) (HT.out.2.below hb))
          have HR1 := Lib.hid (And.intro (HR1.out.1.below hb) (HR1.out.2.below hb))
          clear hb
          go_wp2_with fail
          refine (HBA.out X1 d1 m1 _ (by have := HR1.out.2.1; have := HZV.out; omega) HR1.out.1 HR1.out.2).mono ?_
          rintro e u2 ⟨rfl, hb⟩
          have hB := since_step hB hb
          have HT := Lib.hid (And.intro (HT.out.1.below hb) (HT.out.2.below hb))
          have HR1 := Lib.hid (And.intro (HR1.out.1.below hb) (HR1.out.2.below hb))
          clear hb
          go_wp2_with fail
          refine (HBL.out _ HT.out.1 HT.out.2).mono ?_
          rintro e u3 ⟨rfl, hb⟩
          have hB := since_step hB hb
          have HT := Lib.hid (And.intro (HT.out.1.below hb) (HT.out.2.below hb))
          have HR1 := Lib.hid (And.intro (HR1.out.1.below hb) (HR1.out.2.below hb))
          clear hb
          clear HT HR1
          go_wp2_with fail
          refine (HLV.out _).mono ?_
          rintro e u4 ⟨rfl, hb⟩
          have hB := since_step hB hb
          clear hb
          go_wp2_with fail
          go_ret
          exact ⟨rfl, hB⟩
  · have hVn := movP_err hV hm0
    have hl0 : ((m1.length : Int) == 0) = true := by
      have := HR1.out.2.1
      rw [hVn] at this
      rw [this]; rfl
    have hvb : (vn != 0) = true := by simpa using hm0
    have hvb2 : (vn == 0) = false := by simpa using hm0
    clear hVn hm0 hV HR1 HT hgd hR9 hR8 hcl9 hcl4 hM4 hM6 hK1 hK2 hK3 hsM hcs
    go_wp2_with fail
    refine (HLV.out _).mono ?_
    rintro e u1 ⟨rfl, hb⟩
    have hB := since_step hB hb
    go_wp2_with fail
    go_ret
    exact ⟨rfl, hB⟩
theorem walk_BookMoves (a0 : Option Addr) (n0 c0 : Nat) (a1 : Array Value) (a2 : Array Value) (a3 : Array Value) (a4 : Option Addr) (n4 c4 : Nat) (w : World) (w0 : Rd w (.sl (.cat (.cat (.int .i64) (.cat (.int .i64) .nil)) (.cat (.sl (.cat (.int .i64) (.cat (.int .i64) .nil))) .nil))) [.slice a0 n0 c0]) (w1 : Rd w (.cat (.int .i64) (.cat (.int .i64) .nil)) a1.toList) (w2 : Rd w (.cat (.int .i64) (.cat (.int .i64) .nil)) a2.toList) (w3 : Rd w (.cat (.int .i64) (.cat (.int .i64) .nil)) a3.toList) (w4 : Rd w (.sl (.cat (.int .i64) (.cat (.int .i64) .nil))) [.slice a4 n4 c4]) :
    Calls Try.prog 7 #[.slice a0 n0 c0, .agg a1, .agg a2, .agg a3, .slice a4 n4 c4] w fun e w' => e = .returned (.bool true) ∧ Below w.heap.size w w' := by
  obtain ⟨l, rfl, _, _, hs, hd⟩ := rd_rowsP (f := Po.cells) (fun r => rd_hold) w0
  obtain ⟨fa, fc, rfl⟩ := rd_two w1
  obtain ⟨ta, tc, rfl⟩ := rd_two w2
  obtain ⟨oa, oc, rfl⟩ := rd_two w3
  obtain ⟨l3, rfl, hl3, hc3, hs3, hq3⟩ := rd_rowsP (f := Lg.cells) (fun r => rd_ltrowH) w4
  by_cases f1 : oa = fa
  · by_cases f2 : oc = fc
    · exact bmoves_A a0 c0 l fa fc ta tc oa oc a4 c4 l3 w hl3 hc3 hs3 hq3 hs hd (Lib.hid f1) (Lib.hid f2)
    · by_cases t1 : oa = ta
      · by_cases t2 : oc = tc
        · exact bmoves_B2 a0 c0 l fa fc ta tc oa oc a4 c4 l3 w hl3 hc3 hs3 hq3 hs hd (Lib.hid f1) (Lib.hid f2) (Lib.hid t1) (Lib.hid t2)
        · exact bmoves_C22 a0 c0 l fa fc ta tc oa oc a4 c4 l3 w hl3 hc3 hs3 hq3 hs hd (Lib.hid f1) (Lib.hid f2) (Lib.hid t1) (Lib.hid t2)
      · exact bmoves_C21 a0 c0 l fa fc ta tc oa oc a4 c4 l3 w hl3 hc3 hs3 hq3 hs hd (Lib.hid f1) (Lib.hid f2) (Lib.hid t1)
  · by_cases t1 : oa = ta
    · by_cases t2 : oc = tc
      · exact bmoves_B1 a0 c0 l fa fc ta tc oa oc a4 c4 l3 w hl3 hc3 hs3 hq3 hs hd (Lib.hid f1) (Lib.hid t1) (Lib.hid t2)
      · exact bmoves_C12 a0 c0 l fa fc ta tc oa oc a4 c4 l3 w hl3 hc3 hs3 hq3 hs hd (Lib.hid f1) (Lib.hid t1) (Lib.hid t2)
    · exact bmoves_C11 a0 c0 l fa fc ta tc oa oc a4 c4 l3 w hl3 hc3 hs3 hq3 hs hd (Lib.hid f1) (Lib.hid t1)
end Go.Proofs.Ytldnponbkhgijaa
end
