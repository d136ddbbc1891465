import Derived.Test.YtiggcpfmmgmncaaSp05
import Derived.Test.YtiggcpfmmgmncaaSp30
import Derived.Test.YtiggcpfmmgmncaaSp41
section
namespace Go.Proofs.Ytiggcpfmmgmncaa
open Go.ChangeShapes Go.WideShapes Go.ChangeAt Go.RowKit
set_option linter.unusedVariables false
set_option linter.unusedSimpArgs false

theorem newest_ge8 {S : List (List Nat)} {f : Nat} : ∀ {k i : Nat} {x : Fr}, i < k → frD S ((f + i : Nat) : Int) = some x → x.life ≤ newestN S f k
  | 0, i, x, h, _ => absurd h (Nat.not_lt_zero _)
  | k + 1, i, x, h, hx => by
    unfold newestN
    by_cases e : i = k
    · subst e
      rw [hx]
      simp only
      split <;> omega
    · have ih := newest_ge8 (k := k) (by omega) hx
      split
      · exact ih
      · rename_i y hy
        split <;> omega
theorem newest_sub8 {S : List (List Nat)} (hl : S.length = 14) (f m : Nat) : newestN S f m ≤ newestN S 0 14 :=
  newest_le (newestN_bd S 0 14).1 (fun i x hx => by
    obtain ⟨h0, h1, _, _⟩ := frD_some hx
    have e : i = ((0 + i.toNat : Nat) : Int) := by omega
    rw [e] at hx
    exact newest_ge8 (by omega) hx) f m
set_option maxHeartbeats 16000000 in
set_option maxRecDepth 100000 in
theorem walk_ScrollPlays (a0 a1 : Int) (a2 : Option Addr) (n2 c2 : Nat) (w : World) (w0 : (Lit.int .i64 a0).wf = true) (w1 : (Lit.int .i64 a1).wf = true) (w2 : Rd w (.sl (.cat (.int .i64) (.cat (.int .i64) (.cat (.sl (.int .u8)) (.cat (.sl (.int .i64)) .nil))))) [.slice a2 n2 c2]) :
    Calls Try.prog 3 #[.int .i64 a0, .int .i64 a1, .slice a2 n2 c2] w fun e w' => e = .returned (.bool true) ∧ Below w.heap.size w w' := by
  obtain ⟨L, rfl, h0c, h0m, h0s, h0p⟩ := rd_rowsP (f := Do8.cells) (p := fun x => x.Ok w) (fun r => rd_do8) w2
  have HLV := Lib.hid (fun V => lives8_any V)
  have HN := Lib.hid (dnew_any 14 w (by decide) (by decide))
  have HAT := Lib.hid (fun k (hk : k < L.length) => Sl.elem (m := 4) Do8.len (by decide) h0s hk)
  have HPP := Lib.hid (fun k (hk : k < L.length) => h0p L[k] (List.getElem_mem hk))
  obtain ⟨f, hf, hf3⟩ : ∃ f : Nat, clampI a0 0 3 = (f : Int) ∧ f ≤ 3 := by
    refine ⟨(clampI a0 0 3).toNat, ?_, ?_⟩ <;> (unfold clampI; split <;> (try split) <;> omega)
  obtain ⟨er, her, her5⟩ : ∃ er : Int, clampI a1 0 5 = er ∧ 0 ≤ er ∧ er ≤ 5 := ⟨_, rfl, by unfold clampI; split <;> (try split) <;> omega⟩
  have HF3 := Lib.hid hf3
  have HER := Lib.hid her5
  have HI0 := Lib.hid (in_any a0 0 3 w)
  have HI1 := Lib.hid (in_any a1 0 5 w)
  rw [hf] at HI0
  rw [her] at HI1
  clear w0 w1 w2 h0c h0m h0s h0p hf hf3 her her5
  go_enter Try.func3, Try.ntmps3
  go_wp2_with fail
  refine HI0.out.mono ?_
  rintro e v0 ⟨rfl, rfl⟩
  go_wp2_with fail
  refine HI1.out.mono ?_
  rintro e v0 ⟨rfl, rfl⟩
  go_wp2_with fail
  refine HN.out.mono ?_
  rintro e v1 ⟨b, g, rfl, ⟨K1, kc1, hd1⟩, hb1⟩
  have HD1 := Lib.hid hd1
  have HB1 := Lib.hid hb1
  have HR := Lib.hid (rnew6_any 14 v1 (by decide))
  clear hd1 hb1 HN HI0 HI1
  go_wp2_with fail
  refine HR.out.mono ?_
  rintro e v2 ⟨b2, A2, c2, R2, rfl, hr2, hb2⟩
  have HB2 := Lib.hid (since_step HB1.out hb2)
  have HT2 := Lib.hid (Two0.mk1 HD1.out HB1.out.size hr2 hb2)
  clear hr2 hb2 HR HD1
  obtain ⟨D0, hD0⟩ : ∃ D, Dv.new 14 = D := ⟨_, rfl⟩
  obtain ⟨X0, hX0⟩ : ∃ X, Rv.new 14 = X := ⟨_, rfl⟩
  have hsp := SP.new (f := f) (by have := HF3.out; omega) (era := er)
  rw [hD0, hX0] at hsp
  have hC0 : X0.C = D0.S := by rw [← hX0, ← hD0]; exact (Rel.new 14).C
  have hnw : newestN D0.S f (14 - f) < 1 := by
    rw [← hD0]
    have := newest_le (M := 0) (Int.le_refl 0) (fun i f h => by rw [frD_new] at h; cases h) f (14 - f) (S := (Dv.new 14).S)
    omega
  have hl0 : D0.S.length = 14 := hsp.len
  obtain ⟨x0, hx0⟩ : ∃ x : Sc, ⟨f, 14, 1, er, (scan D0.S 14 er f 0 0).1, (scan D0.S 14 er f 0 0).2 - f, false⟩ = x := ⟨_, rfl⟩
  rw [hx0] at hsp
  rw [hD0, hX0] at HT2
  have hO1 := HT2.out.popen (f := f) (t := 14) (life := 1) (era := er) HB2.out.size (by have := HF3.out; omega) (by rw [hl0]; decide) (by decide) (by decide) (HER.out.1) (by have := HER.out; omega) hnw
  rw [hx0] at hO1
  have HO1 := Lib.hid hO1
  have HSP0 := Lib.hid hsp
  have HNW0 := Lib.hid hnw
  have HC0 := Lib.hid hC0
  have HL0 := Lib.hid hl0
  have HX0 := Lib.hid hx0
  clear hsp hnw hC0 hl0 hx0 hO1 HT2 hD0 hX0
  go_wp2_with fail
  refine HO1.out.mono ?_
  rintro e v3 ⟨s, rfl, ht3, hb3⟩
  have HB3 := Lib.hid (since_step HB2.out hb3)
  have hO2 := ht3.ropen (f := f) (t := 14) (life := 1) (era := er) HB3.out.size (by have := HF3.out; omega) (by rw [HC0.out, HL0.out]; decide) (by decide) (by decide) (HER.out.1) (by have := HER.out; omega) (by rw [HC0.out]; exact HNW0.out)
  rw [HC0.out, HX0.out] at hO2
  have HO2 := Lib.hid hO2
  clear ht3 hb3 hO2 HO1 HB1 HB2 HNW0 HC0 HL0
  go_wp2_with fail
  refine HO2.out.mono ?_
  rintro e v4 ⟨s2, rfl, ht4, hb4⟩
  have HB4 := Lib.hid (since_step HB3.out hb4)
  have HT4 := Lib.hid ht4
  clear ht4 hb4 HO2 HB3 HX0
  go_wp2_with fail
  go_loopw [10, 11, 12, 14] (fun sv ev yv iv wr => ∃ (k : Nat) (d : Dv) (x : Sc) (X : Rv) (s s2 : Nat) (M : Int), k ≤ L.length ∧ k ≤ 40 ∧ sv = .pointer (some ⟨s, 0, none⟩) ∧ ev = .int .i64 0 ∧ yv = .pointer (some ⟨s2, 0, none⟩) ∧ iv = .int .i64 k ∧ Hid (M ≤ 3 * (k : Int) + 1) ∧ Hid (Two w.heap.size wr b g s b2 s2 d x X x) ∧ Hid (SP d x X M (2 * k)) ∧ Below w.heap.size w wr) (fun _ _ _ iv _ => 40 - (intOf iv).toNat)
  case atStart => exact ⟨0, D0, x0, X0, s, s2, 1, Nat.zero_le _, Nat.zero_le _, rfl, rfl, rfl, rfl, Lib.hid (by decide), HT4, HSP0, HB4.out⟩
  case round =>
    clear HB4 HT4 HSP0
    obtain ⟨k, d, x, X, s, s2, M, hk, hk40, rfl, rfl, rfl, rfl, HM, HT, HP, hBW⟩ := hrel
    by_cases hlt : k < L.length
    · by_cases h40 : k < 40
      · have hlk1 : (k : Int) < (L.length : Int) := by omega
        have hlk2 : (k : Int) < 40 := by omega
        have hgk : (0 : Int) ≤ (k : Int) := by omega
        obtain ⟨bb, oo, hA, hbw, hcells⟩ := HAT.out k hlt
        have hOk := HPP.out k hlt
        obtain ⟨xx, hx⟩ : ∃ x, L[k] = x := ⟨_, rfl⟩
        rw [hx] at hcells hOk
        clear hx
        obtain ⟨kind, n, BA, bc, B, KA, kkc, KK⟩ := xx
        obtain ⟨o0, o1, o2, o3, o4, o5, o6, o7⟩ := hOk
        simp only at o0 o1 o2 o3 o4 o5 o6 o7
        have HG : Hid (w.cell? ⟨bb, oo + k * 4, none⟩ = some (.int .i64 kind) ∧ w.cell? ⟨bb, oo + k * 4 + 1, none⟩ = some (.int .i64 n) ∧ w.cell? ⟨bb, oo + k * 4 + 2, none⟩ = some (.slice BA B.length bc) ∧ w.cell? ⟨bb, oo + k * 4 + 3, none⟩ = some (.slice KA KK.length kkc)) := Lib.hid ⟨hcells 0 _ rfl, hcells 1 _ rfl, hcells 2 _ rfl, hcells 3 _ rfl⟩
        obtain ⟨BL, hBL⟩ : ∃ BL, B.take 250 = BL := ⟨_, rfl⟩
        obtain ⟨m, hm⟩ : ∃ m, min B.length 250 = m := ⟨_, rfl⟩
        have HBM : Hid (BL.length = m) := Lib.hid (by rw [← hBL, ← hm, List.length_take, Nat.min_comm])
        have HBF : Hid (BL.length ≤ bc ∧ bc ≤ maxLen ∧ BL.length ≤ 100000 ∧ Oct BL) := Lib.hid ⟨by rw [HBM.out, ← hm]; omega, o2, by rw [HBM.out, ← hm]; omega, by rw [← hBL]; exact o4.take 250⟩
        have HB250 : Hid (BL.length ≤ 250) := Lib.hid (by rw [HBM.out, ← hm]; omega)
        have hslB : Sl w BA (by8 BL) := by rw [← hBL, by8_take]; exact o3.take 250
        have HBS := Lib.hid (fun V (hV : Below w.heap.size w V) => hslB.below hV)
        have HBLT := Lib.hid hslB.lt
        obtain ⟨KL, hKL⟩ : ∃ KL, KK.take 20 = KL := ⟨_, rfl⟩
        have hslK : Sl w KA (rc Nt.cells KL) := by
          have := o7.take (20 * 1)
          rw [rc_take Nt.len, hKL] at this
          exact this
        have HKS := Lib.hid (fun V (hV : Below w.heap.size w V) => hslK.below hV)
        have HKA := Lib.hid hslK.lt
        have HKL : Hid (KL.length ≤ 1000000) := Lib.hid (by rw [← hKL, List.length_take]; omega)
        have HNB := Lib.hid o0
        have HCUT := Lib.hid (fun V => cut_any BA B.length bc 250 V (by unfold maxLen at o2; omega) (by omega) o1 (by unfold maxLen at o2; omega))
        rw [hm] at HCUT
        have HFEW := Lib.hid (fun V => few8_any KA KK.length kkc V (by unfold maxLen at o6; omega) o5 (by unfold maxLen at o6; omega))
        rw [show min KK.length 20 = KL.length by rw [← hKL, List.length_take, Nat.min_comm]] at HFEW
        have hc0 := (hBW.cell (p := ⟨bb, oo + k * 4, none⟩) hbw).trans HG.out.1
        have hc1 := (hBW.cell (p := ⟨bb, oo + k * 4 + 1, none⟩) hbw).trans HG.out.2.1
        have hc2 := (hBW.cell (p := ⟨bb, oo + k * 4 + 2, none⟩) hbw).trans HG.out.2.2.1
        have hc3 := (hBW.cell (p := ⟨bb, oo + k * 4 + 3, none⟩) hbw).trans HG.out.2.2.2
        have hbwr : bb < wr.heap.size := Nat.lt_of_lt_of_le hbw hBW.size
        subst hA
        have HBW := Lib.hid hBW
        clear o0 o1 o2 o3 o4 o5 o6 o7 hcells hBL hm hslB hKL hslK hBW hbw HG HAT HPP
        go_wp2_with fail
        have hq : (wr.alloc (.cells #[.int .i64 kind, .int .i64 n, .slice BA B.length bc, .slice KA KK.length kkc] 39)).heap[wr.heap.size]? = some (.cells #[.int .i64 kind, .int .i64 n, .slice BA B.length bc, .slice KA KK.length kkc] 39) := by rw [heap_alloc_new]
        have hb0 : Below wr.heap.size wr (wr.alloc (.cells #[.int .i64 kind, .int .i64 n, .slice BA B.length bc, .slice KA KK.length kkc] 39)) := since_alloc (Below.refl _ _) _
        have HT0 := Lib.hid (HT.out.below hb0)
        have HB0 := Lib.hid (since_alloc HBW.out (.cells #[.int .i64 kind, .int .i64 n, .slice BA B.length bc, .slice KA KK.length kkc] 39))
        clear HT HBW hb0 hc0 hc1 hc2 hc3 hbwr
        generalize wr.alloc (.cells #[.int .i64 kind, .int .i64 n, .slice BA B.length bc, .slice KA KK.length kkc] 39) = W0 at *
        generalize wr.heap.size = q at *
        have q0 : W0.cell? ⟨q, 0, none⟩ = some (.int .i64 kind) := (box_cells' hq 0).1
        have q1 : W0.cell? ⟨q, 1, none⟩ = some (.int .i64 n) := (box_cells' hq 1).1
        have q3 : W0.cell? ⟨q, 3, none⟩ = some (.slice KA KK.length kkc) := (box_cells' hq 3).1
        have hqs : q < W0.heap.size := (box_cells' hq 0).2.2
        have HQ := Lib.hid hq
        clear hq
        refine (HCUT.out _).mono ?_
        rintro e x1 ⟨rfl, rfl⟩
        by_cases hkind : kind = 0
        · have hk0 : (kind == 0) = true := by simpa using hkind
          clear hkind
          obtain ⟨e1, e2, hsp⟩ := HP.out.app (l := BL) HB250.out
          have hA := HT0.out.papp (rA := BA) (rc_ := bc) (l := BL) HB0.out.size HBF.out.1 HBF.out.2.1 HBF.out.2.2.1 (HBS.out _ HB0.out) HBLT.out HBF.out.2.2.2 (by rw [HP.out.t, HP.out.len]; decide) (by have := HP.out.n; omega)
          have hR := fun V (h : Two w.heap.size V b g s b2 s2 (x.app d BL).1.2 (x.app d BL).1.1 X x) (hV : Below w.heap.size w V) => h.rapp (rA := BA) (rc_ := bc) (l := BL) hV.size HBF.out.1 HBF.out.2.1 HBF.out.2.2.1 (HBS.out _ hV) HBLT.out HBF.out.2.2.2 (by rw [HP.out.t, HP.out.Cl]; decide) HP.out.rel.bd.2 (by have := HP.out.rel.bd; omega) (by have := HP.out.n; omega)
          rw [HBM.out] at hA hR
          generalize x.app d BL = PP at *
          generalize x.rapp X BL = QQ at *
          obtain ⟨⟨x1, d1⟩, r1⟩ := PP
          obtain ⟨⟨y1, X1⟩, r2⟩ := QQ
          simp only at e1 e2 hsp hA hR
          subst e1 e2
          have HA := Lib.hid hA
          have HR := Lib.hid hR
          have HPt : Hid (SP d1 y1 X1 M (2 * (k + 1))) := Lib.hid (hsp.mono (Int.le_refl _))
          have HMt : Hid (M ≤ 3 * ((k + 1 : Nat) : Int) + 1) := Lib.hid (by have := HM.out; omega)
          clear hA hR hsp HP HM
          go_wp2_with fail
          refine HA.out.mono ?_
          rintro e x4 ⟨rfl, ht4, hb4, _⟩
          have HB4 := Lib.hid (HB0.out.trans hb4)
          have HR4 := Lib.hid (HR.out x4 ht4 HB4.out)
          clear ht4 hb4 HA HR HT0 HB0
          go_wp2_with fail
          refine HR4.out.mono ?_
          rintro e x5 ⟨rfl, ht5, hb5, _⟩
          have HBt := Lib.hid (HB4.out.trans hb5)
          have HTt := Lib.hid ht5
          clear ht5 hb5 HR4 HB4
          go_wp2_with fail
          obtain ⟨YA, yc, YR, hy5, hy6, hys, hym, hysl, hyr⟩ := HTt.out.ry
          obtain ⟨u, hu⟩ : ∃ u, y1.used = u := ⟨_, rfl⟩
          rw [hu] at hy6
          have HU := Lib.hid hu
          have HY5 : Hid (x5.drew.cell? ⟨s2, 5, none⟩ = some (.slice YA YR.length yc)) := Lib.hid hy5
          have HY6 : Hid (x5.drew.cell? ⟨s2, 6, none⟩ = some (.int .i64 u)) := Lib.hid hy6
          have HYS : Hid (s2 < x5.drew.heap.size) := Lib.hid hys
          have HYM := Lib.hid hym
          have HYSL := Lib.hid (⟨hysl, hyr⟩ : Sl x5 YA (rc RowS.cells YR) ∧ ∀ r ∈ YR, Sl x5 r.A (by8 r.l))
          have HYL : Hid (YR.length ≤ 1000000 ∧ ∀ r ∈ YR, r.l.length ≤ 1000000) := Lib.hid ⟨by rw [← List.length_map (f := RowS.l), HYM.out]; have := HPt.out.n; omega, fun r hr => by have := HPt.out.lens r.l (by rw [← HYM.out]; exact List.mem_map.2 ⟨r, hr, rfl⟩); omega⟩
          have HTD : Hid (Two w.heap.size x5.drew b g s b2 s2 d1 y1 X1 y1) := Lib.hid (HTt.out.below (Below.refl _ _).drew)
          have HRC := Lib.hid (HTD.out.precs HPt.out.lens)
          clear hu hy5 hy6 hys hym hysl hyr HTt
          refine wp_region_held_drew (S := (fun Z => Z.cell? ⟨s2, 5, none⟩ = some (.slice YA YR.length yc) ∧ Z.cell? ⟨s2, 6, none⟩ = some (.int .i64 u) ∧ s2 < Z.heap.size)) (by kernel_rfl) (by exact ⟨HY5.out, HY6.out, HYS.out⟩) (fun hHeld => ?_)
          refine tkZ (i := 0) (oi := ⟨some 127, _, _, _, _, _⟩) (v := ?_) rfl (by kernel_rfl) (fun _ _ _ h => h) (Or.inl ⟨by rfl, ?_⟩) hHeld ?_
          rotate_left
          · (intro w hSw; clear hSw; go_simp <;> with_reducible rfl)
          try simp only [pqZ]
          refine tkZ (i := 2) (oi := ⟨some 129, _, _, _, _, _⟩) (v := ?_) rfl (by kernel_rfl) (fun _ _ _ h => h) (Or.inl ⟨by rfl, ?_⟩) hHeld ?_
          rotate_left
          · (intro w hSw; clear hSw; go_simp <;> with_reducible rfl)
          try simp only [pqZ]
          refine tkZ (i := 3) (oi := ⟨some 130, _, _, _, _, _⟩) (v := ?_) rfl (by kernel_rfl) (fun _ _ _ h => h) (Or.inl ⟨by rfl, ?_⟩) hHeld ?_
          rotate_left
          · (intro w hSw; clear hSw; go_simp <;> with_reducible rfl)
          try simp only [pqZ]
          refine tkZ (i := 4) (oi := ⟨some 131, _, _, _, _, _⟩) (v := ?_) rfl (by kernel_rfl) (fun _ _ _ h => h) (Or.inl ⟨by rfl, ?_⟩) hHeld ?_
          rotate_left
          · (intro w hSw; clear hSw; go_simp <;> with_reducible rfl)
          try simp only [pqZ]
          refine tkZ (i := 5) (oi := ⟨some 132, _, _, _, _, _⟩) (v := ?_) rfl (by kernel_rfl) (fun _ _ _ h => h) (Or.inl ⟨by rfl, ?_⟩) hHeld ?_
          rotate_left
          · (intro w hSw; obtain ⟨q5, q6, qs⟩ := (hSw); go_simp <;> with_reducible rfl)
          try simp only [pqZ]
          refine wpAnyH_ready (rs := [1]) (by kernel_rfl) (by simp) ?_
          refine AllReadyH.cons (o := ⟨some 128, _, _, _, _, _⟩) rfl (fun K hK => ?_) AllReadyH.nil
          go_simp
          refine HRC.out.mono ?_
          rintro e z1 ⟨⟨A5, c5, S5, rfl, own5, map5, or5⟩, hb5⟩
          have HZ1 := Lib.hid (since_step (Below.refl _ _).drew hb5)
          have HU1 := Lib.hid (HTD.out.below hb5)
          have HMP : Hid (S5.map RowS.l = y1.L) := Lib.hid map5
          have HS5 : Hid (S5.length ≤ 1000000 ∧ ∀ r ∈ S5, r.l.length ≤ 1000000) := Lib.hid ⟨by rw [← List.length_map (f := RowS.l), HMP.out]; have := HPt.out.n; omega, fun r hr => by have := HPt.out.lens r.l (by rw [← HMP.out]; exact List.mem_map.2 ⟨r, hr, rfl⟩); omega⟩
          have hSM := rsame8_any A5 YA c5 yc S5 YR z1 HS5.out.1 HYL.out.1 (Sl.of_own own5) (HYSL.out.1.below HZ1.out) (fun r hr => ⟨Sl.of_own (or5 r hr), HS5.out.2 r hr⟩) (fun r hr => ⟨(HYSL.out.2 r hr).below HZ1.out, HYL.out.2 r hr⟩)
          rw [HMP.out, HYM.out, decide_eq_true rfl] at hSM
          have HSM := Lib.hid hSM
          have hKeep : (fun Z => Z.cell? ⟨s2, 5, none⟩ = some (.slice YA YR.length yc) ∧ Z.cell? ⟨s2, 6, none⟩ = some (.int .i64 u) ∧ s2 < Z.heap.size) z1 := ⟨(HZ1.out.cell (p := ⟨s2, 5, none⟩) HYS.out).trans HY5.out, (HZ1.out.cell (p := ⟨s2, 6, none⟩) HYS.out).trans HY6.out, Nat.lt_of_lt_of_le HYS.out HZ1.out.size⟩
          clear own5 map5 or5 hb5 hSM HRC
          go_wp2_with fail
          refine hK.out _ _ (by (try dsimp only); exact hKeep) (fun hHeld => ?_)
          clear hK K hKeep
          try simp only [pqZ]
          refine wpAnyH_ready (rs := [6]) (by kernel_rfl) (by simp) ?_
          refine AllReadyH.cons (o := ⟨some 133, _, _, _, _, _⟩) rfl (fun K hK => ?_) AllReadyH.nil
          go_simp
          refine HSM.out.mono ?_
          rintro e z2 ⟨rfl, hb6⟩
          have HZ2 := Lib.hid (since_step HZ1.out hb6)
          have HU2 := Lib.hid (HU1.out.below hb6)
          have HUS := Lib.hid HU2.out.pused
          rw [HU.out] at HUS
          have hKeep : (fun Z => Z.cell? ⟨s2, 5, none⟩ = some (.slice YA YR.length yc) ∧ Z.cell? ⟨s2, 6, none⟩ = some (.int .i64 u) ∧ s2 < Z.heap.size) z2 := ⟨(HZ2.out.cell (p := ⟨s2, 5, none⟩) HYS.out).trans HY5.out, (HZ2.out.cell (p := ⟨s2, 6, none⟩) HYS.out).trans HY6.out, Nat.lt_of_lt_of_le HYS.out HZ2.out.size⟩
          clear hb6 HSM
          go_wp2_with fail
          refine hK.out _ _ (by (try dsimp only); exact hKeep) (fun hHeld => ?_)
          clear hK K hKeep
          try simp only [pqZ]
          refine tkZ (i := 7) (oi := ⟨some 134, _, _, _, _, _⟩) (v := ?_) rfl (by kernel_rfl) (fun _ _ _ h => h) (Or.inl ⟨by rfl, ?_⟩) hHeld ?_
          rotate_left
          · (intro w hSw; clear hSw; go_simp <;> with_reducible rfl)
          try simp only [pqZ]
          refine tkZ (i := 8) (oi := ⟨some 135, _, _, _, _, _⟩) (v := ?_) rfl (by kernel_rfl) (fun _ _ _ h => h) (Or.inl ⟨by rfl, ?_⟩) hHeld ?_
          rotate_left
          · (intro w hSw; clear hSw; go_simp <;> with_reducible rfl)
          try simp only [pqZ]
          refine tkZ (i := 9) (oi := ⟨some 136, _, _, _, _, _⟩) (v := ?_) rfl (by kernel_rfl) (fun _ _ _ h => h) (Or.inl ⟨by rfl, ?_⟩) hHeld ?_
          rotate_left
          · (intro w hSw; clear hSw; go_simp <;> with_reducible rfl)
          try simp only [pqZ]
          refine tkZ (i := 11) (oi := ⟨some 138, _, _, _, _, _⟩) (v := ?_) rfl (by kernel_rfl) (fun _ _ _ h => h) (Or.inl ⟨by rfl, ?_⟩) hHeld ?_
          rotate_left
          · (intro w hSw; clear hSw; go_simp <;> with_reducible rfl)
          try simp only [pqZ]
          refine tkZ (i := 12) (oi := ⟨some 139, _, _, _, _, _⟩) (v := ?_) rfl (by kernel_rfl) (fun _ _ _ h => h) (Or.inl ⟨by rfl, ?_⟩) hHeld ?_
          rotate_left
          · (intro w hSw; clear hSw; go_simp <;> with_reducible rfl)
          try simp only [pqZ]
          refine tkZ (i := 13) (oi := ⟨some 140, _, _, _, _, _⟩) (v := ?_) rfl (by kernel_rfl) (fun _ _ _ h => h) (Or.inl ⟨by rfl, ?_⟩) hHeld ?_
          rotate_left
          · (intro w hSw; clear hSw; go_simp <;> with_reducible rfl)
          try simp only [pqZ]
          refine tkZ (i := 14) (oi := ⟨some 141, _, _, _, _, _⟩) (v := ?_) rfl (by kernel_rfl) (fun _ _ _ h => h) (Or.inl ⟨by rfl, ?_⟩) hHeld ?_
          rotate_left
          · (intro w hSw; obtain ⟨q5, q6, qs⟩ := (hSw); go_simp <;> with_reducible rfl)
          try simp only [pqZ]
          refine wpAnyH_ready (rs := [10]) (by kernel_rfl) (by simp) ?_
          refine AllReadyH.cons (o := ⟨some 137, _, _, _, _, _⟩) rfl (fun K hK => ?_) AllReadyH.nil
          go_simp
          refine HUS.out.mono ?_
          rintro e z3 ⟨rfl, hb7⟩
          have HZ3 := Lib.hid (since_step HZ2.out hb7)
          have HU3 := Lib.hid (HU2.out.below hb7)
          have hKeep : (fun Z => Z.cell? ⟨s2, 5, none⟩ = some (.slice YA YR.length yc) ∧ Z.cell? ⟨s2, 6, none⟩ = some (.int .i64 u) ∧ s2 < Z.heap.size) z3 := ⟨(HZ3.out.cell (p := ⟨s2, 5, none⟩) HYS.out).trans HY5.out, (HZ3.out.cell (p := ⟨s2, 6, none⟩) HYS.out).trans HY6.out, Nat.lt_of_lt_of_le HYS.out HZ3.out.size⟩
          clear hb7 HUS
          go_wp2_with fail
          refine hK.out _ _ (by (try dsimp only); exact hKeep) (fun hHeld => ?_)
          clear hK K hKeep
          try simp only [pqZ]
          refine tkZ (i := 15) (oi := ⟨some 142, _, _, _, _, _⟩) (v := ?_) rfl (by kernel_rfl) (fun _ _ _ h => h) (Or.inl ⟨by rfl, ?_⟩) hHeld ?_
          rotate_left
          · (intro w hSw; clear hSw; go_simp <;> with_reducible rfl)
          try simp only [pqZ]
          refine tkZ (i := 16) (oi := ⟨some 143, _, _, _, _, _⟩) (v := ?_) rfl (by kernel_rfl) (fun _ _ _ h => h) (Or.inl ⟨by rfl, ?_⟩) hHeld ?_
          rotate_left
          · (intro w hSw; clear hSw; go_simp <;> with_reducible rfl)
          try simp only [pqZ]
          refine wpAnyH_done (by kernel_rfl) ?_ _
          have HB9 := Lib.hid (HBt.out.trans (HZ3.out.mono HBt.out.size))
          go_wp2_with fail
          go_roundw
          case rel => exact ⟨k + 1, d1, y1, X1, s, s2, M, by omega, by omega, rfl, rfl, rfl, by go_num, HMt, HU3, HPt, HB9.out⟩
          case measure => simp [intOf]; omega
        · by_cases hkind1 : kind = 1
          · have hk0 : (kind == 0) = false := by simpa using hkind
            have hk1 : (kind == 1) = true := by simpa using hkind1
            clear hkind hkind1
            obtain ⟨e1, hsp⟩ := HP.out.fuse n KL HNB.out.2
            have HE1 := Lib.hid e1
            have HPt : Hid (SP (d.fuse n KL).1 x (X.fused n KL).1 M (2 * (k + 1))) := Lib.hid ((hsp.mono (Int.le_refl _)).mono (Int.le_refl _))
            have HMt : Hid (M ≤ 3 * ((k + 1 : Nat) : Int) + 1) := Lib.hid (by have := HM.out; omega)
            clear e1 hsp HP HM
            go_wp2_with fail
            refine wp_region_held_drew (S := (fun Z => Z.cell? ⟨q, 1, none⟩ = some (.int .i64 n) ∧ Z.cell? ⟨q, 3, none⟩ = some (.slice KA KK.length kkc) ∧ q < Z.heap.size)) (by kernel_rfl) (by exact ⟨q1, q3, hqs⟩) (fun hHeld => ?_)
            refine tkZ (i := 0) (oi := ⟨some 78, _, _, _, _, _⟩) (v := ?_) rfl (by kernel_rfl) (fun _ _ _ h => h) (Or.inl ⟨by rfl, ?_⟩) hHeld ?_
            rotate_left
            · (intro w hSw; clear hSw; go_simp <;> with_reducible rfl)
            try simp only [pqZ]
            refine tkZ (i := 1) (oi := ⟨some 79, _, _, _, _, _⟩) (v := ?_) rfl (by kernel_rfl) (fun _ _ _ h => h) (Or.inl ⟨by rfl, ?_⟩) hHeld ?_
            rotate_left
            · (intro w hSw; clear hSw; go_simp <;> with_reducible rfl)
            try simp only [pqZ]
            refine tkZ (i := 2) (oi := ⟨some 80, _, _, _, _, _⟩) (v := ?_) rfl (by kernel_rfl) (fun _ _ _ h => h) (Or.inl ⟨by rfl, ?_⟩) hHeld ?_
            rotate_left
            · (intro w hSw; obtain ⟨j1, j3, js⟩ := (hSw); go_simp <;> with_reducible rfl)
            try simp only [pqZ]
            refine tkZ (i := 3) (oi := ⟨some 81, _, _, _, _, _⟩) (v := ?_) rfl (by kernel_rfl) (fun _ _ _ h => h) (Or.inl ⟨by rfl, ?_⟩) hHeld ?_
            rotate_left
            · (intro w hSw; clear hSw; go_simp <;> with_reducible rfl)
            try simp only [pqZ]
            refine tkZ (i := 4) (oi := ⟨some 82, _, _, _, _, _⟩) (v := ?_) rfl (by kernel_rfl) (fun _ _ _ h => h) (Or.inl ⟨by rfl, ?_⟩) hHeld ?_
            rotate_left
            · (intro w hSw; obtain ⟨j1, j3, js⟩ := (hSw); go_simp <;> with_reducible rfl)
            try simp only [pqZ]
            refine tkZ (i := 7) (oi := ⟨some 85, _, _, _, _, _⟩) (v := ?_) rfl (by kernel_rfl) (fun _ _ _ h => h) (Or.inl ⟨by rfl, ?_⟩) hHeld ?_
            rotate_left
            · (intro w hSw; clear hSw; go_simp <;> with_reducible rfl)
            try simp only [pqZ]
            refine tkZ (i := 8) (oi := ⟨some 86, _, _, _, _, _⟩) (v := ?_) rfl (by kernel_rfl) (fun _ _ _ h => h) (Or.inl ⟨by rfl, ?_⟩) hHeld ?_
            rotate_left
            · (intro w hSw; clear hSw; go_simp <;> with_reducible rfl)
            try simp only [pqZ]
            refine tkZ (i := 9) (oi := ⟨some 87, _, _, _, _, _⟩) (v := ?_) rfl (by kernel_rfl) (fun _ _ _ h => h) (Or.inl ⟨by rfl, ?_⟩) hHeld ?_
            rotate_left
            · (intro w hSw; obtain ⟨j1, j3, js⟩ := (hSw); go_simp <;> with_reducible rfl)
            try simp only [pqZ]
            refine tkZ (i := 10) (oi := ⟨some 88, _, _, _, _, _⟩) (v := ?_) rfl (by kernel_rfl) (fun _ _ _ h => h) (Or.inl ⟨by rfl, ?_⟩) hHeld ?_
            rotate_left
            · (intro w hSw; clear hSw; go_simp <;> with_reducible rfl)
            try simp only [pqZ]
            refine tkZ (i := 11) (oi := ⟨some 89, _, _, _, _, _⟩) (v := ?_) rfl (by kernel_rfl) (fun _ _ _ h => h) (Or.inl ⟨by rfl, ?_⟩) hHeld ?_
            rotate_left
            · (intro w hSw; obtain ⟨j1, j3, js⟩ := (hSw); go_simp <;> with_reducible rfl)
            try simp only [pqZ]
            refine wpAnyH_ready (rs := [5]) (by kernel_rfl) (by simp) ?_
            refine AllReadyH.cons (o := ⟨some 83, _, _, _, _, _⟩) rfl (fun K hK => ?_) AllReadyH.nil
            go_simp
            refine (HFEW.out _).mono ?_
            rintro e x3 ⟨rfl, hb3⟩
            have HB3 := Lib.hid (since_step HB0.out (since_step (Below.refl _ _).drew hb3))
            have HT3 := Lib.hid (HT0.out.below (since_step (Below.refl _ _).drew hb3))
            have HK3 := Lib.hid (Kp.of_below (since_step (Below.refl _ _).drew hb3))
            have HF3 := Lib.hid (HT3.out.pfuse (n := n) (L := KA) (lc := kkc) (l := KL) HB3.out.size HKL.out HNB.out.2 (HKS.out _ HB3.out) HKA.out)
            have hqx3 := (HK3.out _ _ _ _ HQ.out (by decide) (by decide) (by decide) (by decide) (by decide) (by decide)).trans HQ.out
            have hKeep : (fun Z => Z.cell? ⟨q, 1, none⟩ = some (.int .i64 n) ∧ Z.cell? ⟨q, 3, none⟩ = some (.slice KA KK.length kkc) ∧ q < Z.heap.size) x3 := ⟨(box_cells' hqx3 1).1, (box_cells' hqx3 3).1, (box_cells' hqx3 0).2.2⟩
            clear hqx3
            clear hb3
            go_wp2_with fail
            refine hK.out _ _ (by (try dsimp only); exact hKeep) (fun hHeld => ?_)
            clear hK K hKeep
            try simp only [pqZ]
            refine wpAnyH_ready (rs := [6]) (by kernel_rfl) (by simp) ?_
            refine AllReadyH.cons (o := ⟨some 84, _, _, _, _, _⟩) rfl (fun K hK => ?_) AllReadyH.nil
            go_simp
            refine HF3.out.mono ?_
            rintro e x4 ⟨rfl, ht4, hb4, hk4⟩
            have HB4 := Lib.hid (HB3.out.trans hb4)
            have HT4 := Lib.hid ht4
            have HK4 := Lib.hid (HK3.out.trans hk4)
            have hqx4 := (HK4.out _ _ _ _ HQ.out (by decide) (by decide) (by decide) (by decide) (by decide) (by decide)).trans HQ.out
            have hKeep : (fun Z => Z.cell? ⟨q, 1, none⟩ = some (.int .i64 n) ∧ Z.cell? ⟨q, 3, none⟩ = some (.slice KA KK.length kkc) ∧ q < Z.heap.size) x4 := ⟨(box_cells' hqx4 1).1, (box_cells' hqx4 3).1, (box_cells' hqx4 0).2.2⟩
            clear hqx4
            clear hb4 ht4 hk4 HF3
            go_wp2_with fail
            refine hK.out _ _ (by (try dsimp only); exact hKeep) (fun hHeld => ?_)
            clear hK K hKeep
            try simp only [pqZ]
            refine wpAnyH_ready (rs := [12]) (by kernel_rfl) (by simp) ?_
            refine AllReadyH.cons (o := ⟨some 90, _, _, _, _, _⟩) rfl (fun K hK => ?_) AllReadyH.nil
            go_simp
            refine (HFEW.out _).mono ?_
            rintro e x5 ⟨rfl, hb5⟩
            have HB5 := Lib.hid (since_step HB4.out hb5)
            have HT5 := Lib.hid (HT4.out.below hb5)
            have HK5 := Lib.hid (HK4.out.trans (Kp.of_below hb5))
            have hF5 := HT5.out.rfuse (n := n) (L := KA) (lc := kkc) (l := KL) HB5.out.size HKL.out (HKS.out _ HB5.out) HKA.out
            rw [← HE1.out] at hF5
            have HF5 := Lib.hid hF5
            have hqx5 := (HK5.out _ _ _ _ HQ.out (by decide) (by decide) (by decide) (by decide) (by decide) (by decide)).trans HQ.out
            have hKeep : (fun Z => Z.cell? ⟨q, 1, none⟩ = some (.int .i64 n) ∧ Z.cell? ⟨q, 3, none⟩ = some (.slice KA KK.length kkc) ∧ q < Z.heap.size) x5 := ⟨(box_cells' hqx5 1).1, (box_cells' hqx5 3).1, (box_cells' hqx5 0).2.2⟩
            clear hqx5
            clear hb5 hF5
            go_wp2_with fail
            refine hK.out _ _ (by (try dsimp only); exact hKeep) (fun hHeld => ?_)
            clear hK K hKeep
            try simp only [pqZ]
            refine wpAnyH_ready (rs := [13]) (by kernel_rfl) (by simp) ?_
            refine AllReadyH.cons (o := ⟨some 91, _, _, _, _, _⟩) rfl (fun K hK => ?_) AllReadyH.nil
            go_simp
            refine HF5.out.mono ?_
            rintro e x6 ⟨rfl, ht6, hb6, hk6⟩
            have HBt := Lib.hid (HB5.out.trans hb6)
            have HTt := Lib.hid ht6
            have HK6 := Lib.hid (HK5.out.trans hk6)
            have hqx6 := (HK6.out _ _ _ _ HQ.out (by decide) (by decide) (by decide) (by decide) (by decide) (by decide)).trans HQ.out
            have hKeep : (fun Z => Z.cell? ⟨q, 1, none⟩ = some (.int .i64 n) ∧ Z.cell? ⟨q, 3, none⟩ = some (.slice KA KK.length kkc) ∧ q < Z.heap.size) x6 := ⟨(box_cells' hqx6 1).1, (box_cells' hqx6 3).1, (box_cells' hqx6 0).2.2⟩
            clear hqx6
            clear hb6 ht6 hk6 HF5
            go_wp2_with fail
            refine hK.out _ _ (by (try dsimp only); exact hKeep) (fun hHeld => ?_)
            clear hK K hKeep
            try simp only [pqZ]
            refine tkZ (i := 14) (oi := ⟨some 92, _, _, _, _, _⟩) (v := ?_) rfl (by kernel_rfl) (fun _ _ _ h => h) (Or.inl ⟨by rfl, ?_⟩) hHeld ?_
            rotate_left
            · (intro w hSw; clear hSw; go_simp <;> with_reducible rfl)
            try simp only [pqZ]
            refine wpAnyH_done (by kernel_rfl) ?_ _
            generalize (d.fuse n KL).2 = rr at *
            generalize (d.fuse n KL).1 = d1 at *
            generalize (X.fused n KL).1 = X1 at *
            clear HB3 HB4 HB5 HT3 HT4 HT5 HK3 HK4 HK5 HK6 HT0 HB0
            go_wp2_with fail
            obtain ⟨YA, yc, YR, hy5, hy6, hys, hym, hysl, hyr⟩ := HTt.out.ry
            obtain ⟨u, hu⟩ : ∃ u, x.used = u := ⟨_, rfl⟩
            rw [hu] at hy6
            have HU := Lib.hid hu
            have HY5 : Hid (x6.drew.cell? ⟨s2, 5, none⟩ = some (.slice YA YR.length yc)) := Lib.hid hy5
            have HY6 : Hid (x6.drew.cell? ⟨s2, 6, none⟩ = some (.int .i64 u)) := Lib.hid hy6
            have HYS : Hid (s2 < x6.drew.heap.size) := Lib.hid hys
            have HYM := Lib.hid hym
            have HYSL := Lib.hid (⟨hysl, hyr⟩ : Sl x6 YA (rc RowS.cells YR) ∧ ∀ r ∈ YR, Sl x6 r.A (by8 r.l))
            have HYL : Hid (YR.length ≤ 1000000 ∧ ∀ r ∈ YR, r.l.length ≤ 1000000) := Lib.hid ⟨by rw [← List.length_map (f := RowS.l), HYM.out]; have := HPt.out.n; omega, fun r hr => by have := HPt.out.lens r.l (by rw [← HYM.out]; exact List.mem_map.2 ⟨r, hr, rfl⟩); omega⟩
            have HTD : Hid (Two w.heap.size x6.drew b g s b2 s2 d1 x X1 x) := Lib.hid (HTt.out.below (Below.refl _ _).drew)
            have HRC := Lib.hid (HTD.out.precs HPt.out.lens)
            clear hu hy5 hy6 hys hym hysl hyr HTt
            refine wp_region_held_drew (S := (fun Z => Z.cell? ⟨s2, 5, none⟩ = some (.slice YA YR.length yc) ∧ Z.cell? ⟨s2, 6, none⟩ = some (.int .i64 u) ∧ s2 < Z.heap.size)) (by kernel_rfl) (by exact ⟨HY5.out, HY6.out, HYS.out⟩) (fun hHeld => ?_)
            refine tkZ (i := 0) (oi := ⟨some 127, _, _, _, _, _⟩) (v := ?_) rfl (by kernel_rfl) (fun _ _ _ h => h) (Or.inl ⟨by rfl, ?_⟩) hHeld ?_
            rotate_left
            · (intro w hSw; clear hSw; go_simp <;> with_reducible rfl)
            try simp only [pqZ]
            refine tkZ (i := 2) (oi := ⟨some 129, _, _, _, _, _⟩) (v := ?_) rfl (by kernel_rfl) (fun _ _ _ h => h) (Or.inl ⟨by rfl, ?_⟩) hHeld ?_
            rotate_left
            · (intro w hSw; clear hSw; go_simp <;> with_reducible rfl)
            try simp only [pqZ]
            refine tkZ (i := 3) (oi := ⟨some 130, _, _, _, _, _⟩) (v := ?_) rfl (by kernel_rfl) (fun _ _ _ h => h) (Or.inl ⟨by rfl, ?_⟩) hHeld ?_
            rotate_left
            · (intro w hSw; clear hSw; go_simp <;> with_reducible rfl)
            try simp only [pqZ]
            refine tkZ (i := 4) (oi := ⟨some 131, _, _, _, _, _⟩) (v := ?_) rfl (by kernel_rfl) (fun _ _ _ h => h) (Or.inl ⟨by rfl, ?_⟩) hHeld ?_
            rotate_left
            · (intro w hSw; clear hSw; go_simp <;> with_reducible rfl)
            try simp only [pqZ]
            refine tkZ (i := 5) (oi := ⟨some 132, _, _, _, _, _⟩) (v := ?_) rfl (by kernel_rfl) (fun _ _ _ h => h) (Or.inl ⟨by rfl, ?_⟩) hHeld ?_
            rotate_left
            · (intro w hSw; obtain ⟨q5, q6, qs⟩ := (hSw); go_simp <;> with_reducible rfl)
            try simp only [pqZ]
            refine wpAnyH_ready (rs := [1]) (by kernel_rfl) (by simp) ?_
            refine AllReadyH.cons (o := ⟨some 128, _, _, _, _, _⟩) rfl (fun K hK => ?_) AllReadyH.nil
            go_simp
            refine HRC.out.mono ?_
            rintro e z1 ⟨⟨A5, c5, S5, rfl, own5, map5, or5⟩, hb5⟩
            have HZ1 := Lib.hid (since_step (Below.refl _ _).drew hb5)
            have HU1 := Lib.hid (HTD.out.below hb5)
            have HMP : Hid (S5.map RowS.l = x.L) := Lib.hid map5
            have HS5 : Hid (S5.length ≤ 1000000 ∧ ∀ r ∈ S5, r.l.length ≤ 1000000) := Lib.hid ⟨by rw [← List.length_map (f := RowS.l), HMP.out]; have := HPt.out.n; omega, fun r hr => by have := HPt.out.lens r.l (by rw [← HMP.out]; exact List.mem_map.2 ⟨r, hr, rfl⟩); omega⟩
            have hSM := rsame8_any A5 YA c5 yc S5 YR z1 HS5.out.1 HYL.out.1 (Sl.of_own own5) (HYSL.out.1.below HZ1.out) (fun r hr => ⟨Sl.of_own (or5 r hr), HS5.out.2 r hr⟩) (fun r hr => ⟨(HYSL.out.2 r hr).below HZ1.out, HYL.out.2 r hr⟩)
            rw [HMP.out, HYM.out, decide_eq_true rfl] at hSM
            have HSM := Lib.hid hSM
            have hKeep : (fun Z => Z.cell? ⟨s2, 5, none⟩ = some (.slice YA YR.length yc) ∧ Z.cell? ⟨s2, 6, none⟩ = some (.int .i64 u) ∧ s2 < Z.heap.size) z1 := ⟨(HZ1.out.cell (p := ⟨s2, 5, none⟩) HYS.out).trans HY5.out, (HZ1.out.cell (p := ⟨s2, 6, none⟩) HYS.out).trans HY6.out, Nat.lt_of_lt_of_le HYS.out HZ1.out.size⟩
            clear own5 map5 or5 hb5 hSM HRC
            go_wp2_with fail
            refine hK.out _ _ (by (try dsimp only); exact hKeep) (fun hHeld => ?_)
            clear hK K hKeep
            try simp only [pqZ]
            refine wpAnyH_ready (rs := [6]) (by kernel_rfl) (by simp) ?_
            refine AllReadyH.cons (o := ⟨some 133, _, _, _, _, _⟩) rfl (fun K hK => ?_) AllReadyH.nil
            go_simp
            refine HSM.out.mono ?_
            rintro e z2 ⟨rfl, hb6⟩
            have HZ2 := Lib.hid (since_step HZ1.out hb6)
            have HU2 := Lib.hid (HU1.out.below hb6)
            have HUS := Lib.hid HU2.out.pused
            rw [HU.out] at HUS
            have hKeep : (fun Z => Z.cell? ⟨s2, 5, none⟩ = some (.slice YA YR.length yc) ∧ Z.cell? ⟨s2, 6, none⟩ = some (.int .i64 u) ∧ s2 < Z.heap.size) z2 := ⟨(HZ2.out.cell (p := ⟨s2, 5, none⟩) HYS.out).trans HY5.out, (HZ2.out.cell (p := ⟨s2, 6, none⟩) HYS.out).trans HY6.out, Nat.lt_of_lt_of_le HYS.out HZ2.out.size⟩
            clear hb6 HSM
            go_wp2_with fail
            refine hK.out _ _ (by (try dsimp only); exact hKeep) (fun hHeld => ?_)
            clear hK K hKeep
            try simp only [pqZ]
            refine tkZ (i := 7) (oi := ⟨some 134, _, _, _, _, _⟩) (v := ?_) rfl (by kernel_rfl) (fun _ _ _ h => h) (Or.inl ⟨by rfl, ?_⟩) hHeld ?_
            rotate_left
            · (intro w hSw; clear hSw; go_simp <;> with_reducible rfl)
            try simp only [pqZ]
            refine tkZ (i := 8) (oi := ⟨some 135, _, _, _, _, _⟩) (v := ?_) rfl (by kernel_rfl) (fun _ _ _ h => h) (Or.inl ⟨by rfl, ?_⟩) hHeld ?_
            rotate_left
            · (intro w hSw; clear hSw; go_simp <;> with_reducible rfl)
            try simp only [pqZ]
            refine tkZ (i := 9) (oi := ⟨some 136, _, _, _, _, _⟩) (v := ?_) rfl (by kernel_rfl) (fun _ _ _ h => h) (Or.inl ⟨by rfl, ?_⟩) hHeld ?_
            rotate_left
            · (intro w hSw; clear hSw; go_simp <;> with_reducible rfl)
            try simp only [pqZ]
            refine tkZ (i := 11) (oi := ⟨some 138, _, _, _, _, _⟩) (v := ?_) rfl (by kernel_rfl) (fun _ _ _ h => h) (Or.inl ⟨by rfl, ?_⟩) hHeld ?_
            rotate_left
            · (intro w hSw; clear hSw; go_simp <;> with_reducible rfl)
            try simp only [pqZ]
            refine tkZ (i := 12) (oi := ⟨some 139, _, _, _, _, _⟩) (v := ?_) rfl (by kernel_rfl) (fun _ _ _ h => h) (Or.inl ⟨by rfl, ?_⟩) hHeld ?_
            rotate_left
            · (intro w hSw; clear hSw; go_simp <;> with_reducible rfl)
            try simp only [pqZ]
            refine tkZ (i := 13) (oi := ⟨some 140, _, _, _, _, _⟩) (v := ?_) rfl (by kernel_rfl) (fun _ _ _ h => h) (Or.inl ⟨by rfl, ?_⟩) hHeld ?_
            rotate_left
            · (intro w hSw; clear hSw; go_simp <;> with_reducible rfl)
            try simp only [pqZ]
            refine tkZ (i := 14) (oi := ⟨some 141, _, _, _, _, _⟩) (v := ?_) rfl (by kernel_rfl) (fun _ _ _ h => h) (Or.inl ⟨by rfl, ?_⟩) hHeld ?_
            rotate_left
            · (intro w hSw; obtain ⟨q5, q6, qs⟩ := (hSw); go_simp <;> with_reducible rfl)
            try simp only [pqZ]
            refine wpAnyH_ready (rs := [10]) (by kernel_rfl) (by simp) ?_
            refine AllReadyH.cons (o := ⟨some 137, _, _, _, _, _⟩) rfl (fun K hK => ?_) AllReadyH.nil
            go_simp
            refine HUS.out.mono ?_
            rintro e z3 ⟨rfl, hb7⟩
            have HZ3 := Lib.hid (since_step HZ2.out hb7)
            have HU3 := Lib.hid (HU2.out.below hb7)
            have hKeep : (fun Z => Z.cell? ⟨s2, 5, none⟩ = some (.slice YA YR.length yc) ∧ Z.cell? ⟨s2, 6, none⟩ = some (.int .i64 u) ∧ s2 < Z.heap.size) z3 := ⟨(HZ3.out.cell (p := ⟨s2, 5, none⟩) HYS.out).trans HY5.out, (HZ3.out.cell (p := ⟨s2, 6, none⟩) HYS.out).trans HY6.out, Nat.lt_of_lt_of_le HYS.out HZ3.out.size⟩
            clear hb7 HUS
            go_wp2_with fail
            refine hK.out _ _ (by (try dsimp only); exact hKeep) (fun hHeld => ?_)
            clear hK K hKeep
            try simp only [pqZ]
            refine tkZ (i := 15) (oi := ⟨some 142, _, _, _, _, _⟩) (v := ?_) rfl (by kernel_rfl) (fun _ _ _ h => h) (Or.inl ⟨by rfl, ?_⟩) hHeld ?_
            rotate_left
            · (intro w hSw; clear hSw; go_simp <;> with_reducible rfl)
            try simp only [pqZ]
            refine tkZ (i := 16) (oi := ⟨some 143, _, _, _, _, _⟩) (v := ?_) rfl (by kernel_rfl) (fun _ _ _ h => h) (Or.inl ⟨by rfl, ?_⟩) hHeld ?_
            rotate_left
            · (intro w hSw; clear hSw; go_simp <;> with_reducible rfl)
            try simp only [pqZ]
            refine wpAnyH_done (by kernel_rfl) ?_ _
            have HB9 := Lib.hid (HBt.out.trans (HZ3.out.mono HBt.out.size))
            go_wp2_with fail
            go_roundw
            case rel => exact ⟨k + 1, d1, x, X1, s, s2, M, by omega, by omega, rfl, rfl, rfl, by go_num, HMt, HU3, HPt, HB9.out⟩
            case measure => simp [intOf]; omega
          · by_cases hkind2 : kind = 2
            · have hk0 : (kind == 0) = false := by simpa using hkind
              have hk1 : (kind == 1) = false := by simpa using hkind1
              have hk2 : (kind == 2) = true := by simpa using hkind2
              clear hkind hkind1 hkind2
              have HST := Lib.hid (HT0.out.start HB0.out.size)
              have hsp := HP.out.start
              have hM2 := HM.out
              clear HP HM
              generalize d.fresh = d1 at *
              have hCC : X.C = ({ X with off := false, fuse := -1 } : Rv).C := rfl
              obtain ⟨X1, hX1⟩ : ∃ X1 : Rv, { X with off := false, fuse := -1 } = X1 := ⟨_, rfl⟩
              have hXC : X1.C = d1.S := by rw [← hX1]; exact hsp.C
              rw [hX1] at hsp
              have hl1 : d1.S.length = 14 := hsp.len
              obtain ⟨nw, hnw⟩ : ∃ nw, newestN d1.S 0 14 = nw := ⟨_, rfl⟩
              have hnb := newestN_bd d1.S 0 14
              have hnM := hsp.newest 0 14
              rw [hnw] at hnb hnM
              obtain ⟨cl, hcl, hcb⟩ : ∃ cl : Int, clampI n 1 3 = cl ∧ 1 ≤ cl ∧ cl ≤ 3 := ⟨_, rfl, by unfold clampI; split <;> (try split) <;> omega⟩
              obtain ⟨li, hli⟩ : ∃ li : Int, nw + cl = li := ⟨_, rfl⟩
              have hwl : IntKind.i64.wrap (nw + cl) = li := by rw [IntKind.wrap_i64]; omega
              have HLI : Hid (1 ≤ li ∧ li ≤ 16777215 ∧ newestN d1.S 0 14 < li ∧ li ≤ M + 3) := Lib.hid ⟨by omega, by omega, by rw [hnw]; omega, by omega⟩
              have hsp2 := hsp.open (f := f) (by have := HF3.out; omega) (life := li) (era := er) (M2 := M + 3) HLI.out.1 HLI.out.2.2.2 (by omega)
              obtain ⟨y1, hy1⟩ : ∃ y : Sc, ⟨f, 14, li, er, (scan d1.S 14 er f 0 0).1, (scan d1.S 14 er f 0 0).2 - f, false⟩ = y := ⟨_, rfl⟩
              rw [hy1] at hsp2
              have HPt : Hid (SP d1 y1 X1 (M + 3) (2 * (k + 1))) := Lib.hid (hsp2.mono (Int.le_refl _))
              have HMt : Hid (M + 3 ≤ 3 * ((k + 1 : Nat) : Int) + 1) := Lib.hid (by omega)
              have HY1 := Lib.hid hy1
              have HXC := Lib.hid hXC
              have HL1 := Lib.hid hl1
              have HCL := Lib.hid hcl
              have HX1 := Lib.hid hX1
              have HNB := Lib.hid hnw
              have hR := fun V s6 (h : Two w.heap.size V b g s6 b2 s2 d1 y1 X1 x) (hV : Below w.heap.size w V) => h.ropen (f := f) (t := 14) (life := li) (era := er) hV.size (by have := HF3.out; omega) (by rw [HXC.out, HL1.out]; decide) HLI.out.1 HLI.out.2.1 HER.out.1 (by have := HER.out; omega) (by rw [HXC.out]; have := newest_sub8 HL1.out f (14 - f); have := HLI.out.2.2.1; omega)
              rw [HXC.out, HY1.out] at hR
              have HR := Lib.hid hR
              clear hsp hsp2 hM2 hCC hX1 hXC hl1 hnw hnb hnM hcl hcb hli hy1 hR
              go_wp2_with fail
              refine HST.out.mono ?_
              rintro e x3 ⟨rfl, ht3, hb3, hk3⟩
              have HB3 := Lib.hid (HB0.out.trans hb3)
              obtain ⟨p1, p2, pf1, pf2, ps, _⟩ := ht3.rb
              have ht4 := ht3.turn HB3.out.size
              rw [HX1.out] at ht4
              have HT34 := Lib.hid ht4
              have HK3 := Lib.hid hk3
              clear ht3 hb3 hk3 ht4 HST HT0 HB0 q0 q1 q3 hqs
              go_wp2_with fail
              generalize (x3.setCell ⟨b2, 1, none⟩ (.bool false)).setCell ⟨b2, 2, none⟩ (.int .i64 (-1)) = x4 at *
              have HT4 := Lib.hid HT34.out.1
              have HB4 := Lib.hid (HB3.out.trans HT34.out.2.1)
              have HK4 := Lib.hid (HK3.out.trans HT34.out.2.2)
              have hz := (HK4.out _ _ _ _ HQ.out (by decide) (by decide) (by decide) (by decide) (by decide) (by decide)).trans HQ.out
              have hz1 : x4.drew.cell? ⟨q, 1, none⟩ = some (.int .i64 n) := (box_cells' hz 1).1
              have hzs : q < x4.drew.heap.size := (box_cells' hz 0).2.2
              clear hz p1 p2 pf1 pf2 ps HT34 HB3 HK3
              have hN : Two w.heap.size x4.drew b g s b2 s2 d1 x X1 x := HT4.out.below (Below.refl _ _).drew
              have hN2 := hN.rnew (f := 0) (t := 14) (by decide) (by rw [HXC.out, HL1.out]; decide)
              rw [HXC.out, show (14 - 0 : Nat) = 14 from rfl, HNB.out] at hN2
              have HNW := Lib.hid hN2
              clear hN hN2
              refine wp_region_held_drew (S := (fun Z => Z.cell? ⟨q, 1, none⟩ = some (.int .i64 n) ∧ q < Z.heap.size)) (by kernel_rfl) (by exact ⟨hz1, hzs⟩) (fun hHeld => ?_)
              refine tkZ (i := 0) (oi := ⟨some 103, _, _, _, _, _⟩) (v := ?_) rfl (by kernel_rfl) (fun _ _ _ h => h) (Or.inl ⟨by rfl, ?_⟩) hHeld ?_
              rotate_left
              · (intro w hSw; clear hSw; go_simp <;> with_reducible rfl)
              try simp only [pqZ]
              refine tkZ (i := 2) (oi := ⟨some 105, _, _, _, _, _⟩) (v := ?_) rfl (by kernel_rfl) (fun _ _ _ h => h) (Or.inl ⟨by rfl, ?_⟩) hHeld ?_
              rotate_left
              · (intro w hSw; clear hSw; go_simp <;> with_reducible rfl)
              try simp only [pqZ]
              refine tkZ (i := 3) (oi := ⟨some 106, _, _, _, _, _⟩) (v := ?_) rfl (by kernel_rfl) (fun _ _ _ h => h) (Or.inl ⟨by rfl, ?_⟩) hHeld ?_
              rotate_left
              · (intro w hSw; obtain ⟨j1, js⟩ := (hSw); go_simp <;> with_reducible rfl)
              try simp only [pqZ]
              refine wpAnyH_ready (rs := [1]) (by kernel_rfl) (by simp) ?_
              refine AllReadyH.cons (o := ⟨some 104, _, _, _, _, _⟩) rfl (fun K hK => ?_) AllReadyH.nil
              go_simp
              refine HNW.out.mono ?_
              rintro e x5 ⟨rfl, hb5⟩
              have HB5 := Lib.hid (since_step HB4.out (since_step (Below.refl _ _).drew hb5))
              have HT5 := Lib.hid (HT4.out.below (since_step (Below.refl _ _).drew hb5))
              have HK5 := Lib.hid (HK4.out.trans (Kp.of_below (since_step (Below.refl _ _).drew hb5)))
              have hqx5 := (HK5.out _ _ _ _ HQ.out (by decide) (by decide) (by decide) (by decide) (by decide) (by decide)).trans HQ.out
              have hKeep : (fun Z => Z.cell? ⟨q, 1, none⟩ = some (.int .i64 n) ∧ q < Z.heap.size) x5 := ⟨(box_cells' hqx5 1).1, (box_cells' hqx5 0).2.2⟩
              clear hqx5
              clear hb5 HNW
              go_wp2_with fail
              refine hK.out _ _ (by (try dsimp only); exact hKeep) (fun hHeld => ?_)
              clear hK K hKeep
              try simp only [pqZ]
              refine wpAnyH_ready (rs := [4]) (by kernel_rfl) (by simp) ?_
              refine AllReadyH.cons (o := ⟨some 107, _, _, _, _, _⟩) rfl (fun K hK => ?_) AllReadyH.nil
              go_simp
              refine (in_any n 1 3 x5).mono ?_
              rintro e x6 ⟨rfl, rfl⟩
              rw [HCL.out]
              have hqx5 := (HK5.out _ _ _ _ HQ.out (by decide) (by decide) (by decide) (by decide) (by decide) (by decide)).trans HQ.out
              have hKeep : (fun Z => Z.cell? ⟨q, 1, none⟩ = some (.int .i64 n) ∧ q < Z.heap.size) x5 := ⟨(box_cells' hqx5 1).1, (box_cells' hqx5 0).2.2⟩
              clear hqx5
              go_wp2_with fail
              refine hK.out _ _ (by (try dsimp only); exact hKeep) (fun hHeld => ?_)
              clear hK K hKeep
              try simp only [pqZ]
              refine tkZ (i := 5) (oi := ⟨some 108, _, _, _, _, _⟩) (v := ?_) rfl (by kernel_rfl) (fun _ _ _ h => h) (Or.inl ⟨by rfl, ?_⟩) hHeld ?_
              rotate_left
              · (intro w hSw; clear hSw; go_simp <;> with_reducible rfl)
              try simp only [pqZ]
              refine tkZ (i := 6) (oi := ⟨some 17, _, _, _, _, _⟩) (v := ?_) rfl (by kernel_rfl) (fun _ _ _ h => h) (Or.inl ⟨by rfl, ?_⟩) hHeld ?_
              rotate_left
              · (intro w hSw; clear hSw; go_simp <;> with_reducible rfl)
              try simp only [pqZ]
              refine wpAnyH_done (by kernel_rfl) ?_ _
              have hO := HT5.out.popen (f := f) (t := 14) (life := li) (era := er) HB5.out.size (by have := HF3.out; omega) (by rw [HL1.out]; decide) HLI.out.1 HLI.out.2.1 HER.out.1 (by have := HER.out; omega) (by have := newest_sub8 HL1.out f (14 - f); have := HLI.out.2.2.1; omega)
              rw [HY1.out] at hO
              have HO5 := Lib.hid hO
              clear hO
              go_wp2_with fail
              refine HO5.out.mono ?_
              rintro e x6 ⟨s6, rfl, ht6, hb6, _⟩
              have HB6 := Lib.hid (HB5.out.trans hb6)
              have HR6 := Lib.hid (HR.out x6 s6 ht6 HB6.out)
              clear ht6 hb6 HO5 HR HB5 HT5 HK5 HT4 HB4 HK4
              go_wp2_with fail
              refine HR6.out.mono ?_
              rintro e x7 ⟨s7, rfl, ht7, hb7, _⟩
              have HBt := Lib.hid (HB6.out.trans hb7)
              have HTt := Lib.hid ht7
              clear ht7 hb7 HR6 HB6
              go_wp2_with fail
              obtain ⟨YA, yc, YR, hy5, hy6, hys, hym, hysl, hyr⟩ := HTt.out.ry
              obtain ⟨u, hu⟩ : ∃ u, y1.used = u := ⟨_, rfl⟩
              rw [hu] at hy6
              have HU := Lib.hid hu
              have HY5 : Hid (x7.drew.cell? ⟨s7, 5, none⟩ = some (.slice YA YR.length yc)) := Lib.hid hy5
              have HY6 : Hid (x7.drew.cell? ⟨s7, 6, none⟩ = some (.int .i64 u)) := Lib.hid hy6
              have HYS : Hid (s7 < x7.drew.heap.size) := Lib.hid hys
              have HYM := Lib.hid hym
              have HYSL := Lib.hid (⟨hysl, hyr⟩ : Sl x7 YA (rc RowS.cells YR) ∧ ∀ r ∈ YR, Sl x7 r.A (by8 r.l))
              have HYL : Hid (YR.length ≤ 1000000 ∧ ∀ r ∈ YR, r.l.length ≤ 1000000) := Lib.hid ⟨by rw [← List.length_map (f := RowS.l), HYM.out]; have := HPt.out.n; omega, fun r hr => by have := HPt.out.lens r.l (by rw [← HYM.out]; exact List.mem_map.2 ⟨r, hr, rfl⟩); omega⟩
              have HTD : Hid (Two w.heap.size x7.drew b g s6 b2 s7 d1 y1 X1 y1) := Lib.hid (HTt.out.below (Below.refl _ _).drew)
              have HRC := Lib.hid (HTD.out.precs HPt.out.lens)
              clear hu hy5 hy6 hys hym hysl hyr HTt
              refine wp_region_held_drew (S := (fun Z => Z.cell? ⟨s7, 5, none⟩ = some (.slice YA YR.length yc) ∧ Z.cell? ⟨s7, 6, none⟩ = some (.int .i64 u) ∧ s7 < Z.heap.size)) (by kernel_rfl) (by exact ⟨HY5.out, HY6.out, HYS.out⟩) (fun hHeld => ?_)
              refine tkZ (i := 0) (oi := ⟨some 127, _, _, _, _, _⟩) (v := ?_) rfl (by kernel_rfl) (fun _ _ _ h => h) (Or.inl ⟨by rfl, ?_⟩) hHeld ?_
              rotate_left
              · (intro w hSw; clear hSw; go_simp <;> with_reducible rfl)
              try simp only [pqZ]
              refine tkZ (i := 2) (oi := ⟨some 129, _, _, _, _, _⟩) (v := ?_) rfl (by kernel_rfl) (fun _ _ _ h => h) (Or.inl ⟨by rfl, ?_⟩) hHeld ?_
              rotate_left
              · (intro w hSw; clear hSw; go_simp <;> with_reducible rfl)
              try simp only [pqZ]
              refine tkZ (i := 3) (oi := ⟨some 130, _, _, _, _, _⟩) (v := ?_) rfl (by kernel_rfl) (fun _ _ _ h => h) (Or.inl ⟨by rfl, ?_⟩) hHeld ?_
              rotate_left
              · (intro w hSw; clear hSw; go_simp <;> with_reducible rfl)
              try simp only [pqZ]
              refine tkZ (i := 4) (oi := ⟨some 131, _, _, _, _, _⟩) (v := ?_) rfl (by kernel_rfl) (fun _ _ _ h => h) (Or.inl ⟨by rfl, ?_⟩) hHeld ?_
              rotate_left
              · (intro w hSw; clear hSw; go_simp <;> with_reducible rfl)
              try simp only [pqZ]
              refine tkZ (i := 5) (oi := ⟨some 132, _, _, _, _, _⟩) (v := ?_) rfl (by kernel_rfl) (fun _ _ _ h => h) (Or.inl ⟨by rfl, ?_⟩) hHeld ?_
              rotate_left
              · (intro w hSw; obtain ⟨q5, q6, qs⟩ := (hSw); go_simp <;> with_reducible rfl)
              try simp only [pqZ]
              refine wpAnyH_ready (rs := [1]) (by kernel_rfl) (by simp) ?_
              refine AllReadyH.cons (o := ⟨some 128, _, _, _, _, _⟩) rfl (fun K hK => ?_) AllReadyH.nil
              go_simp
              refine HRC.out.mono ?_
              rintro e z1 ⟨⟨A5, c5, S5, rfl, own5, map5, or5⟩, hb5⟩
              have HZ1 := Lib.hid (since_step (Below.refl _ _).drew hb5)
              have HU1 := Lib.hid (HTD.out.below hb5)
              have HMP : Hid (S5.map RowS.l = y1.L) := Lib.hid map5
              have HS5 : Hid (S5.length ≤ 1000000 ∧ ∀ r ∈ S5, r.l.length ≤ 1000000) := Lib.hid ⟨by rw [← List.length_map (f := RowS.l), HMP.out]; have := HPt.out.n; omega, fun r hr => by have := HPt.out.lens r.l (by rw [← HMP.out]; exact List.mem_map.2 ⟨r, hr, rfl⟩); omega⟩
              have hSM := rsame8_any A5 YA c5 yc S5 YR z1 HS5.out.1 HYL.out.1 (Sl.of_own own5) (HYSL.out.1.below HZ1.out) (fun r hr => ⟨Sl.of_own (or5 r hr), HS5.out.2 r hr⟩) (fun r hr => ⟨(HYSL.out.2 r hr).below HZ1.out, HYL.out.2 r hr⟩)
              rw [HMP.out, HYM.out, decide_eq_true rfl] at hSM
              have HSM := Lib.hid hSM
              have hKeep : (fun Z => Z.cell? ⟨s7, 5, none⟩ = some (.slice YA YR.length yc) ∧ Z.cell? ⟨s7, 6, none⟩ = some (.int .i64 u) ∧ s7 < Z.heap.size) z1 := ⟨(HZ1.out.cell (p := ⟨s7, 5, none⟩) HYS.out).trans HY5.out, (HZ1.out.cell (p := ⟨s7, 6, none⟩) HYS.out).trans HY6.out, Nat.lt_of_lt_of_le HYS.out HZ1.out.size⟩
              clear own5 map5 or5 hb5 hSM HRC
              go_wp2_with fail
              refine hK.out _ _ (by (try dsimp only); exact hKeep) (fun hHeld => ?_)
              clear hK K hKeep
              try simp only [pqZ]
              refine wpAnyH_ready (rs := [6]) (by kernel_rfl) (by simp) ?_
              refine AllReadyH.cons (o := ⟨some 133, _, _, _, _, _⟩) rfl (fun K hK => ?_) AllReadyH.nil
              go_simp
              refine HSM.out.mono ?_
              rintro e z2 ⟨rfl, hb6⟩
              have HZ2 := Lib.hid (since_step HZ1.out hb6)
              have HU2 := Lib.hid (HU1.out.below hb6)
              have HUS := Lib.hid HU2.out.pused
              rw [HU.out] at HUS
              have hKeep : (fun Z => Z.cell? ⟨s7, 5, none⟩ = some (.slice YA YR.length yc) ∧ Z.cell? ⟨s7, 6, none⟩ = some (.int .i64 u) ∧ s7 < Z.heap.size) z2 := ⟨(HZ2.out.cell (p := ⟨s7, 5, none⟩) HYS.out).trans HY5.out, (HZ2.out.cell (p := ⟨s7, 6, none⟩) HYS.out).trans HY6.out, Nat.lt_of_lt_of_le HYS.out HZ2.out.size⟩
              clear hb6 HSM
              go_wp2_with fail
              refine hK.out _ _ (by (try dsimp only); exact hKeep) (fun hHeld => ?_)
              clear hK K hKeep
              try simp only [pqZ]
              refine tkZ (i := 7) (oi := ⟨some 134, _, _, _, _, _⟩) (v := ?_) rfl (by kernel_rfl) (fun _ _ _ h => h) (Or.inl ⟨by rfl, ?_⟩) hHeld ?_
              rotate_left
              · (intro w hSw; clear hSw; go_simp <;> with_reducible rfl)
              try simp only [pqZ]
              refine tkZ (i := 8) (oi := ⟨some 135, _, _, _, _, _⟩) (v := ?_) rfl (by kernel_rfl) (fun _ _ _ h => h) (Or.inl ⟨by rfl, ?_⟩) hHeld ?_
              rotate_left
              · (intro w hSw; clear hSw; go_simp <;> with_reducible rfl)
              try simp only [pqZ]
              refine tkZ (i := 9) (oi := ⟨some 136, _, _, _, _, _⟩) (v := ?_) rfl (by kernel_rfl) (fun _ _ _ h => h) (Or.inl ⟨by rfl, ?_⟩) hHeld ?_
              rotate_left
              · (intro w hSw; clear hSw; go_simp <;> with_reducible rfl)
              try simp only [pqZ]
              refine tkZ (i := 11) (oi := ⟨some 138, _, _, _, _, _⟩) (v := ?_) rfl (by kernel_rfl) (fun _ _ _ h => h) (Or.inl ⟨by rfl, ?_⟩) hHeld ?_
              rotate_left
              · (intro w hSw; clear hSw; go_simp <;> with_reducible rfl)
              try simp only [pqZ]
              refine tkZ (i := 12) (oi := ⟨some 139, _, _, _, _, _⟩) (v := ?_) rfl (by kernel_rfl) (fun _ _ _ h => h) (Or.inl ⟨by rfl, ?_⟩) hHeld ?_
              rotate_left
              · (intro w hSw; clear hSw; go_simp <;> with_reducible rfl)
              try simp only [pqZ]
              refine tkZ (i := 13) (oi := ⟨some 140, _, _, _, _, _⟩) (v := ?_) rfl (by kernel_rfl) (fun _ _ _ h => h) (Or.inl ⟨by rfl, ?_⟩) hHeld ?_
              rotate_left
              · (intro w hSw; clear hSw; go_simp <;> with_reducible rfl)
              try simp only [pqZ]
              refine tkZ (i := 14) (oi := ⟨some 141, _, _, _, _, _⟩) (v := ?_) rfl (by kernel_rfl) (fun _ _ _ h => h) (Or.inl ⟨by rfl, ?_⟩) hHeld ?_
              rotate_left
              · (intro w hSw; obtain ⟨q5, q6, qs⟩ := (hSw); go_simp <;> with_reducible rfl)
              try simp only [pqZ]
              refine wpAnyH_ready (rs := [10]) (by kernel_rfl) (by simp) ?_
              refine AllReadyH.cons (o := ⟨some 137, _, _, _, _, _⟩) rfl (fun K hK => ?_) AllReadyH.nil
              go_simp
              refine HUS.out.mono ?_
              rintro e z3 ⟨rfl, hb7⟩
              have HZ3 := Lib.hid (since_step HZ2.out hb7)
              have HU3 := Lib.hid (HU2.out.below hb7)
              have hKeep : (fun Z => Z.cell? ⟨s7, 5, none⟩ = some (.slice YA YR.length yc) ∧ Z.cell? ⟨s7, 6, none⟩ = some (.int .i64 u) ∧ s7 < Z.heap.size) z3 := ⟨(HZ3.out.cell (p := ⟨s7, 5, none⟩) HYS.out).trans HY5.out, (HZ3.out.cell (p := ⟨s7, 6, none⟩) HYS.out).trans HY6.out, Nat.lt_of_lt_of_le HYS.out HZ3.out.size⟩
              clear hb7 HUS
              go_wp2_with fail
              refine hK.out _ _ (by (try dsimp only); exact hKeep) (fun hHeld => ?_)
              clear hK K hKeep
              try simp only [pqZ]
              refine tkZ (i := 15) (oi := ⟨some 142, _, _, _, _, _⟩) (v := ?_) rfl (by kernel_rfl) (fun _ _ _ h => h) (Or.inl ⟨by rfl, ?_⟩) hHeld ?_
              rotate_left
              · (intro w hSw; clear hSw; go_simp <;> with_reducible rfl)
              try simp only [pqZ]
              refine tkZ (i := 16) (oi := ⟨some 143, _, _, _, _, _⟩) (v := ?_) rfl (by kernel_rfl) (fun _ _ _ h => h) (Or.inl ⟨by rfl, ?_⟩) hHeld ?_
              rotate_left
              · (intro w hSw; clear hSw; go_simp <;> with_reducible rfl)
              try simp only [pqZ]
              refine wpAnyH_done (by kernel_rfl) ?_ _
              have HB9 := Lib.hid (HBt.out.trans (HZ3.out.mono HBt.out.size))
              go_wp2_with fail
              go_roundw
              case rel => exact ⟨k + 1, d1, y1, X1, s6, s7, (M + 3), by omega, by omega, rfl, rfl, rfl, by go_num, HMt, HU3, HPt, HB9.out⟩
              case measure => simp [intOf]; omega
            · have hk0 : (kind == 0) = false := by simpa using hkind
              have hk1 : (kind == 1) = false := by simpa using hkind1
              have hk2 : (kind == 2) = false := by simpa using hkind2
              clear hkind hkind1 hkind2
              have HA := Lib.hid (HT0.out.pnew (f := 0) (t := 14) (by decide) (by rw [HP.out.len]; decide))
              have hR := fun V (h : Two w.heap.size V b g s b2 s2 d x X x) => h.rnew (f := 0) (t := 14) (by decide) (by rw [HP.out.Cl]; decide)
              rw [HP.out.C] at hR
              have HR := Lib.hid hR
              have HPt : Hid (SP d x X M (2 * (k + 1))) := Lib.hid ((HP.out.mono (Int.le_refl _)).mono (Int.le_refl _))
              have HMt : Hid (M ≤ 3 * ((k + 1 : Nat) : Int) + 1) := Lib.hid (by have := HM.out; omega)
              clear hR HP HM
              generalize newestN d.S 0 (14 - 0) = nw at *
              go_wp2_with fail
              refine HA.out.mono ?_
              rintro e x4 ⟨rfl, hb4⟩
              have HB4 := Lib.hid (since_step HB0.out hb4)
              have HT4 := Lib.hid (HT0.out.below hb4)
              have HR4 := Lib.hid (HR.out x4 HT4.out)
              clear hb4 HA HR HT0 HB0
              go_wp2_with fail
              refine HR4.out.mono ?_
              rintro e x5 ⟨rfl, hb5⟩
              have HBt := Lib.hid (since_step HB4.out hb5)
              have HTt := Lib.hid (HT4.out.below hb5)
              clear hb5 HR4 HB4 HT4
              go_wp2_with fail
              obtain ⟨YA, yc, YR, hy5, hy6, hys, hym, hysl, hyr⟩ := HTt.out.ry
              obtain ⟨u, hu⟩ : ∃ u, x.used = u := ⟨_, rfl⟩
              rw [hu] at hy6
              have HU := Lib.hid hu
              have HY5 : Hid (x5.drew.cell? ⟨s2, 5, none⟩ = some (.slice YA YR.length yc)) := Lib.hid hy5
              have HY6 : Hid (x5.drew.cell? ⟨s2, 6, none⟩ = some (.int .i64 u)) := Lib.hid hy6
              have HYS : Hid (s2 < x5.drew.heap.size) := Lib.hid hys
              have HYM := Lib.hid hym
              have HYSL := Lib.hid (⟨hysl, hyr⟩ : Sl x5 YA (rc RowS.cells YR) ∧ ∀ r ∈ YR, Sl x5 r.A (by8 r.l))
              have HYL : Hid (YR.length ≤ 1000000 ∧ ∀ r ∈ YR, r.l.length ≤ 1000000) := Lib.hid ⟨by rw [← List.length_map (f := RowS.l), HYM.out]; have := HPt.out.n; omega, fun r hr => by have := HPt.out.lens r.l (by rw [← HYM.out]; exact List.mem_map.2 ⟨r, hr, rfl⟩); omega⟩
              have HTD : Hid (Two w.heap.size x5.drew b g s b2 s2 d x X x) := Lib.hid (HTt.out.below (Below.refl _ _).drew)
              have HRC := Lib.hid (HTD.out.precs HPt.out.lens)
              clear hu hy5 hy6 hys hym hysl hyr HTt
              refine wp_region_held_drew (S := (fun Z => Z.cell? ⟨s2, 5, none⟩ = some (.slice YA YR.length yc) ∧ Z.cell? ⟨s2, 6, none⟩ = some (.int .i64 u) ∧ s2 < Z.heap.size)) (by kernel_rfl) (by exact ⟨HY5.out, HY6.out, HYS.out⟩) (fun hHeld => ?_)
              refine tkZ (i := 0) (oi := ⟨some 127, _, _, _, _, _⟩) (v := ?_) rfl (by kernel_rfl) (fun _ _ _ h => h) (Or.inl ⟨by rfl, ?_⟩) hHeld ?_
              rotate_left
              · (intro w hSw; clear hSw; go_simp <;> with_reducible rfl)
              try simp only [pqZ]
              refine tkZ (i := 2) (oi := ⟨some 129, _, _, _, _, _⟩) (v := ?_) rfl (by kernel_rfl) (fun _ _ _ h => h) (Or.inl ⟨by rfl, ?_⟩) hHeld ?_
              rotate_left
              · (intro w hSw; clear hSw; go_simp <;> with_reducible rfl)
              try simp only [pqZ]
              refine tkZ (i := 3) (oi := ⟨some 130, _, _, _, _, _⟩) (v := ?_) rfl (by kernel_rfl) (fun _ _ _ h => h) (Or.inl ⟨by rfl, ?_⟩) hHeld ?_
              rotate_left
              · (intro w hSw; clear hSw; go_simp <;> with_reducible rfl)
              try simp only [pqZ]
              refine tkZ (i := 4) (oi := ⟨some 131, _, _, _, _, _⟩) (v := ?_) rfl (by kernel_rfl) (fun _ _ _ h => h) (Or.inl ⟨by rfl, ?_⟩) hHeld ?_
              rotate_left
              · (intro w hSw; clear hSw; go_simp <;> with_reducible rfl)
              try simp only [pqZ]
              refine tkZ (i := 5) (oi := ⟨some 132, _, _, _, _, _⟩) (v := ?_) rfl (by kernel_rfl) (fun _ _ _ h => h) (Or.inl ⟨by rfl, ?_⟩) hHeld ?_
              rotate_left
              · (intro w hSw; obtain ⟨q5, q6, qs⟩ := (hSw); go_simp <;> with_reducible rfl)
              try simp only [pqZ]
              refine wpAnyH_ready (rs := [1]) (by kernel_rfl) (by simp) ?_
              refine AllReadyH.cons (o := ⟨some 128, _, _, _, _, _⟩) rfl (fun K hK => ?_) AllReadyH.nil
              go_simp
              refine HRC.out.mono ?_
              rintro e z1 ⟨⟨A5, c5, S5, rfl, own5, map5, or5⟩, hb5⟩
              have HZ1 := Lib.hid (since_step (Below.refl _ _).drew hb5)
              have HU1 := Lib.hid (HTD.out.below hb5)
              have HMP : Hid (S5.map RowS.l = x.L) := Lib.hid map5
              have HS5 : Hid (S5.length ≤ 1000000 ∧ ∀ r ∈ S5, r.l.length ≤ 1000000) := Lib.hid ⟨by rw [← List.length_map (f := RowS.l), HMP.out]; have := HPt.out.n; omega, fun r hr => by have := HPt.out.lens r.l (by rw [← HMP.out]; exact List.mem_map.2 ⟨r, hr, rfl⟩); omega⟩
              have hSM := rsame8_any A5 YA c5 yc S5 YR z1 HS5.out.1 HYL.out.1 (Sl.of_own own5) (HYSL.out.1.below HZ1.out) (fun r hr => ⟨Sl.of_own (or5 r hr), HS5.out.2 r hr⟩) (fun r hr => ⟨(HYSL.out.2 r hr).below HZ1.out, HYL.out.2 r hr⟩)
              rw [HMP.out, HYM.out, decide_eq_true rfl] at hSM
              have HSM := Lib.hid hSM
              have hKeep : (fun Z => Z.cell? ⟨s2, 5, none⟩ = some (.slice YA YR.length yc) ∧ Z.cell? ⟨s2, 6, none⟩ = some (.int .i64 u) ∧ s2 < Z.heap.size) z1 := ⟨(HZ1.out.cell (p := ⟨s2, 5, none⟩) HYS.out).trans HY5.out, (HZ1.out.cell (p := ⟨s2, 6, none⟩) HYS.out).trans HY6.out, Nat.lt_of_lt_of_le HYS.out HZ1.out.size⟩
              clear own5 map5 or5 hb5 hSM HRC
              go_wp2_with fail
              refine hK.out _ _ (by (try dsimp only); exact hKeep) (fun hHeld => ?_)
              clear hK K hKeep
              try simp only [pqZ]
              refine wpAnyH_ready (rs := [6]) (by kernel_rfl) (by simp) ?_
              refine AllReadyH.cons (o := ⟨some 133, _, _, _, _, _⟩) rfl (fun K hK => ?_) AllReadyH.nil
              go_simp
              refine HSM.out.mono ?_
              rintro e z2 ⟨rfl, hb6⟩
              have HZ2 := Lib.hid (since_step HZ1.out hb6)
              have HU2 := Lib.hid (HU1.out.below hb6)
              have HUS := Lib.hid HU2.out.pused
              rw [HU.out] at HUS
              have hKeep : (fun Z => Z.cell? ⟨s2, 5, none⟩ = some (.slice YA YR.length yc) ∧ Z.cell? ⟨s2, 6, none⟩ = some (.int .i64 u) ∧ s2 < Z.heap.size) z2 := ⟨(HZ2.out.cell (p := ⟨s2, 5, none⟩) HYS.out).trans HY5.out, (HZ2.out.cell (p := ⟨s2, 6, none⟩) HYS.out).trans HY6.out, Nat.lt_of_lt_of_le HYS.out HZ2.out.size⟩
              clear hb6 HSM
              go_wp2_with fail
              refine hK.out _ _ (by (try dsimp only); exact hKeep) (fun hHeld => ?_)
              clear hK K hKeep
              try simp only [pqZ]
              refine tkZ (i := 7) (oi := ⟨some 134, _, _, _, _, _⟩) (v := ?_) rfl (by kernel_rfl) (fun _ _ _ h => h) (Or.inl ⟨by rfl, ?_⟩) hHeld ?_
              rotate_left
              · (intro w hSw; clear hSw; go_simp <;> with_reducible rfl)
              try simp only [pqZ]
              refine tkZ (i := 8) (oi := ⟨some 135, _, _, _, _, _⟩) (v := ?_) rfl (by kernel_rfl) (fun _ _ _ h => h) (Or.inl ⟨by rfl, ?_⟩) hHeld ?_
              rotate_left
              · (intro w hSw; clear hSw; go_simp <;> with_reducible rfl)
              try simp only [pqZ]
              refine tkZ (i := 9) (oi := ⟨some 136, _, _, _, _, _⟩) (v := ?_) rfl (by kernel_rfl) (fun _ _ _ h => h) (Or.inl ⟨by rfl, ?_⟩) hHeld ?_
              rotate_left
              · (intro w hSw; clear hSw; go_simp <;> with_reducible rfl)
              try simp only [pqZ]
              refine tkZ (i := 11) (oi := ⟨some 138, _, _, _, _, _⟩) (v := ?_) rfl (by kernel_rfl) (fun _ _ _ h => h) (Or.inl ⟨by rfl, ?_⟩) hHeld ?_
              rotate_left
              · (intro w hSw; clear hSw; go_simp <;> with_reducible rfl)
              try simp only [pqZ]
              refine tkZ (i := 12) (oi := ⟨some 139, _, _, _, _, _⟩) (v := ?_) rfl (by kernel_rfl) (fun _ _ _ h => h) (Or.inl ⟨by rfl, ?_⟩) hHeld ?_
              rotate_left
              · (intro w hSw; clear hSw; go_simp <;> with_reducible rfl)
              try simp only [pqZ]
              refine tkZ (i := 13) (oi := ⟨some 140, _, _, _, _, _⟩) (v := ?_) rfl (by kernel_rfl) (fun _ _ _ h => h) (Or.inl ⟨by rfl, ?_⟩) hHeld ?_
              rotate_left
              · (intro w hSw; clear hSw; go_simp <;> with_reducible rfl)
              try simp only [pqZ]
              refine tkZ (i := 14) (oi := ⟨some 141, _, _, _, _, _⟩) (v := ?_) rfl (by kernel_rfl) (fun _ _ _ h => h) (Or.inl ⟨by rfl, ?_⟩) hHeld ?_
              rotate_left
              · (intro w hSw; obtain ⟨q5, q6, qs⟩ := (hSw); go_simp <;> with_reducible rfl)
              try simp only [pqZ]
              refine wpAnyH_ready (rs := [10]) (by kernel_rfl) (by simp) ?_
              refine AllReadyH.cons (o := ⟨some 137, _, _, _, _, _⟩) rfl (fun K hK => ?_) AllReadyH.nil
              go_simp
              refine HUS.out.mono ?_
              rintro e z3 ⟨rfl, hb7⟩
              have HZ3 := Lib.hid (since_step HZ2.out hb7)
              have HU3 := Lib.hid (HU2.out.below hb7)
              have hKeep : (fun Z => Z.cell? ⟨s2, 5, none⟩ = some (.slice YA YR.length yc) ∧ Z.cell? ⟨s2, 6, none⟩ = some (.int .i64 u) ∧ s2 < Z.heap.size) z3 := ⟨(HZ3.out.cell (p := ⟨s2, 5, none⟩) HYS.out).trans HY5.out, (HZ3.out.cell (p := ⟨s2, 6, none⟩) HYS.out).trans HY6.out, Nat.lt_of_lt_of_le HYS.out HZ3.out.size⟩
              clear hb7 HUS
              go_wp2_with fail
              refine hK.out _ _ (by (try dsimp only); exact hKeep) (fun hHeld => ?_)
              clear hK K hKeep
              try simp only [pqZ]
              refine tkZ (i := 15) (oi := ⟨some 142, _, _, _, _, _⟩) (v := ?_) rfl (by kernel_rfl) (fun _ _ _ h => h) (Or.inl ⟨by rfl, ?_⟩) hHeld ?_
              rotate_left
              · (intro w hSw; clear hSw; go_simp <;> with_reducible rfl)
              try simp only [pqZ]
              refine tkZ (i := 16) (oi := ⟨some 143, _, _, _, _, _⟩) (v := ?_) rfl (by kernel_rfl) (fun _ _ _ h => h) (Or.inl ⟨by rfl, ?_⟩) hHeld ?_
              rotate_left
              · (intro w hSw; clear hSw; go_simp <;> with_reducible rfl)
              try simp only [pqZ]
              refine wpAnyH_done (by kernel_rfl) ?_ _
              have HB9 := Lib.hid (HBt.out.trans (HZ3.out.mono HBt.out.size))
              go_wp2_with fail
              go_roundw
              case rel => exact ⟨k + 1, d, x, X, s, s2, M, by omega, by omega, rfl, rfl, rfl, by go_num, HMt, HU3, HPt, HB9.out⟩
              case measure => simp [intOf]; omega
      · obtain rfl : k = 40 := by omega
        have hlk1 : (40 : Int) < (L.length : Int) := by omega
        have hlk2 : ¬ (((40 : Nat) : Int) < 40) := by omega
        have hlk3 : ¬ ((40 : Int) < 40) := by omega
        go_wp2_with fail
        refine (HLV.out _).mono ?_
        rintro e v9 ⟨rfl, hb9⟩
        have hB9 := since_step hBW hb9
        go_wp2_with fail
        go_ret
        exact ⟨rfl, hB9⟩
    · obtain rfl : k = L.length := by omega
      have hlk1 : ¬ (L.length : Int) < (L.length : Int) := by omega
      go_wp2_with fail
      refine (HLV.out _).mono ?_
      rintro e v9 ⟨rfl, hb9⟩
      have hB9 := since_step hBW hb9
      go_wp2_with fail
      go_ret
      exact ⟨rfl, hB9⟩
end Go.Proofs.Ytiggcpfmmgmncaa
end
