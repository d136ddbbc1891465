import Derived.Test.YtiggcpfmmgmncaaVp43
set_option maxHeartbeats 16000000
set_option maxRecDepth 100000
set_option linter.unusedVariables false
set_option linter.unusedSimpArgs false
namespace Go.Proofs.Ytiggcpfmmgmncaa
open Go.ChangeShapes Go.WideShapes Go.ChangeAt Go.RowKit
section
theorem walk_VaultPlays (a0 a1 : Int) (a2 : Option Addr) (n2 c2 : Nat) (w : World) (w0 : (Lit.int .i64 a0).wf = true) (w1 : (Lit.int .i64 a1).wf = true) (w2 : Rd w (.sl (.cat (.int .i64) (.cat (.int .i64) (.cat (.sl (.int .u8)) (.cat (.sl (.int .i64)) .nil))))) [.slice a2 n2 c2]) :
    Calls Try.prog 9 #[.int .i64 a0, .int .i64 a1, .slice a2 n2 c2] w fun e w' => e = .returned (.bool true) ∧ Below w.heap.size w w' := by
  obtain ⟨L, rfl, h0c, h0m, h0s, h0p⟩ := rd_rowsP (f := Do8.cells) (p := fun x => x.Ok w) (fun r => rd_do8) w2
  have hbd1 : -9223372036854775808 ≤ a1 ∧ a1 ≤ 9223372036854775807 := by simpa [Lit.wf, IntKind.min, IntKind.max, IntKind.signed, IntKind.bits] using w1
  have HLV := Lib.hid (fun V => lives10_any V)
  have HAT := Lib.hid (fun k (hk : k < L.length) => Sl.elem (m := 4) Do8.len (by decide) h0s hk)
  have HPP := Lib.hid (fun k (hk : k < L.length) => h0p L[k] (List.getElem_mem hk))
  obtain ⟨n, hn, hn1, hn2⟩ : ∃ n : Nat, clampI a0 1 40 = (n : Int) ∧ 1 ≤ n ∧ n ≤ 40 := by
    refine ⟨(clampI a0 1 40).toNat, ?_, ?_, ?_⟩ <;> (unfold clampI; split <;> (try split) <;> omega)
  have HN12 := Lib.hid (show 1 ≤ n ∧ n ≤ 40 from ⟨hn1, hn2⟩)
  have HN := Lib.hid (dnew_any n w hn1 (by omega))
  have HBD := Lib.hid hbd1
  have HI0 := Lib.hid (in_any a0 1 40 w)
  rw [hn] at HI0
  clear w0 w1 w2 h0c h0m h0s h0p hn hn1 hn2 hbd1
  go_enter Try.func9, Try.ntmps9
  go_wp2_with fail
  refine HI0.out.mono ?_
  rintro e v0 ⟨rfl, rfl⟩
  go_wp2_with fail
  refine HN.out.mono ?_
  rintro e v1 ⟨b, g, rfl, ⟨K1, kc1, hd1⟩, hb1⟩
  have HD1 := Lib.hid hd1
  have HB1 := Lib.hid hb1
  have HR := Lib.hid (rnew6_any n v1 (by have := HN12.out; omega))
  clear hd1 hb1 HN HI0
  go_wp2_with fail
  refine HR.out.mono ?_
  rintro e v2 ⟨b2, A2, c2, R2, rfl, hr2, hb2⟩
  have HB2 := Lib.hid (since_step HB1.out hb2)
  have HT2 := Lib.hid (Two0.mk1 HD1.out HB1.out.size hr2 hb2)
  clear hr2 hb2 HR HD1
  by_cases hbad : a1 < 1 ∨ (n : Int) ≤ 2 * a1
  · have HBAD := Lib.hid hbad
    clear hbad
    have hnl : (Dv.new n).S.length = n ∧ (Rv.new n).C.length = n := ⟨by simp [Dv.new], by simp [Rv.new]⟩
    obtain ⟨K, kc, A3, c3, R3, KA, kc2, t1, t3, _⟩ := HT2.out
    have HO1 := Lib.hid (vopen_few a1 v2 t1 HBD.out (by rw [hnl.1]; exact HBAD.out))
    have HO2 := Lib.hid (fun V (hV : Below v2.heap.size v2 V) => ropen10_few a1 V (t3.below hV) (by rw [hnl.2]; exact HBAD.out) HBD.out)
    clear t1 t3 hnl HT2 HB1
    go_wp2_with fail
    refine HO1.out.mono ?_
    rintro e v3 ⟨rfl, hb3⟩
    have HB3 := Lib.hid (since_step HB2.out hb3)
    have HO3 := Lib.hid (HO2.out v3 hb3)
    clear hb3 HO1 HO2 HB2
    go_wp2_with fail
    refine HO3.out.mono ?_
    rintro e v4 ⟨rfl, hb4⟩
    have HB4 := Lib.hid (since_step HB3.out hb4)
    clear hb4 HO3 HB3
    go_wp2_with fail
    go_loopw [10, 11, 12, 13, 14] (fun sv ev yv fv iv wr => sv = .pointer none ∧ ev = .int .i64 2 ∧ yv = .pointer none ∧ fv = .int .i64 2 ∧ iv = .int .i64 0 ∧ Below w.heap.size w wr) (fun _ _ _ _ _ _ => 0)
    case atStart => exact ⟨rfl, rfl, rfl, rfl, rfl, HB4.out⟩
    case round =>
      obtain ⟨rfl, rfl, rfl, rfl, rfl, hBW⟩ := hrel
      by_cases hlt : 0 < L.length
      · have hlk1 : (0 : Int) < (L.length : Int) := by omega
        go_wp2_with fail
        refine (HLV.out _).mono ?_
        rintro e v9 ⟨rfl, hb9⟩
        have hB9 := since_step hBW hb9
        go_wp2_with fail
        go_ret
        exact ⟨rfl, hB9⟩
      · have hlk1 : ¬ (0 : Int) < (L.length : Int) := by omega
        go_wp2_with fail
        refine (HLV.out _).mono ?_
        rintro e v9 ⟨rfl, hb9⟩
        have hB9 := since_step hBW hb9
        go_wp2_with fail
        go_ret
        exact ⟨rfl, hB9⟩
  · obtain ⟨each, rfl, he1, he2⟩ : ∃ each : Nat, a1 = (each : Int) ∧ 1 ≤ each ∧ 2 * each < n := ⟨a1.toNat, by omega, by omega, by omega⟩
    have HE := Lib.hid (show 1 ≤ each ∧ 2 * each < n from ⟨he1, he2⟩)
    clear hbad he1 he2
    obtain ⟨D0, hD0⟩ : ∃ D, Dv.new n = D := ⟨_, rfl⟩
    obtain ⟨X0, hX0⟩ : ∃ X, Rv.new n = X := ⟨_, rfl⟩
    have hsp := VP.new (n := n) (e := each) HN12.out.2 HE.out.1 HE.out.2
    rw [hD0, hX0] at hsp HT2
    have hl0 : D0.S.length = n := by rw [← hD0]; simp [Dv.new]
    have hC0 : X0.C = D0.S := hsp.C
    have hnw : newestN D0.S 0 D0.S.length < 16777214 := by
      rw [← hD0]
      have := newest_le (M := 0) (Int.le_refl 0) (fun i f h => by rw [frD_new] at h; cases h) 0 (Dv.new n).S.length (S := (Dv.new n).S)
      omega
    have HO1 := Lib.hid (HT2.out.popen10 (each := each) HB2.out.size HE.out.1 (by rw [hl0]; exact HE.out.2) hnw)
    have hR := fun V v (h : Two1V w.heap.size V b g v b2 D0 (openV D0.S each) X0) (hV : Below w.heap.size w V) => h.ropen10 (each := each) hV.size HE.out.1 (by rw [hC0, hl0]; exact HE.out.2) (by rw [hC0]; exact hnw)
    rw [hC0] at hR
    obtain ⟨x0, hx0⟩ : ∃ x, openV D0.S each = x := ⟨_, rfl⟩
    rw [hx0] at HO1 hR hsp
    have HR := Lib.hid hR
    have HSP0 := Lib.hid hsp
    clear hsp hl0 hC0 hnw hR hx0 hD0 hX0 HT2 HB1
    go_wp2_with fail
    refine HO1.out.mono ?_
    rintro e v3 ⟨v, rfl, ht3, hb3⟩
    have HB3 := Lib.hid (since_step HB2.out hb3)
    have HR3 := Lib.hid (HR.out v3 v ht3 HB3.out)
    clear ht3 hb3 HO1 HR HB2
    go_wp2_with fail
    refine HR3.out.mono ?_
    rintro e v4 ⟨v', rfl, ht4, hb4⟩
    have HB4 := Lib.hid (since_step HB3.out hb4)
    have HT4 := Lib.hid ht4
    clear ht4 hb4 HR3 HB3
    go_wp2_with fail
    go_loopw [10, 11, 12, 13, 14] (fun sv ev yv fv iv wr => ∃ (k : Nat) (d : Dv) (x : Vv) (X : Rv) (v v2 : Nat), k ≤ L.length ∧ k ≤ 30 ∧ sv = .pointer (some ⟨v, 0, none⟩) ∧ ev = .int .i64 0 ∧ yv = .pointer (some ⟨v2, 0, none⟩) ∧ fv = .int .i64 0 ∧ iv = .int .i64 k ∧ Hid (TwoV w.heap.size wr b g v b2 v2 d x X x) ∧ Hid (VP d x X each k) ∧ Below w.heap.size w wr) (fun _ _ _ _ iv _ => 30 - (intOf iv).toNat)
    case atStart => exact ⟨0, D0, x0, X0, v, v', Nat.zero_le _, Nat.zero_le _, rfl, rfl, rfl, rfl, rfl, HT4, HSP0, HB4.out⟩
    case round =>
      clear HB4 HT4 HSP0
      obtain ⟨k, d, x, X, v, v2, hk, hk40, rfl, rfl, rfl, rfl, rfl, HT, HP, hBW⟩ := hrel
      by_cases hlt : k < L.length
      · by_cases h40 : k < 30
        · have hlk1 : (k : Int) < (L.length : Int) := by omega
          have hlk2 : (k : Int) < 30 := by omega
          have hgk : (0 : Int) ≤ (k : Int) := by omega
          obtain ⟨bb, oo, hA, hbw, hcells⟩ := HAT.out k hlt
          have hOk := HPP.out k hlt
          obtain ⟨xx, hx⟩ : ∃ x, L[k] = x := ⟨_, rfl⟩
          rw [hx] at hcells hOk
          clear hx
          obtain ⟨kind, n, BA, bc, B, KA, kkc, KK⟩ := xx
          obtain ⟨o0, o1, o2, o3, o4, o5, o6, o7⟩ := hOk
          simp only at o0 o1 o2 o3 o4 o5 o6 o7
          have HG : Hid (w.cell? ⟨bb, oo + k * 4, none⟩ = some (.int .i64 kind) ∧ w.cell? ⟨bb, oo + k * 4 + 1, none⟩ = some (.int .i64 n) ∧ w.cell? ⟨bb, oo + k * 4 + 2, none⟩ = some (.slice BA B.length bc) ∧ w.cell? ⟨bb, oo + k * 4 + 3, none⟩ = some (.slice KA KK.length kkc)) := Lib.hid ⟨hcells 0 _ rfl, hcells 1 _ rfl, hcells 2 _ rfl, hcells 3 _ rfl⟩
          obtain ⟨BL, hBL⟩ : ∃ BL, B.take 250 = BL := ⟨_, rfl⟩
          obtain ⟨m, hm⟩ : ∃ m, min B.length 250 = m := ⟨_, rfl⟩
          have HBM : Hid (BL.length = m) := Lib.hid (by rw [← hBL, ← hm, List.length_take, Nat.min_comm])
          have HBF : Hid (BL.length ≤ bc ∧ bc ≤ maxLen ∧ BL.length ≤ 100000 ∧ Oct BL) := Lib.hid ⟨by rw [HBM.out, ← hm]; omega, o2, by rw [HBM.out, ← hm]; omega, by rw [← hBL]; exact o4.take 250⟩
          have HB250 : Hid (BL.length ≤ 250) := Lib.hid (by rw [HBM.out, ← hm]; omega)
          have hslB : Sl w BA (by8 BL) := by rw [← hBL, by8_take]; exact o3.take 250
          have HBS := Lib.hid (fun V (hV : Below w.heap.size w V) => hslB.below hV)
          have HBLT := Lib.hid hslB.lt
          obtain ⟨KL, hKL⟩ : ∃ KL, KK.take 20 = KL := ⟨_, rfl⟩
          have hslK : Sl w KA (rc Nt.cells KL) := by
            have := o7.take (20 * 1)
            rw [rc_take Nt.len, hKL] at this
            exact this
          have HKS := Lib.hid (fun V (hV : Below w.heap.size w V) => hslK.below hV)
          have HKA := Lib.hid hslK.lt
          have HKL : Hid (KL.length ≤ 1000000) := Lib.hid (by rw [← hKL, List.length_take]; omega)
          have HNB := Lib.hid o0
          have HCUT := Lib.hid (fun V => cut_any BA B.length bc 250 V (by unfold maxLen at o2; omega) (by omega) o1 (by unfold maxLen at o2; omega))
          rw [hm] at HCUT
          have HFEW := Lib.hid (fun V => few8_any KA KK.length kkc V (by unfold maxLen at o6; omega) o5 (by unfold maxLen at o6; omega))
          rw [show min KK.length 20 = KL.length by rw [← hKL, List.length_take, Nat.min_comm]] at HFEW
          have hc0 := (hBW.cell (p := ⟨bb, oo + k * 4, none⟩) hbw).trans HG.out.1
          have hc1 := (hBW.cell (p := ⟨bb, oo + k * 4 + 1, none⟩) hbw).trans HG.out.2.1
          have hc2 := (hBW.cell (p := ⟨bb, oo + k * 4 + 2, none⟩) hbw).trans HG.out.2.2.1
          have hc3 := (hBW.cell (p := ⟨bb, oo + k * 4 + 3, none⟩) hbw).trans HG.out.2.2.2
          have hbwr : bb < wr.heap.size := Nat.lt_of_lt_of_le hbw hBW.size
          subst hA
          have HBW := Lib.hid hBW
          have HKB := Lib.hid (show k < L.length ∧ k < 30 from ⟨hlt, h40⟩)
          clear o0 o1 o2 o3 o4 o5 o6 o7 hcells hBL hm hslB hKL hslK hBW hbw HG HAT HPP
          go_wp2_with fail
          have hq : (wr.alloc (.cells #[.int .i64 kind, .int .i64 n, .slice BA B.length bc, .slice KA KK.length kkc] 89)).heap[wr.heap.size]? = some (.cells #[.int .i64 kind, .int .i64 n, .slice BA B.length bc, .slice KA KK.length kkc] 89) := by rw [heap_alloc_new]
          have hb0 : Below wr.heap.size wr (wr.alloc (.cells #[.int .i64 kind, .int .i64 n, .slice BA B.length bc, .slice KA KK.length kkc] 89)) := since_alloc (Below.refl _ _) _
          have HT0 := Lib.hid (HT.out.below hb0)
          have HB0 := Lib.hid (since_alloc HBW.out (.cells #[.int .i64 kind, .int .i64 n, .slice BA B.length bc, .slice KA KK.length kkc] 89))
          clear HT HBW hb0 hc0 hc1 hc2 hc3 hbwr
          generalize wr.alloc (.cells #[.int .i64 kind, .int .i64 n, .slice BA B.length bc, .slice KA KK.length kkc] 89) = W0 at *
          generalize wr.heap.size = q at *
          have q0 : W0.cell? ⟨q, 0, none⟩ = some (.int .i64 kind) := (box_cells' hq 0).1
          have q1 : W0.cell? ⟨q, 1, none⟩ = some (.int .i64 n) := (box_cells' hq 1).1
          have q3 : W0.cell? ⟨q, 3, none⟩ = some (.slice KA KK.length kkc) := (box_cells' hq 3).1
          have hqs : q < W0.heap.size := (box_cells' hq 0).2.2
          have HQ := Lib.hid hq
          clear hq
          refine (HCUT.out _).mono ?_
          rintro e x1 ⟨rfl, rfl⟩
          by_cases hkind : kind = 0
          · have hk0 : (kind == 0) = true := by simpa using hkind
            clear hkind
            obtain ⟨e1, e2, hsp⟩ := HP.out.app (l := BL) HB250.out
            have hA := HT0.out.papp (rA := BA) (rc_ := bc) (l := BL) HB0.out.size HBF.out.1 HBF.out.2.1 HBF.out.2.2.1 (HBS.out _ HB0.out) HBLT.out HBF.out.2.2.2 (by rw [HP.out.t]; exact Nat.le_refl _) (by have := HP.out.n; have := HKB.out; omega)
            have hR := fun V d x' (h : TwoV w.heap.size V b g v b2 v2 d x' X x) (hV : Below w.heap.size w V) => h.rapp (rA := BA) (rc_ := bc) (l := BL) hV.size HBF.out.1 HBF.out.2.1 HBF.out.2.2.1 (HBS.out _ hV) HBLT.out HBF.out.2.2.2 (by rw [HP.out.t, HP.out.C]; exact Nat.le_refl _) HP.out.rel.bd.2 (by have := HP.out.rel.bd; omega) (by have := HP.out.n; have := HKB.out; omega)
            rw [HBM.out] at hA hR
            generalize x.app d BL = PP at *
            generalize x.rapp X BL = QQ at *
            obtain ⟨⟨x1, d1⟩, r1⟩ := PP
            obtain ⟨⟨y1, X1⟩, r2⟩ := QQ
            simp only at e1 e2 hsp hA hR
            subst e1 e2
            have HA := Lib.hid hA
            have HR := Lib.hid hR
            have HPt : Hid (VP d1 y1 X1 each (k + 1)) := Lib.hid hsp
            clear hA hR hsp HP
            go_wp2_with fail
            refine HA.out.mono ?_
            rintro e x4 ⟨rfl, ht4, hb4, _⟩
            have HB4 := Lib.hid (HB0.out.trans hb4)
            have HR4 := Lib.hid (HR.out x4 _ _ ht4 HB4.out)
            clear ht4 hb4 HA HR HT0 HB0
            go_wp2_with fail
            refine HR4.out.mono ?_
            rintro e x5 ⟨rfl, ht5, hb5, _⟩
            have HBt := Lib.hid (HB4.out.trans hb5)
            have HTt := Lib.hid ht5
            clear ht5 hb5 HR4 HB4
            go_wp2_with fail
            have HSM := Lib.hid (same10_any x5 HTt.out HPt.out (by have := HKB.out; omega))
            go_wp2_with fail
            refine HSM.out.mono ?_
            rintro e z1 ⟨rfl, hb9⟩
            have HB9 := Lib.hid (since_step HBt.out hb9)
            have HT9 := Lib.hid (HTt.out.below hb9)
            clear hb9 HSM HTt HBt
            go_wp2_with fail
            go_roundw
            case rel => exact ⟨k + 1, d1, y1, X1, v, v2, by omega, by omega, rfl, rfl, rfl, rfl, by go_num, HT9, HPt, HB9.out⟩
            case measure => simp [intOf]; omega
          · by_cases hkind1 : kind = 1
            · have hk0 : (kind == 0) = false := by simpa using hkind
              have hk1 : (kind == 1) = true := by simpa using hkind1
              clear hkind hkind1
              obtain ⟨⟨e1, e2, hsp⟩, hnew⟩ := HP.out.compact (l := BL) HB250.out
              have hsv : X.off = false → (X.save 0 x.each x.life (x.era + 1) BL).1.C = (d.save 0 x.each x.life (x.era + 1) BL).1.S ∧ (X.save 0 x.each x.life (x.era + 1) BL).2 = (d.save 0 x.each x.life (x.era + 1) BL).2 := fun ho => by
                have h9 := HP.out.rel.save (by
                  have h8 := HP.out.rel.off
                  rw [ho] at h8
                  cases hh : d.on with
                  | true => rfl
                  | false => rw [hh] at h8; cases h8) (p := 0) (each := x.each) (life := x.life) (era := x.era + 1) (l := BL) (by have := HP.out.each; omega)
                exact ⟨h9.2.C, h9.1.symm⟩
              have hnewR : (X.save 0 x.each x.life (x.era + 1) BL).2 = 0 → newestN (X.save 0 x.each x.life (x.era + 1) BL).1.C (2 * x.each) ((X.save 0 x.each x.life (x.era + 1) BL).1.C.length - 2 * x.each) < x.life + 1 := fun h0 => by
                cases ho : X.off with
                | false =>
                  obtain ⟨s1, s2⟩ := hsv ho
                  rw [s1]
                  exact hnew (by rw [← s2]; exact h0)
                | true =>
                  exfalso
                  revert h0
                  unfold Rv.save
                  split
                  · exact (by decide : ¬ (2 : Int) = 0)
                  · split
                    · intro h0; contradiction
                    · split
                      · exact (by decide : ¬ (10 : Int) = 0)
                      · unfold Rv.write
                        rw [if_pos ho]
                        exact (by decide : ¬ (9 : Int) = 0)
              have hA := HT0.out.pcomp (rA := BA) (rc_ := bc) (l := BL) HB0.out.size HBF.out.1 HBF.out.2.1 HBF.out.2.2.1 (HBS.out _ HB0.out) HBLT.out HBF.out.2.2.2 (by rw [HP.out.each.1]; exact HP.out.each.2.1) (by rw [HP.out.each.1]; have := HP.out.each; omega) (by have := HP.out.era; have := HKB.out; omega) hnew
              have hR := fun V d x' (h : TwoV w.heap.size V b g v b2 v2 d x' X x) (hV : Below w.heap.size w V) => h.rcomp (rA := BA) (rc_ := bc) (l := BL) hV.size HBF.out.1 HBF.out.2.1 HBF.out.2.2.1 (HBS.out _ hV) HBLT.out HBF.out.2.2.2 HP.out.rel.bd.2 (by have := HP.out.rel.bd; omega) (by rw [HP.out.each.1]; exact HP.out.each.2.1) (by rw [HP.out.C, HP.out.each.1]; have := HP.out.each; omega) HP.out.era.1 (by have := HP.out.era; have := HKB.out; omega) HP.out.life.1 hnewR
              clear hsv hnew hnewR
              rw [HBM.out] at hA hR
              generalize x.compact d BL = PP at *
              generalize x.rcomp X BL = QQ at *
              obtain ⟨⟨x1, d1⟩, r1⟩ := PP
              obtain ⟨⟨y1, X1⟩, r2⟩ := QQ
              simp only at e1 e2 hsp hA hR
              subst e1 e2
              have HA := Lib.hid hA
              have HR := Lib.hid hR
              have HPt : Hid (VP d1 y1 X1 each (k + 1)) := Lib.hid hsp
              clear hA hR hsp HP
              go_wp2_with fail
              refine HA.out.mono ?_
              rintro e x4 ⟨rfl, ht4, hb4, _⟩
              have HB4 := Lib.hid (HB0.out.trans hb4)
              have HR4 := Lib.hid (HR.out x4 _ _ ht4 HB4.out)
              clear ht4 hb4 HA HR HT0 HB0
              go_wp2_with fail
              refine HR4.out.mono ?_
              rintro e x5 ⟨rfl, ht5, hb5, _⟩
              have HBt := Lib.hid (HB4.out.trans hb5)
              have HTt := Lib.hid ht5
              clear ht5 hb5 HR4 HB4
              go_wp2_with fail
              have HSM := Lib.hid (same10_any x5 HTt.out HPt.out (by have := HKB.out; omega))
              go_wp2_with fail
              refine HSM.out.mono ?_
              rintro e z1 ⟨rfl, hb9⟩
              have HB9 := Lib.hid (since_step HBt.out hb9)
              have HT9 := Lib.hid (HTt.out.below hb9)
              clear hb9 HSM HTt HBt
              go_wp2_with fail
              go_roundw
              case rel => exact ⟨k + 1, d1, y1, X1, v, v2, by omega, by omega, rfl, rfl, rfl, rfl, by go_num, HT9, HPt, HB9.out⟩
              case measure => simp [intOf]; omega
            · by_cases hkind2 : kind = 2
              · have hk0 : (kind == 0) = false := by simpa using hkind
                have hk1 : (kind == 1) = false := by simpa using hkind1
                have hk2 : (kind == 2) = true := by simpa using hkind2
                clear hkind hkind1 hkind2
                obtain ⟨e1, hsp⟩ := HP.out.fuse n KL HNB.out.2
                have HE1 := Lib.hid e1
                have HPt : Hid (VP (d.fuse n KL).1 x (X.fused n KL).1 each (k + 1)) := Lib.hid hsp.up
                clear e1 hsp HP
                go_wp2_with fail
                refine wp_region_held_drew (S := (fun Z => Z.cell? ⟨q, 1, none⟩ = some (.int .i64 n) ∧ Z.cell? ⟨q, 3, none⟩ = some (.slice KA KK.length kkc) ∧ q < Z.heap.size)) (by kernel_rfl) (by exact ⟨q1, q3, hqs⟩) (fun hHeld => ?_)
                refine tkJ 0 99 rfl (by intro w; go_simp <;> with_reducible rfl) hHeld ?_; simp only [pqZ]
                refine tkJ 1 100 rfl (by intro w; go_simp <;> with_reducible rfl) hHeld ?_; simp only [pqZ]
                refine tkI 2 101 rfl (by intro w hSw; obtain ⟨j1, j3, js⟩ := (hSw); go_simp <;> with_reducible rfl) hHeld ?_; simp only [pqZ]
                refine tkJ 3 102 rfl (by intro w; go_simp <;> with_reducible rfl) hHeld ?_; simp only [pqZ]
                refine tkI 4 103 rfl (by intro w hSw; obtain ⟨j1, j3, js⟩ := (hSw); go_simp <;> with_reducible rfl) hHeld ?_; simp only [pqZ]
                refine tkJ 7 106 rfl (by intro w; go_simp <;> with_reducible rfl) hHeld ?_; simp only [pqZ]
                refine tkJ 8 107 rfl (by intro w; go_simp <;> with_reducible rfl) hHeld ?_; simp only [pqZ]
                refine tkI 9 108 rfl (by intro w hSw; obtain ⟨j1, j3, js⟩ := (hSw); go_simp <;> with_reducible rfl) hHeld ?_; simp only [pqZ]
                refine tkJ 10 109 rfl (by intro w; go_simp <;> with_reducible rfl) hHeld ?_; simp only [pqZ]
                refine tkI 11 110 rfl (by intro w hSw; obtain ⟨j1, j3, js⟩ := (hSw); go_simp <;> with_reducible rfl) hHeld ?_; simp only [pqZ]
                refine rdZ 5 104 rfl (by kernel_rfl) (fun K hK => ?_)
                go_simp
                refine (HFEW.out _).mono ?_
                rintro e x3 ⟨rfl, hb3⟩
                have HB3 := Lib.hid (since_step HB0.out (since_step (Below.refl _ _).drew hb3))
                have HT3 := Lib.hid (HT0.out.below (since_step (Below.refl _ _).drew hb3))
                have HK3 := Lib.hid (Kp10.of_below (since_step (Below.refl _ _).drew hb3))
                have HF3 := Lib.hid (HT3.out.pfuse (n := n) (L := KA) (lc := kkc) (l := KL) HB3.out.size HKL.out HNB.out.2 (HKS.out _ HB3.out) HKA.out)
                have hqx3 := (HK3.out _ _ _ _ HQ.out (by decide) (by decide) (by decide) (by decide) (by decide) (by decide) (by decide) (by decide)).trans HQ.out
                have hKeep : (fun Z => Z.cell? ⟨q, 1, none⟩ = some (.int .i64 n) ∧ Z.cell? ⟨q, 3, none⟩ = some (.slice KA KK.length kkc) ∧ q < Z.heap.size) x3 := ⟨(box_cells' hqx3 1).1, (box_cells' hqx3 3).1, (box_cells' hqx3 0).2.2⟩
                clear hqx3
                clear hb3
                go_wp2_with fail
                refine hK.out _ _ (by (try dsimp only); exact hKeep) (fun hHeld => ?_); clear hK K hKeep; try simp only [pqZ]
                refine rdZ 6 105 rfl (by kernel_rfl) (fun K hK => ?_)
                go_simp
                refine HF3.out.mono ?_
                rintro e x4 ⟨rfl, ht4, hb4, hk4⟩
                have HB4 := Lib.hid (HB3.out.trans hb4)
                have HT4 := Lib.hid ht4
                have HK4 := Lib.hid (HK3.out.trans hk4)
                have hqx4 := (HK4.out _ _ _ _ HQ.out (by decide) (by decide) (by decide) (by decide) (by decide) (by decide) (by decide) (by decide)).trans HQ.out
                have hKeep : (fun Z => Z.cell? ⟨q, 1, none⟩ = some (.int .i64 n) ∧ Z.cell? ⟨q, 3, none⟩ = some (.slice KA KK.length kkc) ∧ q < Z.heap.size) x4 := ⟨(box_cells' hqx4 1).1, (box_cells' hqx4 3).1, (box_cells' hqx4 0).2.2⟩
                clear hqx4
                clear hb4 ht4 hk4 HF3
                go_wp2_with fail
                refine hK.out _ _ (by (try dsimp only); exact hKeep) (fun hHeld => ?_); clear hK K hKeep; try simp only [pqZ]
                refine rdZ 12 111 rfl (by kernel_rfl) (fun K hK => ?_)
                go_simp
                refine (HFEW.out _).mono ?_
                rintro e x5 ⟨rfl, hb5⟩
                have HB5 := Lib.hid (since_step HB4.out hb5)
                have HT5 := Lib.hid (HT4.out.below hb5)
                have HK5 := Lib.hid (HK4.out.trans (Kp10.of_below hb5))
                have hF5 := HT5.out.rfuse (n := n) (L := KA) (lc := kkc) (l := KL) HB5.out.size HKL.out (HKS.out _ HB5.out) HKA.out
                rw [← HE1.out] at hF5
                have HF5 := Lib.hid hF5
                have hqx5 := (HK5.out _ _ _ _ HQ.out (by decide) (by decide) (by decide) (by decide) (by decide) (by decide) (by decide) (by decide)).trans HQ.out
                have hKeep : (fun Z => Z.cell? ⟨q, 1, none⟩ = some (.int .i64 n) ∧ Z.cell? ⟨q, 3, none⟩ = some (.slice KA KK.length kkc) ∧ q < Z.heap.size) x5 := ⟨(box_cells' hqx5 1).1, (box_cells' hqx5 3).1, (box_cells' hqx5 0).2.2⟩
                clear hqx5
                clear hb5 hF5
                go_wp2_with fail
                refine hK.out _ _ (by (try dsimp only); exact hKeep) (fun hHeld => ?_); clear hK K hKeep; try simp only [pqZ]
                refine rdZ 13 112 rfl (by kernel_rfl) (fun K hK => ?_)
                go_simp
                refine HF5.out.mono ?_
                rintro e x6 ⟨rfl, ht6, hb6, hk6⟩
                have HBt := Lib.hid (HB5.out.trans hb6)
                have HTt := Lib.hid ht6
                have HK6 := Lib.hid (HK5.out.trans hk6)
                have hqx6 := (HK6.out _ _ _ _ HQ.out (by decide) (by decide) (by decide) (by decide) (by decide) (by decide) (by decide) (by decide)).trans HQ.out
                have hKeep : (fun Z => Z.cell? ⟨q, 1, none⟩ = some (.int .i64 n) ∧ Z.cell? ⟨q, 3, none⟩ = some (.slice KA KK.length kkc) ∧ q < Z.heap.size) x6 := ⟨(box_cells' hqx6 1).1, (box_cells' hqx6 3).1, (box_cells' hqx6 0).2.2⟩
                clear hqx6
                clear hb6 ht6 hk6 HF5
                go_wp2_with fail
                refine hK.out _ _ (by (try dsimp only); exact hKeep) (fun hHeld => ?_); clear hK K hKeep; try simp only [pqZ]
                refine tkJ 14 113 rfl (by intro w; go_simp <;> with_reducible rfl) hHeld ?_; simp only [pqZ]
                refine tkJ 15 17 rfl (by intro w; go_simp <;> with_reducible rfl) hHeld ?_; simp only [pqZ]
                refine wpAnyH_done (by kernel_rfl) ?_ _
                generalize (d.fuse n KL).2 = rr at *
                generalize (d.fuse n KL).1 = d1 at *
                generalize (X.fused n KL).1 = X1 at *
                clear HB3 HB4 HB5 HT3 HT4 HT5 HK3 HK4 HK5 HK6 HT0 HB0
                go_wp2_with fail
                have HSM := Lib.hid (same10_any x6 HTt.out HPt.out (by have := HKB.out; omega))
                go_wp2_with fail
                refine HSM.out.mono ?_
                rintro e z1 ⟨rfl, hb9⟩
                have HB9 := Lib.hid (since_step HBt.out hb9)
                have HT9 := Lib.hid (HTt.out.below hb9)
                clear hb9 HSM HTt HBt
                go_wp2_with fail
                go_roundw
                case rel => exact ⟨k + 1, d1, x, X1, v, v2, by omega, by omega, rfl, rfl, rfl, rfl, by go_num, HT9, HPt, HB9.out⟩
                case measure => simp [intOf]; omega
              · by_cases hkind3 : kind = 3
                · have hk0 : (kind == 0) = false := by simpa using hkind
                  have hk1 : (kind == 1) = false := by simpa using hkind1
                  have hk2 : (kind == 2) = false := by simpa using hkind2
                  have hk3 : (kind == 3) = true := by simpa using hkind3
                  clear hkind hkind1 hkind2 hkind3
                  have HST := Lib.hid (HT0.out.start HB0.out.size)
                  have hsp := HP.out.open
                  have hnb : newestN d.fresh.S 0 d.fresh.S.length < 16777214 := by
                    have h9 := HP.out.newest 0 d.S.length
                    have h8 := HP.out.life.2.1
                    have h7 := HKB.out
                    show newestN d.S 0 d.S.length < _
                    omega
                  have hel : 1 ≤ each ∧ 2 * each < d.fresh.S.length := HP.out.each.2
                  have hCC : ({ X with off := false, fuse := -1 } : Rv).C = d.fresh.S := HP.out.C
                  rw [show openV d.S each = openV d.fresh.S each from rfl] at hsp
                  clear HP
                  generalize d.fresh = d1 at *
                  obtain ⟨X1, hX1⟩ : ∃ X1 : Rv, { X with off := false, fuse := -1 } = X1 := ⟨_, rfl⟩
                  rw [hX1] at hsp hCC
                  have HX1 := Lib.hid hX1
                  have hPO := fun V (h : TwoV w.heap.size V b g v b2 v2 d1 x X1 x) (hV : Below w.heap.size w V) => h.popen (each := each) hV.size hel.1 hel.2 hnb
                  have hRO := fun V v' x' (h : TwoV w.heap.size V b g v' b2 v2 d1 x' X1 x) (hV : Below w.heap.size w V) => h.ropen (each := each) hV.size hel.1 (by rw [hCC]; exact hel.2) (by rw [hCC]; exact hnb)
                  rw [hCC] at hRO
                  have HPt : Hid (VP d1 (openV d1.S each) X1 each (k + 1)) := Lib.hid hsp
                  have HPO := Lib.hid hPO
                  have HRO := Lib.hid hRO
                  clear hsp hnb hel hCC hX1 hPO hRO
                  generalize openV d1.S each = x1 at *
                  go_wp2_with fail
                  refine HST.out.mono ?_
                  rintro e x3 ⟨rfl, ht3, hb3, _⟩
                  have HB3 := Lib.hid (HB0.out.trans hb3)
                  obtain ⟨p1, p2, pf1, pf2, ps, _, _⟩ := ht3.rbox
                  have ht4 := ht3.turn HB3.out.size
                  rw [HX1.out] at ht4
                  have HT34 := Lib.hid ht4
                  clear ht3 hb3 ht4 HST HT0 HB0 q0 q1 q3 hqs
                  go_wp2_with fail
                  generalize (x3.setCell ⟨b2, 1, none⟩ (.bool false)).setCell ⟨b2, 2, none⟩ (.int .i64 (-1)) = x4 at *
                  have HB4 := Lib.hid (HB3.out.trans HT34.out.2.1)
                  have HO4 := Lib.hid (HPO.out x4 HT34.out.1 HB4.out)
                  clear p1 p2 pf1 pf2 ps HT34 HB3 HPO
                  refine HO4.out.mono ?_
                  rintro e x5 ⟨v5, rfl, ht5, hb5, _⟩
                  have HB5 := Lib.hid (HB4.out.trans hb5)
                  have HO5 := Lib.hid (HRO.out x5 v5 x1 ht5 HB5.out)
                  clear ht5 hb5 HO4 HRO HB4
                  go_wp2_with fail
                  refine HO5.out.mono ?_
                  rintro e x6 ⟨v6, rfl, ht6, hb6, _⟩
                  have HBt := Lib.hid (HB5.out.trans hb6)
                  have HTt := Lib.hid ht6
                  clear ht6 hb6 HO5 HB5
                  go_wp2_with fail
                  have HSM := Lib.hid (same10_any x6 HTt.out HPt.out (by have := HKB.out; omega))
                  go_wp2_with fail
                  refine HSM.out.mono ?_
                  rintro e z1 ⟨rfl, hb9⟩
                  have HB9 := Lib.hid (since_step HBt.out hb9)
                  have HT9 := Lib.hid (HTt.out.below hb9)
                  clear hb9 HSM HTt HBt
                  go_wp2_with fail
                  go_roundw
                  case rel => exact ⟨k + 1, d1, x1, X1, v5, v6, by omega, by omega, rfl, rfl, rfl, rfl, by go_num, HT9, HPt, HB9.out⟩
                  case measure => simp [intOf]; omega
                · have hk0 : (kind == 0) = false := by simpa using hkind
                  have hk1 : (kind == 1) = false := by simpa using hkind1
                  have hk2 : (kind == 2) = false := by simpa using hkind2
                  have hk3 : (kind == 3) = false := by simpa using hkind3
                  clear hkind hkind1 hkind2 hkind3
                  have HPt : Hid (VP d x X each (k + 1)) := Lib.hid HP.out.up
                  have hTD : TwoV w.heap.size W0.drew b g v b2 v2 d x X x := HT0.out.below (Below.refl _ _).drew
                  have HBD0 : Hid (Below w.heap.size w W0.drew) := Lib.hid HB0.out.drew
                  have HER := Lib.hid hTD.pera
                  have HYS := Lib.hid (show W0.drew.cell? ⟨v2, 3, none⟩ = some (.int .i64 x.era) ∧ v2 < W0.drew.heap.size from ⟨hTD.rbox.2.2.2.2.2.1, hTD.rbox.2.2.2.2.2.2⟩)
                  have HTD := Lib.hid hTD
                  clear HP hTD HT0 HB0
                  go_wp2_with fail
                  clear q0 q1 q3 hqs
                  refine wp_region_held_drew (S := (fun Z => Z.cell? ⟨v2, 3, none⟩ = some (.int .i64 x.era) ∧ v2 < Z.heap.size)) (by kernel_rfl) (by exact HYS.out) (fun hHeld => ?_)
                  refine tkJ 0 72 rfl (by intro w; go_simp <;> with_reducible rfl) hHeld ?_; simp only [pqZ]
                  refine tkJ 2 74 rfl (by intro w; go_simp <;> with_reducible rfl) hHeld ?_; simp only [pqZ]
                  refine tkJ 3 75 rfl (by intro w; go_simp <;> with_reducible rfl) hHeld ?_; simp only [pqZ]
                  refine tkJ 4 76 rfl (by intro w; go_simp <;> with_reducible rfl) hHeld ?_; simp only [pqZ]
                  refine tkI 5 77 rfl (by intro w hSw; obtain ⟨j3, js⟩ := (hSw); go_simp <;> with_reducible rfl) hHeld ?_; simp only [pqZ]
                  refine rdZ 1 73 rfl (by kernel_rfl) (fun K hK => ?_)
                  go_simp
                  refine HER.out.mono ?_
                  rintro e y1 ⟨rfl, hy1⟩
                  have hKeep : (fun Z => Z.cell? ⟨v2, 3, none⟩ = some (.int .i64 x.era) ∧ v2 < Z.heap.size) y1 := by rw [hy1]; exact HYS.out
                  have HBt : Hid (Below w.heap.size w y1) := Lib.hid (by rw [hy1]; exact HBD0.out)
                  have HTt : Hid (TwoV w.heap.size y1 b g v b2 v2 d x X x) := Lib.hid (by rw [hy1]; exact HTD.out)
                  clear hy1 HER
                  go_wp2_with fail
                  refine hK.out _ _ (by (try dsimp only); exact hKeep) (fun hHeld => ?_); clear hK K hKeep; try simp only [pqZ]
                  refine tkJ 6 78 rfl (by intro w; go_simp <;> with_reducible rfl) hHeld ?_; simp only [pqZ]
                  refine tkJ 7 17 rfl (by intro w; go_simp <;> with_reducible rfl) hHeld ?_; simp only [pqZ]
                  refine wpAnyH_done (by kernel_rfl) ?_ _
                  clear HBD0 HTD HYS
                  go_wp2_with fail
                  have HSM := Lib.hid (same10_any y1 HTt.out HPt.out (by have := HKB.out; omega))
                  go_wp2_with fail
                  refine HSM.out.mono ?_
                  rintro e z1 ⟨rfl, hb9⟩
                  have HB9 := Lib.hid (since_step HBt.out hb9)
                  have HT9 := Lib.hid (HTt.out.below hb9)
                  clear hb9 HSM HTt HBt
                  go_wp2_with fail
                  go_roundw
                  case rel => exact ⟨k + 1, d, x, X, v, v2, by omega, by omega, rfl, rfl, rfl, rfl, by go_num, HT9, HPt, HB9.out⟩
                  case measure => simp [intOf]; omega
        · obtain rfl : k = 30 := by omega
          have hlk1 : (30 : Int) < (L.length : Int) := by omega
          have hlk2 : ¬ (((30 : Nat) : Int) < 30) := by omega
          have hlk3 : ¬ ((30 : Int) < 30) := by omega
          go_wp2_with fail
          refine (HLV.out _).mono ?_
          rintro e v9 ⟨rfl, hb9⟩
          have hB9 := since_step hBW hb9
          go_wp2_with fail
          go_ret
          exact ⟨rfl, hB9⟩
      · obtain rfl : k = L.length := by omega
        have hlk1 : ¬ (L.length : Int) < (L.length : Int) := by omega
        go_wp2_with fail
        refine (HLV.out _).mono ?_
        rintro e v9 ⟨rfl, hb9⟩
        have hB9 := since_step hBW hb9
        go_wp2_with fail
        go_ret
        exact ⟨rfl, hB9⟩
end
end Go.Proofs.Ytiggcpfmmgmncaa
