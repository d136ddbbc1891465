import Derived.Test.YtiggcpfmmgmncaaSt24
section
namespace Go.Proofs.Ytiggcpfmmgmncaa
open Go.ChangeShapes Go.WideShapes Go.ChangeAt Go.RowKit
set_option linter.unusedVariables false
set_option linter.unusedSimpArgs false

theorem few8_any (A : Option Addr) (n cap : Nat) (w : World) (hn : n ≤ 9223372036854775807) (hcap : n ≤ cap) (hcap2 : cap ≤ 9223372036854775807) :
    Calls Try.prog 21 #[.slice A n cap] w fun e w' => e = .returned (.slice A (min n 20) cap) ∧ Below w.heap.size w w' := by
  by_cases h : 20 < n
  · have e : min n 20 = 20 := by omega
    rw [e]
    clear e
    go_enter Try.func21, Try.ntmps21
    go_wp2
    go_ret
    exact ⟨rfl, Below.refl _ _⟩
  · have e : min n 20 = n := by omega
    rw [e]
    clear e
    go_enter Try.func21, Try.ntmps21
    go_wp2
    go_ret
    exact ⟨rfl, Below.refl _ _⟩
structure Do9 where
  kind : Int
  n : Int
  p : Int
  each : Int
  life : Int
  era : Int
  BA : Option Addr
  bc : Nat
  B : List Nat
  KA : Option Addr
  kc : Nat
  K : List Nt
def Do9.cells (x : Do9) : List Value := [.int .i64 x.kind, .int .i64 x.n, .int .i64 x.p, .int .i64 x.each, .int .i64 x.life, .int .i64 x.era, .slice x.BA x.B.length x.bc, .slice x.KA x.K.length x.kc]
theorem Do9.len (x : Do9) : x.cells.length = 8 := rfl
structure Do9.Ok (w : World) (x : Do9) : Prop where
  blc : x.B.length ≤ x.bc
  bcm : x.bc ≤ maxLen
  bs : Sl w x.BA (by8 x.B)
  bo : Oct x.B
  klc : x.K.length ≤ x.kc
  kcm : x.kc ≤ maxLen
  ks : Sl w x.KA (rc Nt.cells x.K)
theorem rd_nts {w : World} {A : Option Addr} {n c : Nat} (h : Rd w (.sl (.int .i64)) [.slice A n c]) : ∃ l : List Nt, l.length = n ∧ n ≤ c ∧ c ≤ maxLen ∧ Sl w A (rc Nt.cells l) := by
  obtain ⟨l, h1, h2, h3, h4, _⟩ := rd_rowsP (f := Nt.cells) (p := fun _ => True) (fun r => rd_nt') h
  exact ⟨l, h1, h2, h3, h4⟩
theorem rd_do9 {w : World} {r : List Value} (h : Rd w (.cat (.int .i64) (.cat (.int .i64) (.cat (.int .i64) (.cat (.int .i64) (.cat (.int .i64) (.cat (.int .i64) (.cat (.sl (.int .u8)) (.cat (.sl (.int .i64)) .nil)))))))) r) : ∃ x : Do9, r = x.cells ∧ x.Ok w := by
  obtain ⟨r1, r2, e, ⟨x1, h1, _⟩, h⟩ := h
  subst e; subst h1
  obtain ⟨r1, r2, e, ⟨x2, h1, _⟩, h⟩ := h
  subst e; subst h1
  obtain ⟨r1, r2, e, ⟨x3, h1, _⟩, h⟩ := h
  subst e; subst h1
  obtain ⟨r1, r2, e, ⟨x4, h1, _⟩, h⟩ := h
  subst e; subst h1
  obtain ⟨r1, r2, e, ⟨x5, h1, _⟩, h⟩ := h
  subst e; subst h1
  obtain ⟨r1, r2, e, ⟨x6, h1, _⟩, h⟩ := h
  subst e; subst h1
  obtain ⟨r1, r2, e, hb, h⟩ := h
  subst e
  obtain ⟨r3, r4, e, hk, h⟩ := h
  subst e
  obtain ⟨A, n, c, e⟩ : ∃ A n c, r1 = [.slice A n c] := by
    obtain ⟨A, n, c, rows, e, _⟩ := hb
    exact ⟨A, n, c, e⟩
  subst e
  obtain ⟨A2, n2, c2, e⟩ : ∃ A n c, r3 = [.slice A n c] := by
    obtain ⟨A, n, c, rows, e, _⟩ := hk
    exact ⟨A, n, c, e⟩
  subst e
  obtain ⟨B, rfl, b1, b2, b3, b4⟩ := rd_octs hb
  obtain ⟨K, rfl, k1, k2, k3⟩ := rd_nts hk
  have h0 : r4 = [] := h
  subst h0
  exact ⟨⟨x1, x2, x3, x4, x5, x6, A, c, B, A2, c2, K⟩, rfl, b1, b2, b3, b4, k1, k2, k3⟩
theorem fuse_neg {d : Dv} (h : d.on = true) : d.fuse (-1) [] = (d.fresh, 0) := by
  unfold Dv.fuse; rw [if_pos h, if_neg (by decide)]
theorem Sl.lt {w : World} {A : Option Addr} {xs : List Value} (h : Sl w A xs) : ∀ k o, A = some ⟨k, o, none⟩ → xs ≠ [] → k < w.heap.size := fun k o hA hne => by
  obtain ⟨b1, o1, e1, hc⟩ := h hne
  rw [hA] at e1
  injection e1 with e1
  injection e1 with e1 _
  subst e1
  cases hx : xs with
  | nil => exact absurd hx hne
  | cons u us => exact World.block_lt_of_cell? _ _ (hc 0 u (by rw [hx]; rfl))
theorem below_dn (w : World) (n : Nat) : Below w.heap.size w (w.drewN n) := below_drewN (Below.refl _ _) n
theorem DrA.dn {B b g kc : Nat} {w : World} {K : Option Addr} {d : Dv} (h : DrA B w b g K kc d) (n : Nat) : DrW B (w.drewN n) b g d := ⟨K, kc, h.below (below_dn w n)⟩
theorem SlF.dn {w : World} {b g : Nat} {A : Option Addr} {xs : List Value} (h : SlF w b g A xs) (n : Nat) : SlF (w.drewN n) b g A xs := h.below (below_dn w n)
def fused9 (d : Dv) (l : List Nt) : Dv := { d with on := true, fused := true, spare := 0, keep := l }
theorem fuse_zero {d : Dv} (l : List Nt) : d.fresh.fuse 0 l = (fused9 d.fresh l, 0) := by
  unfold Dv.fuse; rw [if_pos (show d.fresh.on = true from rfl), if_pos (Int.le_refl 0)]; rfl
set_option maxHeartbeats 16000000 in
set_option maxRecDepth 100000 in
theorem walk_StillKept (a0 : Option Addr) (n0 c0 : Nat) (w : World) (w0 : Rd w (.sl (.cat (.int .i64) (.cat (.int .i64) (.cat (.int .i64) (.cat (.int .i64) (.cat (.int .i64) (.cat (.int .i64) (.cat (.sl (.int .u8)) (.cat (.sl (.int .i64)) .nil))))))))) [.slice a0 n0 c0]) :
    Calls Try.prog 7 #[.slice a0 n0 c0] w fun e w' => e = .returned (.bool true) ∧ Below w.heap.size w w' := by
  obtain ⟨L, rfl, h0c, h0m, h0s, h0p⟩ := rd_rowsP (f := Do9.cells) (p := fun x => x.Ok w) (fun r => rd_do9) w0
  have HLV := Lib.hid (fun V => lives9_any V)
  have HN := Lib.hid (dnew_any 20 w (by decide) (by decide))
  have HAT := Lib.hid (fun k (hk : k < L.length) => Sl.elem (m := 8) Do9.len (by decide) h0s hk)
  have HPP := Lib.hid (fun k (hk : k < L.length) => h0p L[k] (List.getElem_mem hk))
  clear w0 h0c h0m h0s h0p
  go_enter Try.func7, Try.ntmps7
  go_wp2_with fail
  refine HN.out.mono ?_
  rintro e v1 ⟨b, g, rfl, hdw, hb1⟩
  have HGE : Hid (w.heap.size ≤ b ∧ w.heap.size ≤ g) := Lib.hid (by obtain ⟨K, kc, h⟩ := hdw; exact h.ge)
  have HDW1 := Lib.hid hdw
  clear hdw HN
  go_wp2_with fail
  go_loopw [5, 6, 7, 9] (fun ev lv wv iv wr => ∃ (k era life : Nat) (d : Dv) (WA : Option Addr) (wc : Nat) (was : List Nat), k ≤ L.length ∧ k ≤ 30 ∧ ev = .int .i64 era ∧ lv = .int .i64 life ∧ wv = .slice WA was.length wc ∧ iv = .int .i64 k ∧ era ≤ k ∧ life = k + 1 ∧ Hid (DrW w.heap.size wr b g d) ∧ Hid (d.on = true) ∧ Hid (Inv9 d.S era life was) ∧ Hid (SlF wr b g WA (by8 was)) ∧ Hid (was.length ≤ maxLen) ∧ Below w.heap.size w wr) (fun _ _ _ iv _ => 30 - (intOf iv).toNat)
  case atStart => exact ⟨0, 0, 1, Dv.new 20, none, 0, [], Nat.zero_le _, Nat.zero_le _, rfl, rfl, rfl, rfl, Nat.le_refl _, rfl, HDW1, rfl, inv9_new, ⟨Sl.nil, fun h => absurd rfl h⟩, Lib.hid (by decide), hb1⟩
  case round =>
    obtain ⟨k, era, life, d, WA, wc, was, hk, hk30, rfl, rfl, rfl, rfl, hek, hlk, HDW, HON, HI, HWAS, HWL, hBW⟩ := hrel
    by_cases hlt : k < L.length
    · by_cases h30 : k < 30
      · have hlk1 : (k : Int) < (L.length : Int) := by omega
        have hlk2 : (k : Int) < 30 := by omega
        have hgk : (0 : Int) ≤ (k : Int) := by omega
        obtain ⟨bb, oo, hA, hbw, hcells⟩ := HAT.out k hlt
        have hOk := HPP.out k hlt
        obtain ⟨x, hx⟩ : ∃ x, L[k] = x := ⟨_, rfl⟩
        rw [hx] at hcells hOk
        clear hx
        obtain ⟨kind, y2, y3, y4, y5, y6, BA, bc, B, KA, kkc, KK⟩ := x
        obtain ⟨o1, o2, o3, o4, o5, o6, o7⟩ := hOk
        simp only at o1 o2 o3 o4 o5 o6 o7
        have HG : Hid (w.cell? ⟨bb, oo + k * 8, none⟩ = some (.int .i64 kind) ∧ w.cell? ⟨bb, oo + k * 8 + 6, none⟩ = some (.slice BA B.length bc) ∧ w.cell? ⟨bb, oo + k * 8 + 7, none⟩ = some (.slice KA KK.length kkc)) := Lib.hid ⟨hcells 0 _ rfl, hcells 6 _ rfl, hcells 7 _ rfl⟩
        obtain ⟨BL, hBL⟩ : ∃ BL, B.take 700 = BL := ⟨_, rfl⟩
        obtain ⟨m, hm⟩ : ∃ m, min B.length 700 = m := ⟨_, rfl⟩
        have HBM : Hid (BL.length = m) := Lib.hid (by rw [← hBL, ← hm, List.length_take, Nat.min_comm])
        have HBF : Hid (BL.length ≤ bc ∧ bc ≤ maxLen ∧ BL.length ≤ 100000 ∧ Oct BL) := Lib.hid ⟨by rw [HBM.out, ← hm]; omega, o2, by rw [HBM.out, ← hm]; omega, by rw [← hBL]; exact o4.take 700⟩
        have HBF2 : Hid (m ≤ maxLen) := Lib.hid (by unfold maxLen; omega)
        have HBL7 : Hid (BL.length ≤ 700) := Lib.hid (by rw [HBM.out, ← hm]; omega)
        have hslB : Sl w BA (by8 BL) := by rw [← hBL, by8_take]; exact o3.take 700
        have HBS := Lib.hid (fun V (hV : Below w.heap.size w V) => hslB.below hV)
        have HBLT := Lib.hid hslB.lt
        obtain ⟨KL, hKL⟩ : ∃ KL, KK.take 20 = KL := ⟨_, rfl⟩
        have hslK : Sl w KA (rc Nt.cells KL) := by
          have := o7.take (20 * 1)
          rw [rc_take Nt.len, hKL] at this
          exact this
        have HKS := Lib.hid (fun V (hV : Below w.heap.size w V) => hslK.below hV)
        have HKA := Lib.hid hslK.lt
        have HKL : Hid (KL.length ≤ 1000000) := Lib.hid (by rw [← hKL, List.length_take]; omega)
        have HCUT := Lib.hid (fun V => cut_any BA B.length bc 700 V (by unfold maxLen at o2; omega) (by omega) o1 (by unfold maxLen at o2; omega))
        rw [hm] at HCUT
        have HFEW := Lib.hid (fun V => few8_any KA KK.length kkc V (by unfold maxLen at o6; omega) o5 (by unfold maxLen at o6; omega))
        rw [show min KK.length 20 = KL.length by rw [← hKL, List.length_take, Nat.min_comm]] at HFEW
        obtain ⟨e1, he1⟩ : ∃ e1, era + 1 = e1 := ⟨_, rfl⟩
        obtain ⟨l1, hl1⟩ : ∃ l1, life + 1 = l1 := ⟨_, rfl⟩
        obtain ⟨e2, he2⟩ : ∃ e2, e1 + 1 = e2 := ⟨_, rfl⟩
        have hwe1 : IntKind.i64.wrap ((era : Int) + 1) = (e1 : Int) := by rw [IntKind.wrap_i64]; omega
        have hwe2 : IntKind.i64.wrap ((e1 : Int) + 1) = (e2 : Int) := by rw [IntKind.wrap_i64]; omega
        have hwl1 : IntKind.i64.wrap ((life : Int) + 1) = (l1 : Int) := by rw [IntKind.wrap_i64]; omega
        have hne1 : ((e1 : Int) == (e2 : Int)) = false := by simpa using (by omega : (e1 : Int) ≠ (e2 : Int))
        have hne2 : ((era : Int) == (e1 : Int)) = false := by simpa using (by omega : (era : Int) ≠ (e1 : Int))
        have hpos1 : (0 : Int) < (e1 : Int) := by omega
        have hcell6 := (hBW.cell (p := ⟨bb, oo + k * 8 + 6, none⟩) hbw).trans HG.out.2.1
        have hbwr : bb < wr.heap.size := Nat.lt_of_lt_of_le hbw hBW.size
        subst hA
        obtain ⟨K0, kc0, hd0⟩ := HDW.out
        have HD := Lib.hid hd0
        have HBW := Lib.hid hBW
        have HEE := Lib.hid he1
        have HLK := Lib.hid hlk
        have HLR := Lib.hid (show 1 ≤ life ∧ life ≤ 1000 ∧ era ≤ 1000 by omega)
        clear hlk
        have HLL := Lib.hid hl1
        clear o1 o2 o3 o4 o5 o6 o7 hcells hBL hm hslB hKL hslK hd0 he2 HDW hBW he1 hl1 hb1
        go_wp2_with fail
        refine (HCUT.out wr).mono ?_
        rintro e x1 ⟨rfl, rfl⟩
        have hF1 := dfuse_any (-1) none 0 [] wr HD.out HBW.out.size (by decide) (by decide) ⟨Sl.nil, fun h => absurd rfl h⟩
        rw [fuse_neg HON.out] at hF1
        have HF1 := Lib.hid hF1
        clear hF1
        go_wp2_with fail
        refine HF1.out.mono ?_
        rintro e x2 ⟨rfl, hc2, K2, kc2, hd2⟩
        have HCC := Lib.hid hc2
        have HB3 := Lib.hid (HBW.out.trans (hc2.below HBW.out.size HGE.out.1 HGE.out.2))
        have HD2 := Lib.hid hd2
        have hcell0b := (HB3.out.cell (p := ⟨bb, oo + k * 8, none⟩) hbw).trans HG.out.1
        have hbw2 : bb < x2.heap.size := Nat.lt_of_lt_of_le hbw HB3.out.size
        clear hc2 hd2 HF1
        by_cases hkind : kind = 1
        · have hcell7b := (HB3.out.cell (p := ⟨bb, oo + k * 8 + 7, none⟩) hbw).trans HG.out.2.2
          have hkb : (kind == 1) = true := by simpa using hkind
          clear hkind
          go_wp2_with fail
          refine (HFEW.out _).mono ?_
          rintro e x3 ⟨rfl, hb3⟩
          have HB3' := Lib.hid (since_step HB3.out hb3)
          have hF2 := dfuse_any 0 KA kkc KL x3 (HD2.out.below hb3) HB3'.out.size HKL.out (by decide) (SlF.of_old (HKS.out _ HB3'.out) HKA.out HGE.out.1 HGE.out.2)
          rw [fuse_zero] at hF2
          have HF2 := Lib.hid hF2
          have HC3' := Lib.hid (HCC.out.step hb3)
          clear hF2 hb3 HD2 HCC HB3
          go_wp2_with fail
          refine HF2.out.mono ?_
          rintro e x4 ⟨rfl, hc4, K2, kc2, hd2⟩
          have HD2 := Lib.hid hd2
          have HB3 := Lib.hid (HB3'.out.trans (hc4.below HB3'.out.size HGE.out.1 HGE.out.2))
          have HCC := Lib.hid (HC3'.out.trans hc4)
          clear hc4 hd2 HF2 HB3' HC3'
          obtain ⟨N, hN, hN9, hokN, T, z, hsv, htn, hwh⟩ := save9 (d := fused9 d.fresh KL) (b := BL) HI.out rfl HBL7.out HLR.out.2.2 HLR.out.1 HLR.out.2.1
          rw [show (fused9 d.fresh KL).torn = true from rfl] at hsv
          simp only [if_true] at hsv
          have hstep := HI.out.step hN hN9 hokN htn
          rw [HEE.out] at hsv hstep
          rw [HLL.out] at hstep
          clear hokN hN hN9
          rcases hstep with hI2 | hI2
          · have HI2 := Lib.hid hI2
            clear hI2
            have hS := ssave_any 2 9 (life : Int) (e1 : Int) BA bc BL x4 HD2.out (by rw [show (fused9 d.fresh KL).S.length = 20 from HI.out.len]; decide) (by decide) HBF.out.1 HBF.out.2.1 HBF.out.2.2.1 (HBS.out _ HB3.out) HBF.out.2.2.2
            rw [hsv] at hS
            simp only at hS
            rw [HBM.out] at hS
            have HS := Lib.hid hS
            have HLD : Hid (loaded e1 BL = ((e1 : Int), BL, 0)) := Lib.hid (if_neg (by have := HEE.out; omega))
            clear hS hsv htn hwh
            go_wp2_with fail
            refine HS.out.mono ?_
            rintro e x5 ⟨rfl, hc5, hd5⟩
            have HB5 := Lib.hid (HB3.out.trans (hc5.below HB3.out.size HGE.out.1 HGE.out.2))
            have HC5 := Lib.hid (HCC.out.trans hc5)
            have hST := dstart_any x5 hd5
            have HST := Lib.hid hST
            clear hc5 hd5 HS hST
            go_wp2_with fail
            refine HST.out.mono ?_
            rintro e x6 ⟨rfl, hc6, K6, kc6, hd6⟩
            have HB6 := Lib.hid (HB5.out.trans (hc6.below HB5.out.size HGE.out.1 HGE.out.2))
            have HC6 := Lib.hid (HC5.out.trans hc6)
            have hL := sload_any 2 9 x6 hd6 (by show 2 + 2 * 9 ≤ T.length; rw [HI2.out.len]; decide) (by decide)
            rw [show (Dv.fresh { (fused9 d.fresh KL).burnt with S := T, writes := z }).S = T from rfl, HI2.out.load, HLD.out] at hL
            have HL := Lib.hid hL
            have HD6 := Lib.hid hd6
            clear hc6 hd6 HST hL
            go_wp2_with fail
            refine HL.out.mono ?_
            rintro e x7 ⟨⟨A7, c7, rfl, own7⟩, hb7⟩
            have hB7 := since_step HB6.out hb7
            have HC7 := Lib.hid (HC6.out.step hb7)
            have HD7 := Lib.hid (HD6.out.below hb7)
            simp only at own7 ⊢
            rw [HBM.out] at own7 ⊢
            have HO7 := Lib.hid own7
            have HF7 := Lib.hid (HD7.out.off own7 (by decide) (by decide))
            clear own7 hb7 HL HD6
            have HSM := Lib.hid (same_n A7 BA c7 bc m m BL BL x7 HBM.out HBM.out HBF2.out HBF2.out (Sl.of_own HO7.out) (HBS.out _ hB7))
            rw [decide_eq_true rfl] at HSM
            go_wp2_with fail
            refine HSM.out.mono ?_
            rintro e x8 ⟨rfl, q1, rfl⟩
            have HSM2 := Lib.hid (same_n A7 A7 c7 c7 m m BL BL (x7.drewN q1) HBM.out HBM.out HBF2.out HBF2.out ((Sl.of_own HO7.out).drewN q1) ((Sl.of_own HO7.out).drewN q1))
            rw [decide_eq_true rfl] at HSM2
            go_wp2_with fail
            refine HSM2.out.mono ?_
            rintro e x9 ⟨rfl, q2, rfl⟩
            have hB8 := below_drewN hB7 (q1 + q2)
            have HDN : Hid (DrW w.heap.size (x7.drewN (q1 + q2)) b g (Dv.fresh { (fused9 d.fresh KL).burnt with S := T, writes := z })) := Lib.hid (HD7.out.dn (q1 + q2))
            have HWN : Hid (SlF (x7.drewN (q1 + q2)) b g A7 (by8 BL)) := Lib.hid ((SlF.of_own (c := c7) (n := m) HO7.out HF7.out.1 HF7.out.2).dn (q1 + q2))
            go_wp2_with fail
            go_roundw
            case rel => exact ⟨k + 1, e1, l1, Dv.fresh { (fused9 d.fresh KL).burnt with S := T, writes := z }, A7, c7, BL, by omega, by omega, rfl, rfl, by rw [HBM.out], by go_num, by have := HEE.out; omega, by have := HLK.out; have := HLL.out; omega, HDN, rfl, HI2, HWN, Lib.hid (by rw [HBM.out]; exact HBF2.out), hB8⟩
            case measure => simp [intOf]; omega
          · have HI2 := Lib.hid hI2
            clear hI2
            by_cases he0 : era = 0
            · have HE0 := Lib.hid he0
              have hz1 : ((0 : Int) == (e1 : Int)) = false := by have := HEE.out; simpa using (by omega : (0 : Int) ≠ (e1 : Int))
              have hz2 : ((0 : Int) != (era : Int)) = false := by simp [he0]
              have hz3 : ¬ (0 : Int) < (era : Int) := by omega
              have hz4 : decide ((0 : Int) < (era : Int)) = false := decide_eq_false hz3
              have hw0 : was = [] := (HI.out.cur he0).1
              subst hw0
              clear he0
              have hS := ssave_any 2 9 (life : Int) (e1 : Int) BA bc BL x4 HD2.out (by rw [show (fused9 d.fresh KL).S.length = 20 from HI.out.len]; decide) (by decide) HBF.out.1 HBF.out.2.1 HBF.out.2.2.1 (HBS.out _ HB3.out) HBF.out.2.2.2
              rw [hsv] at hS
              simp only at hS
              rw [HBM.out] at hS
              have HS := Lib.hid hS
              have HLD : Hid (loaded era [] = (0, [], 11)) := Lib.hid (if_pos HE0.out)
              clear hS hsv htn hwh
              go_wp2_with fail
              refine HS.out.mono ?_
              rintro e x5 ⟨rfl, hc5, hd5⟩
              have HB5 := Lib.hid (HB3.out.trans (hc5.below HB3.out.size HGE.out.1 HGE.out.2))
              have HC5 := Lib.hid (HCC.out.trans hc5)
              have hST := dstart_any x5 hd5
              have HST := Lib.hid hST
              clear hc5 hd5 HS hST
              go_wp2_with fail
              refine HST.out.mono ?_
              rintro e x6 ⟨rfl, hc6, K6, kc6, hd6⟩
              have HB6 := Lib.hid (HB5.out.trans (hc6.below HB5.out.size HGE.out.1 HGE.out.2))
              have HC6 := Lib.hid (HC5.out.trans hc6)
              have hL := sload_any 2 9 x6 hd6 (by show 2 + 2 * 9 ≤ T.length; rw [HI2.out.len]; decide) (by decide)
              rw [show (Dv.fresh { (fused9 d.fresh KL).burnt with S := T, writes := z }).S = T from rfl, HI2.out.load, HLD.out] at hL
              have HL := Lib.hid hL
              have HD6 := Lib.hid hd6
              clear hc6 hd6 HST hL
              go_wp2_with fail
              refine HL.out.mono ?_
              rintro e x7 ⟨⟨A7, c7, rfl, own7⟩, hb7⟩
              have hB7 := since_step HB6.out hb7
              have HC7 := Lib.hid (HC6.out.step hb7)
              have HD7 := Lib.hid (HD6.out.below hb7)
              simp only at own7 ⊢
              simp only [List.length_nil] at own7 ⊢
              have HO7 := Lib.hid own7
              have HF7 := Lib.hid (HD7.out.off own7 (by decide) (by decide))
              clear own7 hb7 HL HD6
              try simp only [List.length_nil]
              have HSM := Lib.hid (same_n A7 WA c7 wc 0 0 ([] : List Nat) ([] : List Nat) x7 rfl rfl (by decide) (by decide) (Sl.of_own HO7.out) (HWAS.out.chg HC7.out).1)
              rw [decide_eq_true rfl] at HSM
              go_wp2_with fail
              refine HSM.out.mono ?_
              rintro e x8 ⟨rfl, q1, rfl⟩
              have hB8 := below_drewN hB7 q1
              have HDN : Hid (DrW w.heap.size (x7.drewN q1) b g (Dv.fresh { (fused9 d.fresh KL).burnt with S := T, writes := z })) := Lib.hid (HD7.out.dn q1)
              have HWN : Hid (SlF (x7.drewN q1) b g WA (by8 ([] : List Nat))) := Lib.hid ((HWAS.out.chg HC7.out).dn q1)
              go_wp2_with fail
              go_roundw
              case rel => exact ⟨k + 1, era, l1, Dv.fresh { (fused9 d.fresh KL).burnt with S := T, writes := z }, WA, wc, ([] : List Nat), by omega, by omega, by rw [show (era : Int) = 0 by have := HE0.out; omega], rfl, rfl, by go_num, by have := HEE.out; omega, by have := HLK.out; have := HLL.out; omega, HDN, rfl, HI2, HWN, Lib.hid (by decide), hB8⟩
              case measure => simp [intOf]; omega
            · have hposE : (0 : Int) < (era : Int) := by omega
              have hS := ssave_any 2 9 (life : Int) (e1 : Int) BA bc BL x4 HD2.out (by rw [show (fused9 d.fresh KL).S.length = 20 from HI.out.len]; decide) (by decide) HBF.out.1 HBF.out.2.1 HBF.out.2.2.1 (HBS.out _ HB3.out) HBF.out.2.2.2
              rw [hsv] at hS
              simp only at hS
              rw [HBM.out] at hS
              have HS := Lib.hid hS
              have HLD : Hid (loaded era was = ((era : Int), was, 0)) := Lib.hid (if_neg (by omega))
              clear hS hsv htn hwh
              go_wp2_with fail
              refine HS.out.mono ?_
              rintro e x5 ⟨rfl, hc5, hd5⟩
              have HB5 := Lib.hid (HB3.out.trans (hc5.below HB3.out.size HGE.out.1 HGE.out.2))
              have HC5 := Lib.hid (HCC.out.trans hc5)
              have hST := dstart_any x5 hd5
              have HST := Lib.hid hST
              clear hc5 hd5 HS hST
              go_wp2_with fail
              refine HST.out.mono ?_
              rintro e x6 ⟨rfl, hc6, K6, kc6, hd6⟩
              have HB6 := Lib.hid (HB5.out.trans (hc6.below HB5.out.size HGE.out.1 HGE.out.2))
              have HC6 := Lib.hid (HC5.out.trans hc6)
              have hL := sload_any 2 9 x6 hd6 (by show 2 + 2 * 9 ≤ T.length; rw [HI2.out.len]; decide) (by decide)
              rw [show (Dv.fresh { (fused9 d.fresh KL).burnt with S := T, writes := z }).S = T from rfl, HI2.out.load, HLD.out] at hL
              have HL := Lib.hid hL
              have HD6 := Lib.hid hd6
              clear hc6 hd6 HST hL
              go_wp2_with fail
              refine HL.out.mono ?_
              rintro e x7 ⟨⟨A7, c7, rfl, own7⟩, hb7⟩
              have hB7 := since_step HB6.out hb7
              have HC7 := Lib.hid (HC6.out.step hb7)
              have HD7 := Lib.hid (HD6.out.below hb7)
              simp only at own7 ⊢
              have HO7 := Lib.hid own7
              have HF7 := Lib.hid (HD7.out.off own7 (by decide) (by decide))
              clear own7 hb7 HL HD6
              have HSM := Lib.hid (same_n A7 WA c7 wc was.length was.length was was x7 rfl rfl HWL.out HWL.out (Sl.of_own HO7.out) (HWAS.out.chg HC7.out).1)
              rw [decide_eq_true rfl] at HSM
              go_wp2_with fail
              refine HSM.out.mono ?_
              rintro e x8 ⟨rfl, q1, rfl⟩
              have hB8 := below_drewN hB7 q1
              have HDN : Hid (DrW w.heap.size (x7.drewN q1) b g (Dv.fresh { (fused9 d.fresh KL).burnt with S := T, writes := z })) := Lib.hid (HD7.out.dn q1)
              have HWN : Hid (SlF (x7.drewN q1) b g WA (by8 was)) := Lib.hid ((HWAS.out.chg HC7.out).dn q1)
              go_wp2_with fail
              go_roundw
              case rel => exact ⟨k + 1, era, l1, Dv.fresh { (fused9 d.fresh KL).burnt with S := T, writes := z }, WA, wc, was, by omega, by omega, rfl, rfl, rfl, by go_num, by have := HEE.out; omega, by have := HLK.out; have := HLL.out; omega, HDN, rfl, HI2, HWN, HWL, hB8⟩
              case measure => simp [intOf]; omega
        · have hkb : (kind == 1) = false := by simpa using hkind
          clear hkind
          obtain ⟨N, hN, hN9, hokN, T, z, hsv, htn, hwh⟩ := save9 (d := d.fresh) (b := BL) HI.out rfl HBL7.out HLR.out.2.2 HLR.out.1 HLR.out.2.1
          rw [show (d.fresh).torn = false from rfl] at hsv
          simp only [Bool.false_eq_true, if_false] at hsv
          have hI2 := HI.out.whole hN hN9 hokN htn (hwh rfl)
          rw [HEE.out] at hsv hI2
          rw [HLL.out] at hI2
          have HI2 := Lib.hid hI2
          clear hI2 hokN hN hN9
          have hS := ssave_any 2 9 (life : Int) (e1 : Int) BA bc BL x2 HD2.out (by rw [show d.fresh.S.length = 20 from HI.out.len]; decide) (by decide) HBF.out.1 HBF.out.2.1 HBF.out.2.2.1 (HBS.out _ HB3.out) HBF.out.2.2.2
          rw [hsv] at hS
          simp only at hS
          rw [HBM.out] at hS
          have HS := Lib.hid hS
          have HLD : Hid (loaded e1 BL = ((e1 : Int), BL, 0)) := Lib.hid (if_neg (by have := HEE.out; omega))
          clear hS hsv htn hwh
          go_wp2_with fail
          refine HS.out.mono ?_
          rintro e x5 ⟨rfl, hc5, hd5⟩
          have HB5 := Lib.hid (HB3.out.trans (hc5.below HB3.out.size HGE.out.1 HGE.out.2))
          have HC5 := Lib.hid (HCC.out.trans hc5)
          have hST := dstart_any x5 hd5
          have HST := Lib.hid hST
          clear hc5 hd5 HS hST
          go_wp2_with fail
          refine HST.out.mono ?_
          rintro e x6 ⟨rfl, hc6, K6, kc6, hd6⟩
          have HB6 := Lib.hid (HB5.out.trans (hc6.below HB5.out.size HGE.out.1 HGE.out.2))
          have HC6 := Lib.hid (HC5.out.trans hc6)
          have hL := sload_any 2 9 x6 hd6 (by show 2 + 2 * 9 ≤ T.length; rw [HI2.out.len]; decide) (by decide)
          rw [show (Dv.fresh { d.fresh.burnt with S := T, writes := z }).S = T from rfl, HI2.out.load, HLD.out] at hL
          have HL := Lib.hid hL
          have HD6 := Lib.hid hd6
          clear hc6 hd6 HST hL
          go_wp2_with fail
          refine HL.out.mono ?_
          rintro e x7 ⟨⟨A7, c7, rfl, own7⟩, hb7⟩
          have hB7 := since_step HB6.out hb7
          have HC7 := Lib.hid (HC6.out.step hb7)
          have HD7 := Lib.hid (HD6.out.below hb7)
          simp only at own7 ⊢
          rw [HBM.out] at own7 ⊢
          have HO7 := Lib.hid own7
          have HF7 := Lib.hid (HD7.out.off own7 (by decide) (by decide))
          clear own7 hb7 HL HD6
          have HSM := Lib.hid (same_n A7 BA c7 bc m m BL BL x7 HBM.out HBM.out HBF2.out HBF2.out (Sl.of_own HO7.out) (HBS.out _ hB7))
          rw [decide_eq_true rfl] at HSM
          go_wp2_with fail
          refine HSM.out.mono ?_
          rintro e x8 ⟨rfl, q1, rfl⟩
          have hB8 := below_drewN hB7 q1
          have HDN : Hid (DrW w.heap.size (x7.drewN q1) b g (Dv.fresh { d.fresh.burnt with S := T, writes := z })) := Lib.hid (HD7.out.dn q1)
          have HWN : Hid (SlF (x7.drewN q1) b g BA (by8 BL)) := Lib.hid (SlF.of_old (W := w.heap.size) (HBS.out _ hB8) HBLT.out HGE.out.1 HGE.out.2)
          go_wp2_with fail
          go_roundw
          case rel => exact ⟨k + 1, e1, l1, Dv.fresh { d.fresh.burnt with S := T, writes := z }, BA, bc, BL, by omega, by omega, rfl, rfl, by rw [HBM.out], by go_num, by have := HEE.out; omega, by have := HLK.out; have := HLL.out; omega, HDN, rfl, HI2, HWN, Lib.hid (by rw [HBM.out]; exact HBF2.out), hB8⟩
          case measure => simp [intOf]; omega
      · obtain rfl : k = 30 := by omega
        have hlk1 : (30 : Int) < (L.length : Int) := by omega
        have hlk2 : ¬ (((30 : Nat) : Int) < 30) := by omega
        have hlk3 : ¬ ((30 : Int) < 30) := by omega
        go_wp2_with fail
        refine (HLV.out _).mono ?_
        rintro e v9 ⟨rfl, hb9⟩
        have hB9 := since_step hBW hb9
        go_wp2_with fail
        go_ret
        exact ⟨rfl, hB9⟩
    · obtain rfl : k = L.length := by omega
      have hlk1 : ¬ (L.length : Int) < (L.length : Int) := by omega
      go_wp2_with fail
      refine (HLV.out _).mono ?_
      rintro e v9 ⟨rfl, hb9⟩
      have hB9 := since_step hBW hb9
      go_wp2_with fail
      go_ret
      exact ⟨rfl, hB9⟩
end Go.Proofs.Ytiggcpfmmgmncaa
end
