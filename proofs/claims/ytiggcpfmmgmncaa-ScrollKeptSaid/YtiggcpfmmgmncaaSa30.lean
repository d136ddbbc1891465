import Derived.Test.YtiggcpfmmgmncaaSa29
section
namespace Go.Proofs.Ytiggcpfmmgmncaa
open Go.ChangeShapes Go.WideShapes Go.ChangeAt Go.RowKit
set_option linter.unusedVariables false
set_option linter.unusedSimpArgs false

set_option maxHeartbeats 16000000 in
set_option maxRecDepth 100000 in
theorem walk_ScrollKept (a0 : Option Addr) (n0 c0 : Nat) (w : World) (w0 : Rd w (.sl (.cat (.int .i64) (.cat (.int .i64) (.cat (.sl (.int .u8)) (.cat (.sl (.int .i64)) .nil))))) [.slice a0 n0 c0]) :
    Calls Try.prog 4 #[.slice a0 n0 c0] w fun e w' => e = .returned (.bool true) ∧ Below w.heap.size w w' := by
  obtain ⟨L, rfl, h0c, h0m, h0s, h0p⟩ := rd_rowsP (f := Do8.cells) (p := fun x => x.Ok w) (fun r => rd_do8) w0
  have HLV := Lib.hid (fun V => lives8_any V)
  have HN := Lib.hid (dnew_any 30 w (by decide) (by decide))
  have HAT := Lib.hid (fun k (hk : k < L.length) => Sl.elem (m := 4) Do8.len (by decide) h0s hk)
  have HPP := Lib.hid (fun k (hk : k < L.length) => h0p L[k] (List.getElem_mem hk))
  clear w0 h0c h0m h0s h0p
  go_enter Try.func4, Try.ntmps4
  go_wp2_with fail
  refine HN.out.mono ?_
  rintro e v1 ⟨b, g, rfl, hdw, hb1⟩
  have HGE : Hid (w.heap.size ≤ b ∧ w.heap.size ≤ g) := Lib.hid (by obtain ⟨K, kc, h⟩ := hdw; exact h.ge)
  obtain ⟨K1, kc1, hd1⟩ := hdw
  have HDW1 := Lib.hid hd1
  have HB1 := Lib.hid hb1
  have hO := sopen_new 2 30 1 7 v1 HDW1.out HB1.out.size (by decide) (by show 30 ≤ (Dv.new 30).S.length; simp [Dv.new]) (by decide) (by decide) (by decide) (by decide) (by have := newest_le (M := 0) (Int.le_refl 0) (fun i f h => by rw [frD_new] at h; cases h) 2 (30 - 2) (S := (Dv.new 30).S); omega)
  rw [show scan (Dv.new 30).S 30 7 2 0 0 = ([], 2) from scan_stop (fun bb f h => by rw [readF_no (frD_new 30 _)] at h; cases h)] at hO
  simp only [Nat.sub_self] at hO
  have HOP := Lib.hid hO
  clear hd1 hb1 HN hO
  go_wp2_with fail
  refine HOP.out.mono ?_
  rintro e v2 ⟨s, A, c, R, rfl, hs2, hb2, hsz2, hrow2⟩
  have HB2 := Lib.hid (since_step HB1.out hb2)
  have HD2 := Lib.hid (HDW1.out.below hb2)
  have HS2 := Lib.hid hs2
  clear hs2 hb2 hsz2 hrow2 HOP
  go_wp2_with fail
  go_loopw [5, 7, 8, 9, 10] (fun sv wv mv lv iv wr => ∃ (k life : Nat) (d : Dv) (x : Sc) (s : Nat) (A : Option Addr) (c : Nat) (R : List (RowS Nat)) (WA : Option Addr) (wc : Nat) (RW : List (RowS Nat)) (MA : Option Addr) (mc : Nat) (RM : List (RowS Nat)), k ≤ L.length ∧ k ≤ 40 ∧ sv = .pointer (some ⟨s, 0, none⟩) ∧ wv = .slice WA RW.length wc ∧ mv = .slice MA RM.length mc ∧ lv = .int .i64 life ∧ iv = .int .i64 k ∧ Hid (1 ≤ life ∧ life ≤ k + 1) ∧ Hid (DrW w.heap.size wr b g d) ∧ Hid (ScA w.heap.size wr s b A c R x) ∧ Hid (K8 d x life (RW.map RowS.l) (RM.map RowS.l)) ∧ Hid (RowsX (blk8 b g s (x.row A c)) wr WA RW) ∧ Hid (RowsX (blk8 b g s (x.row A c)) wr MA RM) ∧ Hid (RW.length ≤ k ∧ RM.length ≤ k ∧ x.L.length ≤ k ∧ (∀ r ∈ RW, r.l.length ≤ 250) ∧ (∀ r ∈ RM, r.l.length ≤ 250)) ∧ Below w.heap.size w wr) (fun _ _ _ _ iv _ => 40 - (intOf iv).toNat)
  case atStart => exact ⟨0, 1, Dv.new 30, ⟨2, 30, 1, 7, [], 0, false⟩, s, A, c, R, none, 0, [], none, 0, [], Nat.zero_le _, Nat.zero_le _, rfl, rfl, rfl, rfl, rfl, Lib.hid (by omega), ⟨_, _, HD2.out⟩, HS2, K8.new, RowsX.nil, RowsX.nil, ⟨Nat.le_refl _, Nat.le_refl _, Nat.le_refl _, (fun r hr => by cases hr), (fun r hr => by cases hr)⟩, HB2.out⟩
  case round =>
    clear HB1 HDW1 HB2 HD2 HS2
    obtain ⟨k, life, d, x, s, A, c, R, WA, wc, RW, MA, mc, RM, hk, hk40, rfl, rfl, rfl, rfl, rfl, HLF, HDW, HSC, HK, HWS, HMS, HLN, hBW⟩ := hrel
    by_cases hlt : k < L.length
    · by_cases h40 : k < 40
      · have hlk1 : (k : Int) < (L.length : Int) := by omega
        have hlk2 : (k : Int) < 40 := by omega
        have hgk : (0 : Int) ≤ (k : Int) := by omega
        obtain ⟨bb, oo, hA, hbw, hcells⟩ := HAT.out k hlt
        have hOk := HPP.out k hlt
        obtain ⟨xx, hx⟩ : ∃ x, L[k] = x := ⟨_, rfl⟩
        rw [hx] at hcells hOk
        clear hx
        obtain ⟨kind, n, BA, bc, B, KA, kkc, KK⟩ := xx
        obtain ⟨o0, o1, o2, o3, o4, o5, o6, o7⟩ := hOk
        simp only at o0 o1 o2 o3 o4 o5 o6 o7
        have HG : Hid (w.cell? ⟨bb, oo + k * 4, none⟩ = some (.int .i64 kind) ∧ w.cell? ⟨bb, oo + k * 4 + 1, none⟩ = some (.int .i64 n) ∧ w.cell? ⟨bb, oo + k * 4 + 2, none⟩ = some (.slice BA B.length bc) ∧ w.cell? ⟨bb, oo + k * 4 + 3, none⟩ = some (.slice KA KK.length kkc)) := Lib.hid ⟨hcells 0 _ rfl, hcells 1 _ rfl, hcells 2 _ rfl, hcells 3 _ rfl⟩
        obtain ⟨BL, hBL⟩ : ∃ BL, B.take 250 = BL := ⟨_, rfl⟩
        obtain ⟨m, hm⟩ : ∃ m, min B.length 250 = m := ⟨_, rfl⟩
        have HBM : Hid (BL.length = m) := Lib.hid (by rw [← hBL, ← hm, List.length_take, Nat.min_comm])
        have HBF : Hid (BL.length ≤ bc ∧ bc ≤ maxLen ∧ BL.length ≤ 100000 ∧ Oct BL) := Lib.hid ⟨by rw [HBM.out, ← hm]; omega, o2, by rw [HBM.out, ← hm]; omega, by rw [← hBL]; exact o4.take 250⟩
        have HB250 : Hid (BL.length ≤ 250) := Lib.hid (by rw [HBM.out, ← hm]; omega)
        have hslB : Sl w BA (by8 BL) := by rw [← hBL, by8_take]; exact o3.take 250
        have HBS := Lib.hid (fun V (hV : Below w.heap.size w V) => hslB.below hV)
        have HBLT := Lib.hid hslB.lt
        obtain ⟨KL, hKL⟩ : ∃ KL, KK.take 20 = KL := ⟨_, rfl⟩
        have hslK : Sl w KA (rc Nt.cells KL) := by
          have := o7.take (20 * 1)
          rw [rc_take Nt.len, hKL] at this
          exact this
        have HKS := Lib.hid (fun V (hV : Below w.heap.size w V) => hslK.below hV)
        have HKA := Lib.hid hslK.lt
        have HKL : Hid (KL.length ≤ 1000000) := Lib.hid (by rw [← hKL, List.length_take]; omega)
        have HNB := Lib.hid o0
        have HCUT := Lib.hid (fun V => cut_any BA B.length bc 250 V (by unfold maxLen at o2; omega) (by omega) o1 (by unfold maxLen at o2; omega))
        rw [hm] at HCUT
        have HFEW := Lib.hid (fun V => few8_any KA KK.length kkc V (by unfold maxLen at o6; omega) o5 (by unfold maxLen at o6; omega))
        rw [show min KK.length 20 = KL.length by rw [← hKL, List.length_take, Nat.min_comm]] at HFEW
        have hcell2 := (hBW.cell (p := ⟨bb, oo + k * 4 + 2, none⟩) hbw).trans HG.out.2.2.1
        have hcell0 := (hBW.cell (p := ⟨bb, oo + k * 4, none⟩) hbw).trans HG.out.1
        have hbwr : bb < wr.heap.size := Nat.lt_of_lt_of_le hbw hBW.size
        subst hA
        obtain ⟨K0, kc0, hd0⟩ := HDW.out
        have HD := Lib.hid hd0
        have HBW := Lib.hid hBW
        have HBW2 := Lib.hid hbw
        clear o0 o1 o2 o3 o4 o5 o6 o7 hcells hBL hm hslB hKL hslK hd0 hBW hbw
        go_wp2_with fail
        refine (HCUT.out wr).mono ?_
        rintro e x1 ⟨rfl, rfl⟩
        by_cases hkind : kind = 0
        · have hk0 : (kind == 0) = true := by simpa using hkind
          clear hkind
          have HLIV := Lib.hid (dlive_eq wr HD.out)
          cases hon : d.on with
          | false =>
            have happ : x.app d BL = ((x, d), 9) := K8.off hon
            rw [hon] at HLIV
            clear hon
            have hA := sapp_any BA bc BL wr HD.out HSC.out HBW.out.size HBF.out.1 HBF.out.2.1 HBF.out.2.2.1 (SlF.of_old (HBS.out _ HBW.out) HBLT.out HGE.out.1 HGE.out.2) HBF.out.2.2.2 (by rw [HK.out.t, HK.out.len]; decide) (by have := HLN.out; omega)
            rw [happ] at hA
            simp only at hA
            rw [HBM.out] at hA
            have HAPP := Lib.hid hA
            clear hA happ
            go_wp2_with fail
            refine HLIV.out.mono ?_
            rintro e x1 ⟨rfl, rfl⟩
            go_wp2_with fail
            refine HAPP.out.mono ?_
            rintro e x2 ⟨rfl, A2, c2, R2, hs2, hd2, hc2, hrow2⟩
            have HD2 := Lib.hid hd2
            have HS2 := Lib.hid hs2
            have HB2 := Lib.hid (HBW.out.trans (hc2.below HBW.out.size (fun y hy => blk8_ge HD.out HSC.out y hy)))
            have HWS2 := Lib.hid (HWS.out.chg hc2 (blk8_grow hrow2))
            have HMS2 := Lib.hid (HMS.out.chg hc2 (blk8_grow hrow2))
            clear hs2 hd2 hc2 hrow2 HAPP HLIV HDW HD HSC HWS HMS
            go_wp2_with fail
            go_roundw
            case rel => exact ⟨k + 1, life, d, x, s, A2, c2, R2, WA, wc, RW, MA, mc, RM, by omega, by omega, rfl, rfl, rfl, rfl, by go_num, Lib.hid (by have := HLF.out; omega), ⟨_, _, HD2.out⟩, HS2, HK, HWS2, HMS2, Lib.hid (by have := HLN.out; exact ⟨by omega, by omega, by omega, this.2.2.2⟩), HB2.out⟩
            case measure => simp [intOf]; omega
          | true =>
            rw [hon] at HLIV
            rcases HK.out.app hon HB250.out HLF.out.1 (by have := HLF.out; omega) (by rw [List.length_map]; have := HLN.out; omega) with happ | ⟨x', d', happ, hoff, hxl, hkn⟩ | ⟨x', d', happ, hon2, hkn⟩
            · clear hon
              have hA := sapp_any BA bc BL wr HD.out HSC.out HBW.out.size HBF.out.1 HBF.out.2.1 HBF.out.2.2.1 (SlF.of_old (HBS.out _ HBW.out) HBLT.out HGE.out.1 HGE.out.2) HBF.out.2.2.2 (by rw [HK.out.t, HK.out.len]; decide) (by have := HLN.out; omega)
              rw [happ] at hA
              simp only at hA
              rw [HBM.out] at hA
              have HAPP := Lib.hid hA
              clear hA happ
              go_wp2_with fail
              refine HLIV.out.mono ?_
              rintro e x1 ⟨rfl, rfl⟩
              go_wp2_with fail
              refine HAPP.out.mono ?_
              rintro e x2 ⟨rfl, A2, c2, R2, hs2, hd2, hc2, hrow2⟩
              have HD2 := Lib.hid hd2
              have HS2 := Lib.hid hs2
              have HB2 := Lib.hid (HBW.out.trans (hc2.below HBW.out.size (fun y hy => blk8_ge HD.out HSC.out y hy)))
              have HWS2 := Lib.hid (HWS.out.chg hc2 (blk8_grow hrow2))
              have HMS2 := Lib.hid (HMS.out.chg hc2 (blk8_grow hrow2))
              clear hs2 hd2 hc2 hrow2 HAPP HLIV HDW HD HSC HWS HMS
              go_wp2_with fail
              go_roundw
              case rel => exact ⟨k + 1, life, d, x, s, A2, c2, R2, WA, wc, RW, MA, mc, RM, by omega, by omega, rfl, rfl, rfl, rfl, by go_num, Lib.hid (by have := HLF.out; omega), ⟨_, _, HD2.out⟩, HS2, HK, HWS2, HMS2, Lib.hid (by have := HLN.out; exact ⟨by omega, by omega, by omega, this.2.2.2⟩), HB2.out⟩
              case measure => simp [intOf]; omega
            · have HKN : Hid (K8 d' x' life (RW.map RowS.l) ((RW ++ [(⟨BA, bc, BL⟩ : RowS Nat)]).map RowS.l)) := Lib.hid (by rw [List.map_append]; exact hkn)
              have HXL := Lib.hid (show x'.L = x.L from hxl)
              clear hon hkn hoff hxl
              have hA := sapp_any BA bc BL wr HD.out HSC.out HBW.out.size HBF.out.1 HBF.out.2.1 HBF.out.2.2.1 (SlF.of_old (HBS.out _ HBW.out) HBLT.out HGE.out.1 HGE.out.2) HBF.out.2.2.2 (by rw [HK.out.t, HK.out.len]; decide) (by have := HLN.out; omega)
              rw [happ] at hA
              simp only at hA
              rw [HBM.out] at hA
              have HAPP := Lib.hid hA
              clear hA happ
              go_wp2_with fail
              refine HLIV.out.mono ?_
              rintro e x1 ⟨rfl, rfl⟩
              go_wp2_with fail
              refine HAPP.out.mono ?_
              rintro e x2 ⟨rfl, A2, c2, R2, hs2, hd2, hc2, hrow2⟩
              have HD2 := Lib.hid hd2
              have HS2 := Lib.hid hs2
              have HB2 := Lib.hid (HBW.out.trans (hc2.below HBW.out.size (fun y hy => blk8_ge HD.out HSC.out y hy)))
              have HWS2 := Lib.hid (HWS.out.chg hc2 (blk8_grow hrow2))
              have HMS2 := Lib.hid (HMS.out.chg hc2 (blk8_grow hrow2))
              clear hs2 hd2 hc2 hrow2 HAPP HLIV HDW HD HSC HWS HMS
              go_upto_region 18 with (first
                | (at_builtin; refine wpList_app3 rfl (.tmp 59) (.tmp 60) rfl EDR rfl rfl (own_nil x2.heap.size _ _) (m := RW.length) (news := rc RowS.cells RW) (by rw [rc_length RowS.len, Nat.mul_one]) HWS2.out.1.sl (rc_one (fun r u hu => by simp only [RowS.cells, List.mem_cons, List.not_mem_nil, or_false] at hu; subst hu; rfl) _) (by have := HLN.out; unfold maxLen; omega) (by have := HLN.out; omega) (Nat.le_refl _) ?_; intro A5 c5 w5 own5 hg5 hv5 hb5)
                | fail)
              simp only [Nat.zero_add, List.nil_append] at own5 ⊢
              have HO5 := Lib.hid own5
              have HB5 := Lib.hid hb5
              clear own5 hg5 hv5 hb5
              go_wp2_with (first
                | (at_builtin; refine wpList_app rfl (.tmp 62) (.tmp 64) rfl EDR rfl rfl (HO5.out.alloc _) (m := 1) (news := [.slice BA m bc]) rfl (Sl.new_ _ _ _) (fun u hu => by simp only [List.mem_cons, List.not_mem_nil, or_false] at hu; subst hu; rfl) (by have := HLN.out; unfold maxLen; omega) (by have := HLN.out; omega) (by simp only [World.size_alloc]; have := HB5.out.size; omega) ?_; intro A6 c6 w6 own6 hg6 hb6)
                | fail)
              have hB6 : Below x2.heap.size x2 w6 := (HB5.out.alloc HB5.out.size _).trans hb6
              have HB7 := Lib.hid (HB2.out.trans (hB6.mono HB2.out.size))
              have hcells : rc RowS.cells (RW ++ [(⟨BA, bc, BL⟩ : RowS Nat)]) = rc RowS.cells RW ++ [.slice BA m bc] := by
                rw [rc_append]
                show rc RowS.cells RW ++ [.slice BA BL.length bc] = _
                rw [HBM.out]
              have hlen6 : (RW ++ [(⟨BA, bc, BL⟩ : RowS Nat)]).length = RW.length + 1 := by rw [List.length_append]; rfl
              have hrb : SlX (blk8 b g s (x'.row A2 c2)) x2 BA (by8 BL) := SlX.old (HBS.out _ HB2.out) HBLT.out HB2.out.size (fun y hy => blk8_ge HD2.out HS2.out y hy)
              have hMN : RowsX (blk8 b g s (x'.row A2 c2)) w6 A6 (RW ++ [(⟨BA, bc, BL⟩ : RowS Nat)]) := RowsX.snoc (c := c6) (B := x2.heap.size) HWS2.out hrb hB6 (by rw [hcells, hlen6]; exact own6) (blk8_lt HD2.out HS2.out)
              have HMN := Lib.hid hMN
              have HLEN6 := Lib.hid hlen6
              have HD6 := Lib.hid (HD2.out.below hB6)
              have HS6 := Lib.hid (HS2.out.below hB6)
              have HW6 := Lib.hid (HWS2.out.below hB6)
              have HLR : Hid (∀ r ∈ RW ++ [(⟨BA, bc, BL⟩ : RowS Nat)], r.l.length ≤ 250) := Lib.hid (fun r hr => by
                rcases List.mem_append.1 hr with h1 | h1
                · exact HLN.out.2.2.2.1 r h1
                · rw [List.mem_singleton] at h1; subst h1; exact HB250.out)
              clear hB6 hcells hlen6 hrb hMN own6 hg6 hb6 HO5 HB5
              go_wp2_with fail
              go_roundw
              case rel => exact ⟨k + 1, life, d', x', s, A2, c2, R2, WA, wc, RW, A6, c6, RW ++ [(⟨BA, bc, BL⟩ : RowS Nat)], by omega, by omega, rfl, rfl, by rw [HLEN6.out], rfl, by go_num, Lib.hid (by have := HLF.out; omega), ⟨_, _, HD6.out⟩, HS6, HKN, HW6, HMN, Lib.hid (by have := HLN.out; rw [HLEN6.out, HXL.out]; exact ⟨by omega, by omega, by omega, this.2.2.2.1, HLR.out⟩), HB7.out⟩
              case measure => simp [intOf]; omega
            · have HKN : Hid (K8 d' x' life ((RW ++ [(⟨BA, bc, BL⟩ : RowS Nat)]).map RowS.l) ((RW ++ [(⟨BA, bc, BL⟩ : RowS Nat)]).map RowS.l)) := Lib.hid (by rw [List.map_append]; exact hkn)
              have HXL := Lib.hid (show x'.L = (RW ++ [(⟨BA, bc, BL⟩ : RowS Nat)]).map RowS.l from (HKN.out.on hon2).2.1)
              clear hon hkn hon2
              have hA := sapp_any BA bc BL wr HD.out HSC.out HBW.out.size HBF.out.1 HBF.out.2.1 HBF.out.2.2.1 (SlF.of_old (HBS.out _ HBW.out) HBLT.out HGE.out.1 HGE.out.2) HBF.out.2.2.2 (by rw [HK.out.t, HK.out.len]; decide) (by have := HLN.out; omega)
              rw [happ] at hA
              simp only at hA
              rw [HBM.out] at hA
              have HAPP := Lib.hid hA
              clear hA happ
              go_wp2_with fail
              refine HLIV.out.mono ?_
              rintro e x1 ⟨rfl, rfl⟩
              go_wp2_with fail
              refine HAPP.out.mono ?_
              rintro e x2 ⟨rfl, A2, c2, R2, hs2, hd2, hc2, hrow2⟩
              have HD2 := Lib.hid hd2
              have HS2 := Lib.hid hs2
              have HB2 := Lib.hid (HBW.out.trans (hc2.below HBW.out.size (fun y hy => blk8_ge HD.out HSC.out y hy)))
              have HWS2 := Lib.hid (HWS.out.chg hc2 (blk8_grow hrow2))
              have HMS2 := Lib.hid (HMS.out.chg hc2 (blk8_grow hrow2))
              clear hs2 hd2 hc2 hrow2 HAPP HLIV HDW HD HSC HWS HMS
              go_upto_region 18 with (first
                | (at_builtin; refine wpList_app3 rfl (.tmp 59) (.tmp 60) rfl EDR rfl rfl (own_nil x2.heap.size _ _) (m := RW.length) (news := rc RowS.cells RW) (by rw [rc_length RowS.len, Nat.mul_one]) HWS2.out.1.sl (rc_one (fun r u hu => by simp only [RowS.cells, List.mem_cons, List.not_mem_nil, or_false] at hu; subst hu; rfl) _) (by have := HLN.out; unfold maxLen; omega) (by have := HLN.out; omega) (Nat.le_refl _) ?_; intro A5 c5 w5 own5 hg5 hv5 hb5)
                | fail)
              simp only [Nat.zero_add, List.nil_append] at own5 ⊢
              have HO5 := Lib.hid own5
              have HB5 := Lib.hid hb5
              clear own5 hg5 hv5 hb5
              go_wp2_with (first
                | (at_builtin; refine wpList_app rfl (.tmp 62) (.tmp 64) rfl EDR rfl rfl (HO5.out.alloc _) (m := 1) (news := [.slice BA m bc]) rfl (Sl.new_ _ _ _) (fun u hu => by simp only [List.mem_cons, List.not_mem_nil, or_false] at hu; subst hu; rfl) (by have := HLN.out; unfold maxLen; omega) (by have := HLN.out; omega) (by simp only [World.size_alloc]; have := HB5.out.size; omega) ?_; intro A6 c6 w6 own6 hg6 hb6)
                | fail)
              have hB6 : Below x2.heap.size x2 w6 := (HB5.out.alloc HB5.out.size _).trans hb6
              have HB7 := Lib.hid (HB2.out.trans (hB6.mono HB2.out.size))
              have hcells : rc RowS.cells (RW ++ [(⟨BA, bc, BL⟩ : RowS Nat)]) = rc RowS.cells RW ++ [.slice BA m bc] := by
                rw [rc_append]
                show rc RowS.cells RW ++ [.slice BA BL.length bc] = _
                rw [HBM.out]
              have hlen6 : (RW ++ [(⟨BA, bc, BL⟩ : RowS Nat)]).length = RW.length + 1 := by rw [List.length_append]; rfl
              have hrb : SlX (blk8 b g s (x'.row A2 c2)) x2 BA (by8 BL) := SlX.old (HBS.out _ HB2.out) HBLT.out HB2.out.size (fun y hy => blk8_ge HD2.out HS2.out y hy)
              have hMN : RowsX (blk8 b g s (x'.row A2 c2)) w6 A6 (RW ++ [(⟨BA, bc, BL⟩ : RowS Nat)]) := RowsX.snoc (c := c6) (B := x2.heap.size) HWS2.out hrb hB6 (by rw [hcells, hlen6]; exact own6) (blk8_lt HD2.out HS2.out)
              have HMN := Lib.hid hMN
              have HLEN6 := Lib.hid hlen6
              have HD6 := Lib.hid (HD2.out.below hB6)
              have HS6 := Lib.hid (HS2.out.below hB6)
              have HW6 := Lib.hid (HWS2.out.below hB6)
              have HLR : Hid (∀ r ∈ RW ++ [(⟨BA, bc, BL⟩ : RowS Nat)], r.l.length ≤ 250) := Lib.hid (fun r hr => by
                rcases List.mem_append.1 hr with h1 | h1
                · exact HLN.out.2.2.2.1 r h1
                · rw [List.mem_singleton] at h1; subst h1; exact HB250.out)
              clear hB6 hcells hlen6 hrb hMN own6 hg6 hb6 HO5 HB5
              go_wp2_with fail
              go_roundw
              case rel => exact ⟨k + 1, life, d', x', s, A2, c2, R2, A6, c6, RW ++ [(⟨BA, bc, BL⟩ : RowS Nat)], A6, c6, RW ++ [(⟨BA, bc, BL⟩ : RowS Nat)], by omega, by omega, rfl, by rw [HLEN6.out], by rw [HLEN6.out], rfl, by go_num, Lib.hid (by have := HLF.out; omega), ⟨_, _, HD6.out⟩, HS6, HKN, HMN, HMN, Lib.hid (by have := HLN.out; rw [HLEN6.out, HXL.out, List.length_map]; exact ⟨by omega, by omega, by rw [HLEN6.out]; omega, HLR.out, HLR.out⟩), HB7.out⟩
              case measure => simp [intOf]; omega
        · by_cases hkind1 : kind = 1
          · have hk0 : (kind == 0) = false := by simpa using hkind
            have hk1 : (kind == 1) = true := by simpa using hkind1
            clear hkind hkind1
            go_wp2_with fail
            have hq1 : wr.drew.cell? ⟨bb, oo + k * 4 + 1, none⟩ = some (.int .i64 n) := (HBW.out.cell (p := ⟨bb, oo + k * 4 + 1, none⟩) HBW2.out).trans HG.out.2.1
            have hq3 : wr.drew.cell? ⟨bb, oo + k * 4 + 3, none⟩ = some (.slice KA KK.length kkc) := (HBW.out.cell (p := ⟨bb, oo + k * 4 + 3, none⟩) HBW2.out).trans HG.out.2.2.2
            have hqs : bb < wr.drew.heap.size := Nat.lt_of_lt_of_le HBW2.out HBW.out.size
            refine wp_region_held_drew (S := (fun V => V.cell? ⟨bb, oo + k * 4 + 1, none⟩ = some (.int .i64 n) ∧ V.cell? ⟨bb, oo + k * 4 + 3, none⟩ = some (.slice KA KK.length kkc) ∧ bb < V.heap.size)) (by kernel_rfl) (by exact ⟨hq1, hq3, hqs⟩) (fun hHeld => ?_)
            refine wpAnyH_take (i := 0) (oi := { dst := some 71, op := _, type := _, pos := _, after := _, guard := _ }) (v := ?_) rfl (by kernel_rfl) (by kernel_rfl) (by kernel_rfl) (fun _ _ _ h => h) (Or.inl ⟨by rfl, ?_⟩) hHeld ?_
            rotate_left
            · (intro w hSw; clear hSw; go_simp <;> with_reducible rfl)
            try simp only [Act.put, List.setIfInBounds_toArray, List.set_cons_zero, List.set_cons_succ]
            refine wpAnyH_take (i := 1) (oi := { dst := some 72, op := _, type := _, pos := _, after := _, guard := _ }) (v := ?_) rfl (by kernel_rfl) (by kernel_rfl) (by kernel_rfl) (fun _ _ _ h => h) (Or.inl ⟨by rfl, ?_⟩) hHeld ?_
            rotate_left
            · (intro w hSw; clear hSw; go_simp <;> with_reducible rfl)
            try simp only [Act.put, List.setIfInBounds_toArray, List.set_cons_zero, List.set_cons_succ]
            refine wpAnyH_take (i := 2) (oi := { dst := some 73, op := _, type := _, pos := _, after := _, guard := _ }) (v := ?_) rfl (by kernel_rfl) (by kernel_rfl) (by kernel_rfl) (fun _ _ _ h => h) (Or.inl ⟨by rfl, ?_⟩) hHeld ?_
            rotate_left
            · (intro w hSw; clear hSw; go_simp <;> with_reducible rfl)
            try simp only [Act.put, List.setIfInBounds_toArray, List.set_cons_zero, List.set_cons_succ]
            refine wpAnyH_take (i := 3) (oi := { dst := some 74, op := _, type := _, pos := _, after := _, guard := _ }) (v := ?_) rfl (by kernel_rfl) (by kernel_rfl) (by kernel_rfl) (fun _ _ _ h => h) (Or.inl ⟨by rfl, ?_⟩) hHeld ?_
            rotate_left
            · (intro w hSw; clear hSw; go_simp <;> with_reducible rfl)
            try simp only [Act.put, List.setIfInBounds_toArray, List.set_cons_zero, List.set_cons_succ]
            refine wpAnyH_take (i := 4) (oi := { dst := some 75, op := _, type := _, pos := _, after := _, guard := _ }) (v := ?_) rfl (by kernel_rfl) (by kernel_rfl) (by kernel_rfl) (fun _ _ _ h => h) (Or.inl ⟨by rfl, ?_⟩) hHeld ?_
            rotate_left
            · (intro w hSw; clear hSw; go_simp <;> with_reducible rfl)
            try simp only [Act.put, List.setIfInBounds_toArray, List.set_cons_zero, List.set_cons_succ]
            refine wpAnyH_take (i := 5) (oi := { dst := some 76, op := _, type := _, pos := _, after := _, guard := _ }) (v := ?_) rfl (by kernel_rfl) (by kernel_rfl) (by kernel_rfl) (fun _ _ _ h => h) (Or.inl ⟨by rfl, ?_⟩) hHeld ?_
            rotate_left
            · (intro w hSw; obtain ⟨q1, q3, qs⟩ := (hSw); go_simp <;> with_reducible rfl)
            try simp only [Act.put, List.setIfInBounds_toArray, List.set_cons_zero, List.set_cons_succ]
            refine wpAnyH_take (i := 6) (oi := { dst := some 77, op := _, type := _, pos := _, after := _, guard := _ }) (v := ?_) rfl (by kernel_rfl) (by kernel_rfl) (by kernel_rfl) (fun _ _ _ h => h) (Or.inl ⟨by rfl, ?_⟩) hHeld ?_
            rotate_left
            · (intro w hSw; clear hSw; go_simp <;> with_reducible rfl)
            try simp only [Act.put, List.setIfInBounds_toArray, List.set_cons_zero, List.set_cons_succ]
            refine wpAnyH_take (i := 7) (oi := { dst := some 78, op := _, type := _, pos := _, after := _, guard := _ }) (v := ?_) rfl (by kernel_rfl) (by kernel_rfl) (by kernel_rfl) (fun _ _ _ h => h) (Or.inl ⟨by rfl, ?_⟩) hHeld ?_
            rotate_left
            · (intro w hSw; clear hSw; go_simp <;> with_reducible rfl)
            try simp only [Act.put, List.setIfInBounds_toArray, List.set_cons_zero, List.set_cons_succ]
            refine wpAnyH_take (i := 8) (oi := { dst := some 79, op := _, type := _, pos := _, after := _, guard := _ }) (v := ?_) rfl (by kernel_rfl) (by kernel_rfl) (by kernel_rfl) (fun _ _ _ h => h) (Or.inl ⟨by rfl, ?_⟩) hHeld ?_
            rotate_left
            · (intro w hSw; clear hSw; go_simp <;> with_reducible rfl)
            try simp only [Act.put, List.setIfInBounds_toArray, List.set_cons_zero, List.set_cons_succ]
            refine wpAnyH_take (i := 9) (oi := { dst := some 80, op := _, type := _, pos := _, after := _, guard := _ }) (v := ?_) rfl (by kernel_rfl) (by kernel_rfl) (by kernel_rfl) (fun _ _ _ h => h) (Or.inl ⟨by rfl, ?_⟩) hHeld ?_
            rotate_left
            · (intro w hSw; clear hSw; go_simp <;> with_reducible rfl)
            try simp only [Act.put, List.setIfInBounds_toArray, List.set_cons_zero, List.set_cons_succ]
            refine wpAnyH_take (i := 10) (oi := { dst := some 81, op := _, type := _, pos := _, after := _, guard := _ }) (v := ?_) rfl (by kernel_rfl) (by kernel_rfl) (by kernel_rfl) (fun _ _ _ h => h) (Or.inl ⟨by rfl, ?_⟩) hHeld ?_
            rotate_left
            · (intro w hSw; obtain ⟨q1, q3, qs⟩ := (hSw); go_simp <;> with_reducible rfl)
            try simp only [Act.put, List.setIfInBounds_toArray, List.set_cons_zero, List.set_cons_succ]
            refine wpAnyH_ready (rs := [11]) (by kernel_rfl) (by simp) ?_
            refine AllReadyH.cons (o := { dst := some 82, op := _, type := _, pos := _, after := _, guard := _ }) rfl (fun K hK => ?_) AllReadyH.nil
            go_simp
            refine (HFEW.out _).mono ?_
            rintro e x3 ⟨rfl, hb3⟩
            have hb30 : Below wr.heap.size wr x3 := since_step (Below.refl _ _).drew hb3
            have HB3 := Lib.hid (since_step HBW.out hb30)
            have HD3 := Lib.hid (HD.out.below hb30)
            have hKeep : (fun V => V.cell? ⟨bb, oo + k * 4 + 1, none⟩ = some (.int .i64 n) ∧ V.cell? ⟨bb, oo + k * 4 + 3, none⟩ = some (.slice KA KK.length kkc) ∧ bb < V.heap.size) x3 := ⟨(HB3.out.cell (p := ⟨bb, oo + k * 4 + 1, none⟩) HBW2.out).trans HG.out.2.1, (HB3.out.cell (p := ⟨bb, oo + k * 4 + 3, none⟩) HBW2.out).trans HG.out.2.2.2, Nat.lt_of_lt_of_le HBW2.out HB3.out.size⟩
            have HB30 := Lib.hid hb30
            have hF := dfuse_any n KA kkc KL x3 HD3.out HB3.out.size HKL.out HNB.out.2 (SlF.of_old (HKS.out _ HB3.out) HKA.out HGE.out.1 HGE.out.2)
            have HF := Lib.hid hF
            clear hb3 hb30 hF
            go_wp2_with fail
            refine hK.out _ _ (by (try dsimp only); exact hKeep) (fun hHeld => ?_)
            clear hK K hKeep
            try simp only [Act.put, List.setIfInBounds_toArray, List.set_cons_zero, List.set_cons_succ]
            refine wpAnyH_ready (rs := [12]) (by kernel_rfl) (by simp) ?_
            refine AllReadyH.cons (o := { dst := some 83, op := _, type := _, pos := _, after := _, guard := _ }) rfl (fun K hK => ?_) AllReadyH.nil
            go_simp
            refine HF.out.mono ?_
            rintro e x4 ⟨rfl, hc4, hd4⟩
            have HB4 := Lib.hid (HB3.out.trans (hc4.below HB3.out.size HGE.out.1 HGE.out.2))
            have hKeep : (fun V => V.cell? ⟨bb, oo + k * 4 + 1, none⟩ = some (.int .i64 n) ∧ V.cell? ⟨bb, oo + k * 4 + 3, none⟩ = some (.slice KA KK.length kkc) ∧ bb < V.heap.size) x4 := ⟨(HB4.out.cell (p := ⟨bb, oo + k * 4 + 1, none⟩) HBW2.out).trans HG.out.2.1, (HB4.out.cell (p := ⟨bb, oo + k * 4 + 3, none⟩) HBW2.out).trans HG.out.2.2.2, Nat.lt_of_lt_of_le HBW2.out HB4.out.size⟩
            have HS4 := Lib.hid (ScA.chg2 HD3.out (HSC.out.below HB30.out) hc4)
            have HW4 := Lib.hid ((HWS.out.below HB30.out).chg (chg2_blk8 (v := x.row A c) (s := s) hc4) (fun y hy => .inl hy))
            have HM4 := Lib.hid ((HMS.out.below HB30.out).chg (chg2_blk8 (v := x.row A c) (s := s) hc4) (fun y hy => .inl hy))
            have HD4 := Lib.hid hd4
            clear hc4 hd4 HF
            go_wp2_with fail
            refine hK.out _ _ (by (try dsimp only); exact hKeep) (fun hHeld => ?_)
            clear hK K hKeep
            try simp only [Act.put, List.setIfInBounds_toArray, List.set_cons_zero, List.set_cons_succ]
            refine wpAnyH_done (by kernel_rfl) ?_ _
            go_wp2_with fail
            go_roundw
            case rel => exact ⟨k + 1, life, (d.fuse n KL).1, x, s, A, c, R, WA, wc, RW, MA, mc, RM, by omega, by omega, rfl, rfl, rfl, rfl, by go_num, Lib.hid (by have := HLF.out; omega), HD4, HS4, Lib.hid (HK.out.fuse n KL), HW4, HM4, Lib.hid (by have := HLN.out; exact ⟨by omega, by omega, by omega, this.2.2.2⟩), HB4.out⟩
            case measure => simp [intOf]; omega
          · by_cases hkind2 : kind = 2
            · have hk0 : (kind == 0) = false := by simpa using hkind
              have hk1 : (kind == 1) = false := by simpa using hkind1
              have hk2 : (kind == 2) = true := by simpa using hkind2
              clear hkind hkind1 hkind2
              obtain ⟨l1, hl1⟩ : ∃ l1, life + 1 = l1 := ⟨_, rfl⟩
              have hwl1 : IntKind.i64.wrap ((life : Int) + 1) = (l1 : Int) := by have := HLF.out; rw [IntKind.wrap_i64]; omega
              obtain ⟨X, q, hX, hscan, hnew, hkn⟩ := HK.out.open hl1
              have HL1 := Lib.hid hl1
              have HST := Lib.hid (dstart_any wr HD.out)
              have HNEW := Lib.hid hnew
              have HSCAN := Lib.hid hscan
              have HKN := Lib.hid hkn
              have HXC := Lib.hid hX
              clear hl1 hscan hnew hkn hX
              go_wp2_with fail
              refine HST.out.mono ?_
              rintro e x1 ⟨rfl, hc1, K1, kc1, hd1⟩
              have HB1 := Lib.hid (HBW.out.trans (hc1.below HBW.out.size HGE.out.1 HGE.out.2))
              have HD1 := Lib.hid hd1
              have HW1 := Lib.hid (HWS.out.chg (chg2_blk8 (v := x.row A c) (s := s) hc1) (fun y hy => .inl hy))
              have HM1 := Lib.hid (HMS.out.chg (chg2_blk8 (v := x.row A c) (s := s) hc1) (fun y hy => .inl hy))
              have hO := sopen_new 2 30 (l1 : Int) 7 x1 HD1.out HB1.out.size (by decide) (by rw [show d.fresh.S = d.S from rfl, HK.out.len]; decide) (by have := HL1.out; omega) (by have := HL1.out; have := HLF.out; omega) (by decide) (by decide) (by rw [show d.fresh.S = d.S from rfl]; exact HNEW.out)
              rw [show d.fresh.S = d.S from rfl, HSCAN.out] at hO
              simp only at hO
              have HOP := Lib.hid hO
              clear hc1 hd1 hO HST HDW HD HSC HWS HMS HNEW
              go_wp2_with fail
              refine HOP.out.mono ?_
              rintro e x2 ⟨s2, A2, c2, R2, rfl, hs2, hb2, hsz2, hrow2⟩
              have HB2 := Lib.hid (since_step HB1.out hb2)
              have HD2 := Lib.hid (HD1.out.below hb2)
              have HS2 := Lib.hid hs2
              have HW2 := Lib.hid (HW1.out.chg (ChgL.of_below hb2) (blk8_new hsz2 hrow2))
              have HM2 := Lib.hid (HM1.out.chg (ChgL.of_below hb2) (blk8_new hsz2 hrow2))
              have HXL : Hid (X.length ≤ k ∧ (∀ y ∈ X, y.length ≤ 250)) := Lib.hid (by
                have h := HLN.out
                rcases HXC.out with e | e
                · rw [e]; exact ⟨by rw [List.length_map]; omega, fun y hy => by obtain ⟨r, hr, rfl⟩ := List.mem_map.1 hy; exact h.2.2.2.1 r hr⟩
                · rw [e]; exact ⟨by rw [List.length_map]; omega, fun y hy => by obtain ⟨r, hr, rfl⟩ := List.mem_map.1 hy; exact h.2.2.2.2 r hr⟩)
              have HRL : Hid (∀ r ∈ R2, r.l.length ≤ 250) := Lib.hid (fun r hr => HXL.out.2 r.l (by have h : R2.map RowS.l = X := HS2.out.map; rw [← h]; exact List.mem_map.2 ⟨r, hr, rfl⟩))
              clear hs2 hb2 hsz2 hrow2 HOP HW1 HM1 HD1
              have HRC3 := Lib.hid (srecords_any x2 HS2.out (fun r hr => by have := HRL.out r hr; omega))
              go_wp2_with fail
              refine HRC3.out.mono ?_
              rintro e x3 ⟨⟨A3, c3, S3, rfl, own3, map3, or3⟩, hb3⟩
              have HB3 := Lib.hid (since_step HB2.out hb3)
              have HD3 := Lib.hid (HD2.out.below hb3)
              have HS3 := Lib.hid (HS2.out.below hb3)
              have HW3 := Lib.hid (HW2.out.below hb3)
              have HM3 := Lib.hid (HM2.out.below hb3)
              have HO3 := Lib.hid own3
              have HMP3 := Lib.hid (show S3.map RowS.l = X from map3)
              have HOR3 := Lib.hid or3
              have HSN3 : Hid (S3.length ≤ k ∧ ∀ r ∈ S3, r.l.length ≤ 250) := Lib.hid ⟨by rw [← List.length_map (f := RowS.l), HMP3.out]; exact HXL.out.1, fun r hr => HXL.out.2 r.l (by rw [← HMP3.out]; exact List.mem_map.2 ⟨r, hr, rfl⟩)⟩
              clear own3 map3 or3 hb3 HRC3
              by_cases hxw : X = RW.map RowS.l
              · have hSM := rsame8_any A3 WA c3 wc S3 RW x3 (by have := HSN3.out; omega) (by have := HLN.out; omega) (Sl.of_own HO3.out) HW3.out.1.sl (fun r hr => ⟨Sl.of_own (HOR3.out r hr), by have := HSN3.out.2 r hr; omega⟩) (fun r hr => ⟨(HW3.out.2 r hr).sl, by have := HLN.out.2.2.2.1 r hr; omega⟩)
                rw [HMP3.out, decide_eq_true hxw] at hSM
                have HSM4 := Lib.hid hSM
                clear hSM
                go_wp2_with fail
                refine HSM4.out.mono ?_
                rintro e x4 ⟨rfl, hb4⟩
                have HB4 := Lib.hid (since_step HB3.out hb4)
                have HD4 := Lib.hid (HD3.out.below hb4)
                have HS4 := Lib.hid (HS3.out.below hb4)
                have HW4 := Lib.hid (HW3.out.below hb4)
                have HM4 := Lib.hid (HM3.out.below hb4)
                clear hb4 HSM4
                have HRC5 := Lib.hid (srecords_any x4 HS4.out (fun r hr => by have := HRL.out r hr; omega))
                go_wp2_with fail
                refine HRC5.out.mono ?_
                rintro e x5 ⟨⟨A5, c5, S5, rfl, own5, map5, or5⟩, hb5⟩
                have HB5 := Lib.hid (since_step HB4.out hb5)
                have HD5 := Lib.hid (HD4.out.below hb5)
                have HS5 := Lib.hid (HS4.out.below hb5)
                have HW5 := Lib.hid (HW4.out.below hb5)
                have HM5 := Lib.hid (HM4.out.below hb5)
                have HO5 := Lib.hid own5
                have HMP5 := Lib.hid (show S5.map RowS.l = X from map5)
                have HOR5 := Lib.hid or5
                have HSN5 : Hid (S5.length ≤ k ∧ ∀ r ∈ S5, r.l.length ≤ 250) := Lib.hid ⟨by rw [← List.length_map (f := RowS.l), HMP5.out]; exact HXL.out.1, fun r hr => HXL.out.2 r.l (by rw [← HMP5.out]; exact List.mem_map.2 ⟨r, hr, rfl⟩)⟩
                clear own5 map5 or5 hb5 HRC5
                have HRX : Hid (RowsX (blk8 b g s2 (Sc.row ⟨2, 30, (l1 : Int), 7, X, q - 2, false⟩ A2 c2)) x5 A5 S5) := Lib.hid (RowsX.own HO5.out HOR5.out (fun y hy => (fun h => ⟨h, h⟩) (blk8_lt HD4.out HS4.out y hy)))
                have HKF : Hid (K8 d.fresh ⟨2, 30, (l1 : Int), 7, X, q - 2, false⟩ l1 (S5.map RowS.l) (S5.map RowS.l)) := Lib.hid (by rw [HMP5.out]; exact HKN.out)
                go_wp2_with fail
                go_roundw
                case rel => exact ⟨k + 1, l1, d.fresh, ⟨2, 30, (l1 : Int), 7, X, q - 2, false⟩, s2, A2, c2, R2, A5, c5, S5, A5, c5, S5, by omega, by omega, rfl, rfl, rfl, rfl, by go_num, Lib.hid (by have := HLF.out; have := HL1.out; omega), ⟨_, _, HD5.out⟩, HS5, HKF, HRX, HRX, Lib.hid ⟨by have := HSN5.out.1; omega, by have := HSN5.out.1; omega, by show X.length ≤ _; have := HXL.out.1; omega, HSN5.out.2, HSN5.out.2⟩, HB5.out⟩
                case measure => simp [intOf]; omega
              · have hSM := rsame8_any A3 WA c3 wc S3 RW x3 (by have := HSN3.out; omega) (by have := HLN.out; omega) (Sl.of_own HO3.out) HW3.out.1.sl (fun r hr => ⟨Sl.of_own (HOR3.out r hr), by have := HSN3.out.2 r hr; omega⟩) (fun r hr => ⟨(HW3.out.2 r hr).sl, by have := HLN.out.2.2.2.1 r hr; omega⟩)
                rw [HMP3.out, decide_eq_false hxw] at hSM
                have HSM4 := Lib.hid hSM
                clear hSM
                go_wp2_with fail
                refine HSM4.out.mono ?_
                rintro e x4 ⟨rfl, hb4⟩
                have HB4 := Lib.hid (since_step HB3.out hb4)
                have HD4 := Lib.hid (HD3.out.below hb4)
                have HS4 := Lib.hid (HS3.out.below hb4)
                have HW4 := Lib.hid (HW3.out.below hb4)
                have HM4 := Lib.hid (HM3.out.below hb4)
                clear hb4 HSM4
                have HRC5 := Lib.hid (srecords_any x4 HS4.out (fun r hr => by have := HRL.out r hr; omega))
                go_wp2_with fail
                refine HRC5.out.mono ?_
                rintro e x5 ⟨⟨A5, c5, S5, rfl, own5, map5, or5⟩, hb5⟩
                have HB5 := Lib.hid (since_step HB4.out hb5)
                have HD5 := Lib.hid (HD4.out.below hb5)
                have HS5 := Lib.hid (HS4.out.below hb5)
                have HW5 := Lib.hid (HW4.out.below hb5)
                have HM5 := Lib.hid (HM4.out.below hb5)
                have HO5 := Lib.hid own5
                have HMP5 := Lib.hid (show S5.map RowS.l = X from map5)
                have HOR5 := Lib.hid or5
                have HSN5 : Hid (S5.length ≤ k ∧ ∀ r ∈ S5, r.l.length ≤ 250) := Lib.hid ⟨by rw [← List.length_map (f := RowS.l), HMP5.out]; exact HXL.out.1, fun r hr => HXL.out.2 r.l (by rw [← HMP5.out]; exact List.mem_map.2 ⟨r, hr, rfl⟩)⟩
                clear own5 map5 or5 hb5 HRC5
                have hxm : X = RM.map RowS.l := by
                  rcases HXC.out with h1 | h1
                  · exact absurd h1 hxw
                  · exact h1
                have hSM := rsame8_any A5 MA c5 mc S5 RM x5 (by have := HSN5.out; omega) (by have := HLN.out; omega) (Sl.of_own HO5.out) HM5.out.1.sl (fun r hr => ⟨Sl.of_own (HOR5.out r hr), by have := HSN5.out.2 r hr; omega⟩) (fun r hr => ⟨(HM5.out.2 r hr).sl, by have := HLN.out.2.2.2.2 r hr; omega⟩)
                rw [HMP5.out, decide_eq_true hxm] at hSM
                have HSM6 := Lib.hid hSM
                clear hSM
                go_wp2_with fail
                refine HSM6.out.mono ?_
                rintro e x6 ⟨rfl, hb6⟩
                have HB6 := Lib.hid (since_step HB5.out hb6)
                have HD6 := Lib.hid (HD5.out.below hb6)
                have HS6 := Lib.hid (HS5.out.below hb6)
                have HW6 := Lib.hid (HW5.out.below hb6)
                have HM6 := Lib.hid (HM5.out.below hb6)
                clear hb6 HSM6
                have HRC7 := Lib.hid (srecords_any x6 HS6.out (fun r hr => by have := HRL.out r hr; omega))
                go_wp2_with fail
                refine HRC7.out.mono ?_
                rintro e x7 ⟨⟨A7, c7, S7, rfl, own7, map7, or7⟩, hb7⟩
                have HB7 := Lib.hid (since_step HB6.out hb7)
                have HD7 := Lib.hid (HD6.out.below hb7)
                have HS7 := Lib.hid (HS6.out.below hb7)
                have HW7 := Lib.hid (HW6.out.below hb7)
                have HM7 := Lib.hid (HM6.out.below hb7)
                have HO7 := Lib.hid own7
                have HMP7 := Lib.hid (show S7.map RowS.l = X from map7)
                have HOR7 := Lib.hid or7
                have HSN7 : Hid (S7.length ≤ k ∧ ∀ r ∈ S7, r.l.length ≤ 250) := Lib.hid ⟨by rw [← List.length_map (f := RowS.l), HMP7.out]; exact HXL.out.1, fun r hr => HXL.out.2 r.l (by rw [← HMP7.out]; exact List.mem_map.2 ⟨r, hr, rfl⟩)⟩
                clear own7 map7 or7 hb7 HRC7
                have HRX : Hid (RowsX (blk8 b g s2 (Sc.row ⟨2, 30, (l1 : Int), 7, X, q - 2, false⟩ A2 c2)) x7 A7 S7) := Lib.hid (RowsX.own HO7.out HOR7.out (fun y hy => (fun h => ⟨h, h⟩) (blk8_lt HD6.out HS6.out y hy)))
                have HKF : Hid (K8 d.fresh ⟨2, 30, (l1 : Int), 7, X, q - 2, false⟩ l1 (S7.map RowS.l) (S7.map RowS.l)) := Lib.hid (by rw [HMP7.out]; exact HKN.out)
                go_wp2_with fail
                go_roundw
                case rel => exact ⟨k + 1, l1, d.fresh, ⟨2, 30, (l1 : Int), 7, X, q - 2, false⟩, s2, A2, c2, R2, A7, c7, S7, A7, c7, S7, by omega, by omega, rfl, rfl, rfl, rfl, by go_num, Lib.hid (by have := HLF.out; have := HL1.out; omega), ⟨_, _, HD7.out⟩, HS7, HKF, HRX, HRX, Lib.hid ⟨by have := HSN7.out.1; omega, by have := HSN7.out.1; omega, by show X.length ≤ _; have := HXL.out.1; omega, HSN7.out.2, HSN7.out.2⟩, HB7.out⟩
                case measure => simp [intOf]; omega
            · have hk0 : (kind == 0) = false := by simpa using hkind
              have hk1 : (kind == 1) = false := by simpa using hkind1
              have hk2 : (kind == 2) = false := by simpa using hkind2
              clear hkind hkind1 hkind2
              go_wp2_with fail
              go_roundw
              case rel => exact ⟨k + 1, life, d, x, s, A, c, R, WA, wc, RW, MA, mc, RM, by omega, by omega, rfl, rfl, rfl, rfl, by go_num, Lib.hid (by have := HLF.out; omega), ⟨_, _, HD.out⟩, HSC, HK, HWS, HMS, Lib.hid (by have := HLN.out; exact ⟨by omega, by omega, by omega, this.2.2.2⟩), HBW.out⟩
              case measure => simp [intOf]; omega
      · obtain rfl : k = 40 := by omega
        have hlk1 : (40 : Int) < (L.length : Int) := by omega
        have hlk2 : ¬ (((40 : Nat) : Int) < 40) := by omega
        have hlk3 : ¬ ((40 : Int) < 40) := by omega
        go_wp2_with fail
        refine (HLV.out _).mono ?_
        rintro e v9 ⟨rfl, hb9⟩
        have hB9 := since_step hBW hb9
        go_wp2_with fail
        go_ret
        exact ⟨rfl, hB9⟩
    · obtain rfl : k = L.length := by omega
      have hlk1 : ¬ (L.length : Int) < (L.length : Int) := by omega
      go_wp2_with fail
      refine (HLV.out _).mono ?_
      rintro e v9 ⟨rfl, hb9⟩
      have hB9 := since_step hBW hb9
      go_wp2_with fail
      go_ret
      exact ⟨rfl, hB9⟩
end Go.Proofs.Ytiggcpfmmgmncaa
end
