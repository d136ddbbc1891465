import Derived.Test.YtiggcpfmmgmncaaVp27
import Derived.Test.YtiggcpfmmgmncaaVp28
set_option maxHeartbeats 16000000
set_option maxRecDepth 100000
set_option linter.unusedVariables false
set_option linter.unusedSimpArgs false
namespace Go.Proofs.Ytiggcpfmmgmncaa
open Go.ChangeShapes Go.WideShapes Go.ChangeAt Go.RowKit
section
theorem ERF : Elem Try.prog 135 111 6 64 := Elem.mk' (z := .agg #[.int .i64 0, .int .i64 0, .int .i64 0, .int .i64 0, .int .i64 0, .slice none 0 0]) (by kernel_rfl) (by kernel_rfl) (by decide) (by decide)
theorem frD_dec {S : List (List Nat)} {k : Nat} (hk : k < S.length) : frD S (k : Int) = if (decF S[k]).2 = 0 then some (decF S[k]).1 else none := by
  rw [frD_at hk]; rfl
theorem rdec_sec {B b c kc : Nat} {A KA : Option Addr} {R : List (RowS Nat)} {x : Rv} {w : World} (h : RvA B w b A c R KA kc x) {k : Nat} (hk : k < x.C.length) : ∃ (g o : Nat) (sa : Option Addr) (sc : Nat), A = some ⟨g, o, none⟩ ∧ g < w.heap.size ∧ w.cell? ⟨g, o + k, none⟩ = some (.slice sa 96 sc) ∧
    ∀ V, Below w.heap.size w V → Calls Try.prog 63 #[.slice sa 96 sc] V fun e w' => DRes V.heap.size w' e (decF x.C[k]) ∧ Below V.heap.size V w' := by
  obtain ⟨g, o, r, h1, h2, h3, h4, h5, h6, h7, h8, h9⟩ := h.sec hk
  refine ⟨g, o, r.A, r.c, h1, h2, h3, fun V hV => ?_⟩
  have := rdec7_any r.A r.c r.l V (by rw [h7]; exact h8) h9 (h5.below hV) h6
  rw [h7, h4] at this
  exact this
theorem rnewest8_any {B b c kc : Nat} {A KA : Option Addr} {R : List (RowS Nat)} {x : Rv} (f t : Nat) (w : World) (h : RvA B w b A c R KA kc x) (hft : f ≤ t) (ht : t ≤ x.C.length) :
    Calls Try.prog 24 #[.pointer (some ⟨b, 0, none⟩), .int .i64 f, .int .i64 t] w fun e w' => e = .returned (.int .i64 (newestN x.C f (t - f))) ∧ Below w.heap.size w w' := by
  have HR := Lib.hid (fun V (hV : Below w.heap.size w V) => h.below hV)
  have HSM := Lib.hid h.small.1
  have HT := Lib.hid ht
  obtain ⟨S, hS⟩ : ∃ S, x.C = S := ⟨_, rfl⟩
  obtain ⟨res, hres⟩ : ∃ r, newestN x.C f (t - f) = r := ⟨_, rfl⟩
  have HRES := Lib.hid hres
  rw [hres]
  clear h ht hS hres
  go_enter Try.func24, Try.ntmps24
  go_wp2_with fail
  go_loopw [7, 8] (fun mv iv wr => ∃ (j : Nat) (m : Int), f + j ≤ t ∧ mv = .int .i64 m ∧ iv = .int .i64 ((f + j : Nat) : Int) ∧ Hid (m = newestN x.C f j) ∧ Below w.heap.size w wr) (fun _ iv _ => t - (intOf iv).toNat)
  case atStart => exact ⟨0, 0, hft, rfl, rfl, rfl, Below.refl _ _⟩
  case round =>
    obtain ⟨j, m, hj, rfl, rfl, HM, hB⟩ := hrel
    obtain ⟨q, hq⟩ : ∃ q, f + j = q := ⟨_, rfl⟩
    rw [hq] at hj ⊢
    have HQ := Lib.hid hq
    clear hq
    have hqb : q ≤ 2048 := by have := HSM.out; have := HT.out; omega
    by_cases hlt : q < t
    · have hlk : (q : Int) < (t : Int) := by omega
      have hgk : (0 : Int) ≤ (q : Int) := by omega
      have hgk2 : (q : Int) < (x.C.length : Int) := by have := HT.out; omega
      have hqC : q < x.C.length := by have := HT.out; omega
      have HRV := Lib.hid (HR.out _ hB)
      obtain ⟨g, o, sa, sc, hA, hg, hcS, hdec⟩ := rdec_sec HRV.out hqC
      have HDEC := Lib.hid (hdec wr (Below.refl _ _))
      obtain ⟨p0, p1, p2, p3, p4, ps⟩ := HRV.out.got
      have hfr := frD_dec hqC
      obtain ⟨⟨F, z⟩, hF⟩ : ∃ F, decF x.C[q] = F := ⟨_, rfl⟩
      rw [hF] at HDEC hfr
      simp only at hfr
      have hnx : newestN x.C f (j + 1) = match frD x.C (q : Int) with | none => newestN x.C f j | some y => if newestN x.C f j < y.life then y.life else newestN x.C f j := by
        rw [← HQ.out]; rfl
      rw [hfr] at hnx
      have HNX := Lib.hid hnx
      subst hA
      clear hdec hF hfr hnx hqC
      obtain ⟨l0, e0, s0, r0, n0, fd⟩ := F
      go_wp2_with fail
      refine HDEC.out.mono ?_
      rintro e w2 ⟨⟨A2, c2, rfl, own2⟩, hb2⟩
      have hB2 := since_step hB hb2
      have HB2 := Lib.hid hB2
      unfold Fr.val
      simp only
      clear p0 p1 p2 p3 p4 ps own2 hb2 hcS hg HDEC hB2 HRV
      obtain ⟨fl, hfl⟩ : ∃ fl, fd.length = fl := ⟨_, rfl⟩
      rw [hfl]
      clear hfl
      by_cases hz : z = 0
      · rw [if_pos hz] at HNX
        have hzb : (z == 0) = true := by simpa using hz
        clear hz
        simp only at HNX
        by_cases hm : m < l0
        · have HM2 : Hid (l0 = newestN x.C f (j + 1)) := Lib.hid (by rw [HNX.out, ← HM.out, if_pos hm])
          clear HNX
          go_wp2_with fail
          go_roundw
          case rel => exact ⟨j + 1, l0, by have := HQ.out; omega, rfl, by rw [show f + (j + 1) = q + 1 by have := HQ.out; omega]; go_num, HM2, since_alloc HB2.out _⟩
          case measure => simp [intOf]; omega
        · have HM2 : Hid (m = newestN x.C f (j + 1)) := Lib.hid (by rw [HNX.out, ← HM.out, if_neg hm])
          clear HNX
          go_wp2_with fail
          go_roundw
          case rel => exact ⟨j + 1, m, by have := HQ.out; omega, rfl, by rw [show f + (j + 1) = q + 1 by have := HQ.out; omega]; go_num, HM2, since_alloc HB2.out _⟩
          case measure => simp [intOf]; omega
      · rw [if_neg hz] at HNX
        have hzb : (z == 0) = false := by simpa using hz
        clear hz
        simp only at HNX
        have HM2 : Hid (m = newestN x.C f (j + 1)) := Lib.hid (by rw [HNX.out, ← HM.out])
        clear HNX
        go_wp2_with fail
        go_roundw
        case rel => exact ⟨j + 1, m, by have := HQ.out; omega, rfl, by rw [show f + (j + 1) = q + 1 by have := HQ.out; omega]; go_num, HM2, since_alloc HB2.out _⟩
        case measure => simp [intOf]; omega
    · obtain rfl : q = t := by omega
      have hlk : ¬ ((q : Int) < (q : Int)) := by omega
      have HFIN : Hid (m = res) := Lib.hid (by rw [HM.out, ← HRES.out, show q - f = j by have := HQ.out; omega])
      go_wp2_with fail
      go_ret
      rw [HFIN.out]
      exact ⟨rfl, hB⟩
theorem readF_fr {S : List (List Nat)} {q t : Int} {b : List Nat} {f g : Fr} (h : readF S q t = some (b, f)) (hg : frD S q = some g) : f = g := by
  have := (readF_iff.1 h).2.1
  rw [hg] at this
  exact (Option.some.inj this).symm
theorem rread8_any {B b c kc : Nat} {A KA : Option Addr} {R : List (RowS Nat)} {x : Rv} (f0 t : Nat) (era : Int) (w : World) (h : RvA B w b A c R KA kc x) (hft : f0 ≤ t) (ht : t ≤ x.C.length) :
    Calls Try.prog 53 #[.pointer (some ⟨b, 0, none⟩), .int .i64 f0, .int .i64 t, .int .i64 era] w fun e w' => (∃ (A' : Option Addr) (c' : Nat) (S : List (RowS Nat)), e = .returned (.tuple #[.slice A' S.length c', .int .i64 (((scan x.C t era f0 0 0).2 - f0 : Nat) : Int)]) ∧ w'.ownsRow w.heap.size 36 1 (.slice A' S.length c') S.length (rc RowS.cells S) ∧ S.map RowS.l = (scan x.C t era f0 0 0).1 ∧ OwnR w.heap.size w' S) ∧ Below w.heap.size w w' := by
  have HR := Lib.hid (fun V (hV : Below w.heap.size w V) => h.below hV)
  have HSM := Lib.hid h.small.1
  have HT := Lib.hid ht
  obtain ⟨T, hT⟩ : ∃ T, scan x.C t era f0 0 0 = T := ⟨_, rfl⟩
  have HT0 := Lib.hid hT
  rw [hT]
  clear h ht hT
  go_enter Try.func53, Try.ntmps53
  go_wp2_with fail
  go_loopw [10, 11, 12, 13] (fun ov qv lv nv wr => ∃ (q : Nat) (OA : Option Addr) (oc : Nat) (OS : List (RowS Nat)) (L : List (List Nat)) (life : Int), f0 ≤ q ∧ q ≤ t ∧ ov = .slice OA OS.length oc ∧ qv = .int .i64 q ∧ lv = .int .i64 life ∧ nv = .int .i64 ((L.length + 1 : Nat) : Int) ∧ Hid (OS.length = L.length ∧ OS.map RowS.l = L ∧ L.length ≤ q - f0) ∧ Hid (T = (L ++ (scan x.C t era q L.length life).1, (scan x.C t era q L.length life).2)) ∧ Hid (wr.ownsRow w.heap.size 36 1 (.slice OA OS.length oc) OS.length (rc RowS.cells OS)) ∧ Hid (OwnR w.heap.size wr OS) ∧ Below w.heap.size w wr) (fun _ qv _ _ _ => t - (intOf qv).toNat)
  case atStart => exact ⟨f0, none, 0, [], [], 0, Nat.le_refl _, hft, rfl, rfl, rfl, rfl, ⟨rfl, rfl, Nat.zero_le _⟩, Lib.hid (by rw [← HT0.out]; rfl), own_nil _ _ _, (fun r hr => by cases hr), Below.refl _ _⟩
  case round =>
    obtain ⟨q, OA, oc, OS, L, life, hq0, hqt, rfl, rfl, rfl, rfl, HOS, HTE, HOO, HOR, hB⟩ := hrel
    have hqb : q ≤ 2048 := by have := HSM.out; have := HT.out; omega
    obtain ⟨nx, hnx⟩ : ∃ nx, L.length + 1 = nx := ⟨_, rfl⟩
    have HNX := Lib.hid hnx
    rw [hnx]
    have hnb : nx ≤ 2100 := by have := HOS.out.2.2; omega
    clear hnx
    have hwq : IntKind.i64.wrap ((q : Int) - (f0 : Int)) = ((q - f0 : Nat) : Int) := by rw [IntKind.wrap_i64]; omega
    obtain ⟨qf, hqf⟩ : ∃ qf, q - f0 = qf := ⟨_, rfl⟩
    have HQF := Lib.hid hqf
    rw [hqf] at hwq
    clear hqf
    by_cases hlt : q < t
    · have hlk : (q : Int) < (t : Int) := by omega
      have hgk : (0 : Int) ≤ (q : Int) := by omega
      have hgk2 : (q : Int) < (x.C.length : Int) := by have := HT.out; omega
      have hqC : q < x.C.length := by have := HT.out; omega
      have HRV := Lib.hid (HR.out _ hB)
      obtain ⟨g, o, sa, sc, hA, hg, hcS, hdec⟩ := rdec_sec HRV.out hqC
      have HDEC := Lib.hid (hdec wr (Below.refl _ _))
      obtain ⟨p0, p1, p2, p3, p4, ps⟩ := HRV.out.got
      have hfr := frD_dec hqC
      obtain ⟨⟨F, z⟩, hF⟩ : ∃ F, decF x.C[q] = F := ⟨_, rfl⟩
      rw [hF] at HDEC hfr
      simp only at hfr
      have HFR := Lib.hid hfr
      have HB := Lib.hid hB
      subst hA
      clear hdec hF hfr hB
      obtain ⟨l0, e0, s0, r0, n0, fd⟩ := F
      go_wp2_with fail
      refine HDEC.out.mono ?_
      rintro e w2 ⟨⟨A2, c2, rfl, own2⟩, hb2⟩
      have HB2 := Lib.hid (since_step HB.out hb2)
      have HOO2 := Lib.hid (own_below HOO.out hb2)
      have HOR2 := Lib.hid (HOR.out.below hb2)
      unfold Fr.val
      simp only
      clear p0 p1 p2 p3 p4 ps own2 hb2 hcS hg HDEC HRV HB HOO HOR
      obtain ⟨fl, hfl⟩ : ∃ fl, fd.length = fl := ⟨_, rfl⟩
      rw [hfl]
      clear hfl
      by_cases hz : z = 0
      · rw [if_pos hz] at HFR
        have hzb : (z != 0) = false := by simpa using hz
        clear hz
        have hok := (Fr.ok_iff _).1 (frD_some HFR.out).2.2.2
        simp only at hok
        have HOK := Lib.hid hok
        have hn255 : 1 ≤ n0 ∧ n0 ≤ 255 := ⟨hok.2.2.2.2.2.2.1, hok.2.2.2.2.2.2.2.1⟩
        have hwt : IntKind.i64.wrap ((t : Int) - (q : Int)) = (t : Int) - (q : Int) := by have := HT.out; have := HSM.out; rw [IntKind.wrap_i64]; omega
        clear hok
        by_cases c1 : e0 = era
        · have d1 : (e0 != era) = false := by simpa using c1
          by_cases c2_ : s0 = (nx : Int)
          · have d2 : (s0 != (nx : Int)) = false := by simpa using c2_
            by_cases c3 : l0 < life
            · have d3 : decide (l0 < life) = true := decide_eq_true c3
              have hst : scan x.C t era q L.length life = ([], q) := scan_stop (fun b2 f2 hr ⟨_, _, h3⟩ => by have e9 := readF_fr hr HFR.out; subst e9; simp only at h3; omega)
              have hT := HTE.out
              rw [hst] at hT
              simp only [List.append_nil] at hT
              have HSTOP := Lib.hid (show T.2 - f0 = q - f0 ∧ T.1 = L from by rw [hT]; exact ⟨rfl, rfl⟩)
              clear hst hT
              clear c1 c2_
              have HX1 := Lib.hid (own_below HOO2.out (since_alloc (Below.refl _ w2) (.cells #[.int .i64 l0, .int .i64 e0, .int .i64 s0, .int .i64 r0, .int .i64 n0, .slice A2 fl c2] 111)))
              have HX2 := Lib.hid (HOR2.out.below (since_alloc (Below.refl _ w2) (.cells #[.int .i64 l0, .int .i64 e0, .int .i64 s0, .int .i64 r0, .int .i64 n0, .slice A2 fl c2] 111)))
              have HX3 := Lib.hid (since_alloc HB2.out (.cells #[.int .i64 l0, .int .i64 e0, .int .i64 s0, .int .i64 r0, .int .i64 n0, .slice A2 fl c2] 111))
              go_wp2_with fail
              go_ret2
              exact ⟨⟨OA, oc, OS, by rw [HSTOP.out.1, HQF.out]; rfl, HX1.out, by rw [HOS.out.2.1, HSTOP.out.2], HX2.out⟩, HX3.out⟩
            · have d3 : decide (l0 < life) = false := decide_eq_false c3
              by_cases c4 : (t : Int) - (q : Int) < n0
              · have d4 : decide ((t : Int) - (q : Int) < n0) = true := decide_eq_true c4
                have hst : scan x.C t era q L.length life = ([], q) := scan_stop (fun b2 f2 hr _ => by rw [readF_long HFR.out c4] at hr; cases hr)
                have hT := HTE.out
                rw [hst] at hT
                simp only [List.append_nil] at hT
                have HSTOP := Lib.hid (show T.2 - f0 = q - f0 ∧ T.1 = L from by rw [hT]; exact ⟨rfl, rfl⟩)
                clear hst hT
                clear c1 c2_
                have HX1 := Lib.hid (own_below HOO2.out (since_alloc (Below.refl _ w2) (.cells #[.int .i64 l0, .int .i64 e0, .int .i64 s0, .int .i64 r0, .int .i64 n0, .slice A2 fl c2] 111)))
                have HX2 := Lib.hid (HOR2.out.below (since_alloc (Below.refl _ w2) (.cells #[.int .i64 l0, .int .i64 e0, .int .i64 s0, .int .i64 r0, .int .i64 n0, .slice A2 fl c2] 111)))
                have HX3 := Lib.hid (since_alloc HB2.out (.cells #[.int .i64 l0, .int .i64 e0, .int .i64 s0, .int .i64 r0, .int .i64 n0, .slice A2 fl c2] 111))
                go_wp2_with fail
                go_ret2
                exact ⟨⟨OA, oc, OS, by rw [HSTOP.out.1, HQF.out]; rfl, HX1.out, by rw [HOS.out.2.1, HSTOP.out.2], HX2.out⟩, HX3.out⟩
              · have d4 : decide ((t : Int) - (q : Int) < n0) = false := decide_eq_false c4
                obtain ⟨N, hN⟩ : ∃ N : Nat, n0 = (N : Int) := ⟨n0.toNat, by omega⟩
                subst hN
                have HN := Lib.hid (show 1 ≤ N ∧ N ≤ 255 ∧ q + N ≤ t by omega)
                have HC := Lib.hid (show e0 = era ∧ s0 = (nx : Int) ∧ ¬ l0 < life ∧ ¬ (t : Int) - (q : Int) < (N : Int) from ⟨c1, c2_, c3, c4⟩)
                have HFC := Lib.hid (show (w2.alloc (.cells #[.int .i64 l0, .int .i64 e0, .int .i64 s0, .int .i64 r0, .int .i64 (N : Int), .slice A2 fl c2] 111)).heap[w2.heap.size]? = some (.cells #[.int .i64 l0, .int .i64 e0, .int .i64 s0, .int .i64 r0, .int .i64 (N : Int), .slice A2 fl c2] 111 (0, 0)) by rw [heap_alloc_new])
                have HBT := Lib.hid (show ∀ V, Below (w2.heap.size + 1) (w2.alloc (.cells #[.int .i64 l0, .int .i64 e0, .int .i64 s0, .int .i64 r0, .int .i64 (N : Int), .slice A2 fl c2] 111)) V → V.heap[w2.heap.size]? = some (.cells #[.int .i64 l0, .int .i64 e0, .int .i64 s0, .int .i64 r0, .int .i64 (N : Int), .slice A2 fl c2] 111 (0, 0)) from fun V hV => by rw [hV.block w2.heap.size (Nat.lt_succ_self _)]; exact HFC.out)
                clear c1 c2_ c3 c4 hn255
                go_wp2_with fail
                go_loopw [16, 17] (fun bv iv wr => ∃ (j : Nat) (LA : Option Addr) (lc : Nat) (H : List Fh), j ≤ N ∧ H.length = j ∧ bv = .slice LA H.length lc ∧ iv = .int .i64 j ∧ Hid (takeF x.C q j = some (H.map Fh.f)) ∧ Hid (wr.ownsRow (w2.heap.size + 1) 111 6 (.slice LA H.length lc) H.length (rc Fh.cells H)) ∧ Hid (OwnF (w2.heap.size + 1) wr H) ∧ Hid (Below (w2.heap.size + 1) (w2.alloc (.cells #[.int .i64 l0, .int .i64 e0, .int .i64 s0, .int .i64 r0, .int .i64 (N : Int), .slice A2 fl c2] 111)) wr)) (fun _ iv _ => N - (intOf iv).toNat)
                case atStart => exact ⟨0, none, 0, [], Nat.zero_le _, rfl, rfl, rfl, rfl, own_nil _ _ _, (fun s hs => by cases hs), Below.refl _ _⟩
                case round =>
                  obtain ⟨j, LA, lc, H, hjN, hHj, rfl, rfl, HTK, HOWN, HOWF, HBR⟩ := hrel
                  rw [hHj] at HOWN ⊢
                  have HHJ := Lib.hid hHj
                  clear hHj
                  have y0 := (box_cells' (HBT.out _ HBR.out) 0).1
                  have y4 := (box_cells' (HBT.out _ HBR.out) 4).1
                  have hltb := (box_cells' (HBT.out _ HBR.out) 0).2.2
                  simp only [List.getElem?_toArray, List.getElem?_cons_zero, List.getElem?_cons_succ] at y0 y4
                  have hBW : Below w2.heap.size w2 wr := (since_alloc (Below.refl _ w2) _).trans (HBR.out.mono (Nat.le_succ _))
                  have HBW := Lib.hid (since_step HB2.out hBW)
                  by_cases hlt2 : j < N
                  · have hlk2 : (j : Int) < (N : Int) := by omega
                    have hwj : IntKind.i64.wrap ((q : Int) + (j : Int)) = ((q + j : Nat) : Int) := by have := HN.out; rw [IntKind.wrap_i64]; omega
                    have hN255 : N ≤ 255 := HN.out.2.1
                    obtain ⟨qj, hqj⟩ : ∃ qj, q + j = qj := ⟨_, rfl⟩
                    have HQJ := Lib.hid hqj
                    have hqjC : qj < x.C.length := by have := HT.out; have := HN.out; omega
                    rw [hqj] at hwj
                    have hgj : (0 : Int) ≤ (qj : Int) := by omega
                    have hgj2 : (qj : Int) < (x.C.length : Int) := by omega
                    have HRV := Lib.hid (HR.out _ HBW.out)
                    obtain ⟨g, o, sa, sc, hA, hg, hcS, hdec⟩ := rdec_sec HRV.out hqjC
                    have HDEC := Lib.hid (hdec wr (Below.refl _ _))
                    obtain ⟨p0, p1, p2, p3, p4, ps⟩ := HRV.out.got
                    have hfr2 := frD_dec hqjC
                    obtain ⟨⟨F, z2⟩, hF⟩ : ∃ F, decF x.C[qj] = F := ⟨_, rfl⟩
                    rw [hF] at HDEC hfr2
                    simp only at hfr2
                    have HFR2 := Lib.hid (show frD x.C ((q : Int) + (j : Int)) = if z2 = 0 then some F else none by rw [show (q : Int) + (j : Int) = (qj : Int) by have := HQJ.out; omega]; exact hfr2)
                    injection hA with hA
                    injection hA with hA1 hA2
                    subst hA1; subst hA2
                    clear hdec hF hfr2 hqj hqjC hBW
                    obtain ⟨g0, g1, g2, g3, g4, gd⟩ := F
                    go_wp2_with fail
                    refine HDEC.out.mono ?_
                    rintro e w3 ⟨⟨A3, c3, rfl, own3⟩, hb3⟩
                    unfold Fr.val
                    simp only at own3 ⊢
                    have hsz2 : w2.heap.size + 1 ≤ wr.heap.size := by have := HBR.out.size; rw [World.size_alloc] at this; exact this
                    have HB3 := Lib.hid hb3
                    have HBR3 := Lib.hid (HBR.out.trans (hb3.mono hsz2))
                    have HOW3 := Lib.hid (own_base own3 hsz2)
                    have hsz3 : w2.heap.size + 1 ≤ w3.heap.size := Nat.le_trans hsz2 hb3.size
                    have HSZ3 := Lib.hid hsz3
                    clear p0 p1 p2 p3 p4 ps own3 hb3 hcS hg HDEC HRV y0 y4 hltb hsz2 hsz3
                    have y0 := (box_cells' (HBT.out _ HBR3.out) 0).1
                    have y4 := (box_cells' (HBT.out _ HBR3.out) 4).1
                    have hltb := (box_cells' (HBT.out _ HBR3.out) 0).2.2
                    simp only [List.getElem?_toArray, List.getElem?_cons_zero, List.getElem?_cons_succ] at y0 y4
                    by_cases hz2 : z2 = 0
                    · rw [if_pos hz2] at HFR2
                      have hz2b : (z2 != 0) = false := by simpa using hz2
                      clear hz2
                      have HTK1 := Lib.hid (takeF_some HTK.out HFR2.out)
                      go_wp2_with (first
                        | (at_builtin; refine wpList_app rfl (.tmp 96) (.tmp 98) rfl ERF rfl rfl (((own_below HOWN.out HB3.out).alloc _).alloc _) (m := 1) (news := [.int .i64 g0, .int .i64 g1, .int .i64 g2, .int .i64 g3, .int .i64 g4, .slice A3 gd.length c3]) rfl (Sl.new1 _ _ _ _) (by intro u hu; simp only [List.mem_cons, List.not_mem_nil, or_false] at hu; rcases hu with h | h | h | h | h | h <;> subst h <;> rfl) (by unfold maxLen; have := HN.out; omega) (by have := HN.out; omega) (by simp only [World.size_alloc]; have := HSZ3.out; omega) ?_; intro A5 c5 w5 own5 hg5 hb5)
                        | fail)
                      have HHN := Lib.hid (own_below HOWN.out HB3.out)
                      have HK5 := Lib.hid (fun (v : Value) (m : Nat) (xs : List Value) (ho : w3.ownsRow (w2.heap.size + 1) 5 1 v m xs) => own_kept_types (by decide) ((ho.alloc _).alloc _) ((HHN.out.alloc _).alloc _) hg5)
                      have HOF5 : Hid (OwnF (w2.heap.size + 1) w5 (H ++ [(⟨⟨g0, g1, g2, g3, g4, gd⟩, A3, c3⟩ : Fh)])) := Lib.hid (fun s hs => by
                        rcases List.mem_append.1 hs with h | h
                        · exact HK5.out _ _ _ (own_below (HOWF.out s h) HB3.out)
                        · rw [List.mem_singleton] at h
                          subst h
                          exact HK5.out _ _ _ HOW3.out)
                      have HL5 : Hid ((H ++ [(⟨⟨g0, g1, g2, g3, g4, gd⟩, A3, c3⟩ : Fh)]).length = j + 1) := Lib.hid (by rw [List.length_append, HHJ.out]; rfl)
                      have HON5 : Hid (w5.ownsRow (w2.heap.size + 1) 111 6 (.slice A5 (j + 1) c5) (j + 1) (rc Fh.cells (H ++ [(⟨⟨g0, g1, g2, g3, g4, gd⟩, A3, c3⟩ : Fh)]))) := Lib.hid (by rw [rc_append]; exact own5)
                      have HTK5 : Hid (takeF x.C q (j + 1) = some ((H ++ [(⟨⟨g0, g1, g2, g3, g4, gd⟩, A3, c3⟩ : Fh)]).map Fh.f)) := Lib.hid (by rw [HTK1.out, List.map_append]; rfl)
                      have HB5 : Hid (Below (w2.heap.size + 1) (w2.alloc (.cells #[.int .i64 l0, .int .i64 e0, .int .i64 s0, .int .i64 r0, .int .i64 (N : Int), .slice A2 fl c2] 111)) w5) := Lib.hid (((HBR3.out.alloc HSZ3.out _).alloc (by have := HSZ3.out; simp only [World.size_alloc]; omega) _).trans hb5)
                      clear own5 hg5 hb5 HK5
                      go_roundw
                      case rel => exact ⟨j + 1, A5, c5, H ++ [(⟨⟨g0, g1, g2, g3, g4, gd⟩, A3, c3⟩ : Fh)], by omega, HL5.out, by rw [HL5.out], by go_num, HTK5, by rw [HL5.out]; exact HON5, HOF5, HB5⟩
                      case measure => simp [intOf]; omega
                    · rw [if_neg hz2] at HFR2
                      have hz2b : (z2 != 0) = true := by simpa using hz2
                      clear hz2
                      have hbI := HBR3.out.alloc HSZ3.out (.cells #[.int .i64 g0, .int .i64 g1, .int .i64 g2, .int .i64 g3, .int .i64 g4, .slice A3 gd.length c3] 111)
                      have hst : scan x.C t era q L.length life = ([], q) := scan_stop (fun b2 f2 hr _ => by rw [readF_hole HFR.out (j := j + 1) (by show j + 1 ≤ ((N : Int)).toNat; omega) (takeF_stop HFR2.out)] at hr; cases hr)
                      have hT := HTE.out
                      rw [hst] at hT
                      simp only [List.append_nil] at hT
                      have HSTOP := Lib.hid (show T.2 - f0 = q - f0 ∧ T.1 = L from by rw [hT]; exact ⟨rfl, rfl⟩)
                      clear hst hT
                      have hb9 : Below w2.heap.size w2 _ := (since_alloc (Below.refl _ w2) _).trans (hbI.mono (Nat.le_succ _))
                      have HX1 := Lib.hid (own_below HOO2.out hb9)
                      have HX2 := Lib.hid (HOR2.out.below hb9)
                      have HX3 := Lib.hid (since_step HB2.out hb9)
                      clear hb9 hbI
                      go_wp2_with fail
                      go_ret2
                      exact ⟨⟨OA, oc, OS, by rw [HSTOP.out.1, HQF.out]; rfl, HX1.out, by rw [HOS.out.2.1, HSTOP.out.2], HX2.out⟩, HX3.out⟩
                  · obtain rfl : j = N := by omega
                    have hlk2 : ¬ (j : Int) < (j : Int) := by omega
                    have HJ := Lib.hid (rjoin7_any LA lc H wr (by rw [HHJ.out]; have := HN.out; omega) (Sl.of_own HOWN.out) (fun h hh => ⟨Sl.of_own (HOWF.out h hh), by have := takeF_data HTK.out h.f (List.mem_map.2 ⟨h, hh, rfl⟩); omega⟩))
                    rw [HHJ.out] at HJ
                    have hsz2 : w2.heap.size + 1 ≤ wr.heap.size := by have := HBR.out.size; rw [World.size_alloc] at this; exact this
                    have HRF := Lib.hid (readF_full HFR.out (tt := (t : Int)) (show (q : Int) < (t : Int) by have := HN.out; omega) (show (j : Int) ≤ (t : Int) - (q : Int) by have := HN.out; omega) (l := H.map Fh.f) (by show takeF x.C q ((j : Int)).toNat = _; rw [Int.toNat_natCast]; exact HTK.out))
                    obtain ⟨⟨l, ok⟩, hl⟩ : ∃ L, joinF (H.map Fh.f) = L := ⟨_, rfl⟩
                    rw [hl] at HJ HRF
                    simp only at HJ HRF
                    have HSZ2 := Lib.hid hsz2
                    clear hl hBW hsz2
                    go_wp2_with fail
                    refine HJ.out.mono ?_
                    rintro e w3 ⟨⟨A3, c3, rfl, own3⟩, hb3⟩
                    have HBR3 := Lib.hid (HBR.out.trans (hb3.mono HSZ2.out))
                    have HOW3 := Lib.hid (own_base own3 (show w.heap.size ≤ wr.heap.size from HBW.out.size))
                    clear own3 hb3 y0 y4 hltb HJ
                    have y0 := (box_cells' (HBT.out _ HBR3.out) 0).1
                    have y4 := (box_cells' (HBT.out _ HBR3.out) 4).1
                    have hltb := (box_cells' (HBT.out _ HBR3.out) 0).2.2
                    simp only [List.getElem?_toArray, List.getElem?_cons_zero, List.getElem?_cons_succ] at y0 y4
                    cases ok with
                    | false =>
                      have hbI := HBR3.out
                      simp only [Bool.false_eq_true, if_false] at HRF
                      have hst : scan x.C t era q L.length life = ([], q) := scan_stop (fun b2 f2 hr _ => by rw [HRF.out] at hr; cases hr)
                      have hT := HTE.out
                      rw [hst] at hT
                      simp only [List.append_nil] at hT
                      have HSTOP := Lib.hid (show T.2 - f0 = q - f0 ∧ T.1 = L from by rw [hT]; exact ⟨rfl, rfl⟩)
                      clear hst hT
                      have hb9 : Below w2.heap.size w2 _ := (since_alloc (Below.refl _ w2) _).trans (hbI.mono (Nat.le_succ _))
                      have HX1 := Lib.hid (own_below HOO2.out hb9)
                      have HX2 := Lib.hid (HOR2.out.below hb9)
                      have HX3 := Lib.hid (since_step HB2.out hb9)
                      clear hb9 hbI
                      go_wp2_with fail
                      go_ret2
                      exact ⟨⟨OA, oc, OS, by rw [HSTOP.out.1, HQF.out]; rfl, HX1.out, by rw [HOS.out.2.1, HSTOP.out.2], HX2.out⟩, HX3.out⟩
                    | true =>
                      simp only [if_true] at HRF
                      have hb9 : Below w2.heap.size w2 w3 := (since_alloc (Below.refl _ w2) _).trans (HBR3.out.mono (Nat.le_succ _))
                      have HX1 := Lib.hid (own_below HOO2.out hb9)
                      have HX2 := Lib.hid (HOR2.out.below hb9)
                      have HX3 := Lib.hid (since_step HB2.out hb9)
                      have hgo := scan_go HRF.out (n := L.length) (life := life) ⟨HC.out.1, by rw [HNX.out]; exact HC.out.2.1, by show life ≤ l0; have := HC.out.2.2.1; omega⟩
                      simp only [Int.toNat_natCast] at hgo
                      have HTE2 : Hid (T = ((L ++ [l]) ++ (scan x.C t era (q + j) (L ++ [l]).length l0).1, (scan x.C t era (q + j) (L ++ [l]).length l0).2)) := Lib.hid (by
                        have h1 := HTE.out
                        rw [hgo] at h1
                        rw [h1, List.length_append, List.length_singleton]
                        simp only [List.append_assoc, List.singleton_append])
                      have hOSb : OS.length ≤ 2100 := by have := HOS.out; omega
                      have HOSB := Lib.hid hOSb
                      have hwqj : IntKind.i64.wrap ((q : Int) + (j : Int)) = ((q + j : Nat) : Int) := by have := HN.out; rw [IntKind.wrap_i64]; omega
                      have HZ2 := Lib.hid (show w.heap.size ≤ w3.heap.size from HX3.out.size)
                      clear hb9 hgo hOSb HOWN HOWF HTK
                      go_upto_region 22 with (first
                        | (at_builtin; refine wpList_app rfl (.tmp 111) (.tmp 113) rfl EDR rfl rfl (HX1.out.alloc _) (m := 1) (news := [.slice A3 l.length c3]) rfl (Sl.new_ _ _ _) (fun u hu => by simp only [List.mem_cons, List.not_mem_nil, or_false] at hu; subst hu; rfl) (by unfold maxLen; have := HOSB.out; omega) (by have := HOSB.out; omega) (by simp only [World.size_alloc]; have := HZ2.out; omega) ?_; intro A6 c6 w6 own6 hg6 hb6)
                        | fail)
                      have hbx : w6.heap[w2.heap.size]? = some (.cells #[.int .i64 l0, .int .i64 e0, .int .i64 s0, .int .i64 r0, .int .i64 (j : Int), .slice A2 fl c2] 111 (0, 0)) := ((ChgL.of_grown (l := (Value.slice OA OS.length oc).ownBlock.toList) hg6 (fun y hy => by rw [hy]; simp)).block w2.heap.size (Nat.lt_of_lt_of_le hltb (by simp)) (fun hm => own_type HX1.out (HBT.out _ HBR3.out) (by decide) (Option.mem_def.1 (Option.mem_toList.1 hm)))).trans (((since_alloc (Below.refl _ w3) _).block w2.heap.size hltb).trans (HBT.out _ HBR3.out))
                      have y0 : w6.cell? ⟨w2.heap.size, 0, none⟩ = some (.int .i64 l0) := (box_cells' hbx 0).1
                      have y4 : w6.cell? ⟨w2.heap.size, 4, none⟩ = some (.int .i64 (j : Int)) := (box_cells' hbx 4).1
                      have hltb := (box_cells' hbx 0).2.2
                      have HL6 : Hid ((OS ++ [(⟨A3, c3, l⟩ : RowS Nat)]).length = OS.length + 1) := Lib.hid (by rw [List.length_append]; rfl)
                      have HON6 : Hid (w6.ownsRow w.heap.size 36 1 (.slice A6 (OS.length + 1) c6) (OS.length + 1) (rc RowS.cells (OS ++ [(⟨A3, c3, l⟩ : RowS Nat)]))) := Lib.hid (by rw [rc_append]; exact own6)
                      have HOR6 : Hid (OwnR w.heap.size w6 (OS ++ [(⟨A3, c3, l⟩ : RowS Nat)])) := Lib.hid (fun s hs => by
                        have key : ∀ (v : Value) (n : Nat) (xs : List Value), w3.ownsRow w.heap.size 5 1 v n xs → w6.ownsRow w.heap.size 5 1 v n xs := fun v n xs h => own_kept_types (by decide) (h.alloc _) (HX1.out.alloc _) hg6
                        rcases List.mem_append.1 hs with h | h
                        · exact key _ _ _ (HX2.out s h)
                        · rw [List.mem_singleton] at h
                          subst h
                          exact key _ _ _ HOW3.out)
                      have HB6 := Lib.hid ((HX3.out.alloc HZ2.out _).trans hb6)
                      have HOS6 : Hid ((OS ++ [(⟨A3, c3, l⟩ : RowS Nat)]).length = (L ++ [l]).length ∧ (OS ++ [(⟨A3, c3, l⟩ : RowS Nat)]).map RowS.l = L ++ [l] ∧ (L ++ [l]).length ≤ q + j - f0) := Lib.hid (by
                        have h1 := HOS.out
                        have h2 := HN.out
                        refine ⟨by rw [List.length_append, List.length_append, h1.1]; rfl, by rw [List.map_append, h1.2.1]; rfl, by rw [List.length_append]; simp only [List.length_singleton]; omega⟩)
                      have HNX6 : Hid ((L ++ [l]).length = nx) := Lib.hid (by rw [List.length_append, ← HNX.out]; rfl)
                      clear own6 hg6 hb6 hbx
                      go_wp2_with fail
                      go_roundw
                      case rel => exact ⟨q + j, A6, c6, OS ++ [(⟨A3, c3, l⟩ : RowS Nat)], L ++ [l], l0, by omega, by have := HN.out; omega, by rw [HL6.out], rfl, rfl, by rw [HNX6.out]; go_num, HOS6, HTE2, by rw [HL6.out]; exact HON6, HOR6, HB6.out⟩
                      case measure => simp [intOf]; have := HN.out; omega
          · have d2 : (s0 != (nx : Int)) = true := by simpa using c2_
            have hst : scan x.C t era q L.length life = ([], q) := scan_stop (fun b2 f2 hr ⟨_, h2, _⟩ => by have e9 := readF_fr hr HFR.out; subst e9; simp only at h2; exact c2_ (by rw [h2, HNX.out]))
            have hT := HTE.out
            rw [hst] at hT
            simp only [List.append_nil] at hT
            have HSTOP := Lib.hid (show T.2 - f0 = q - f0 ∧ T.1 = L from by rw [hT]; exact ⟨rfl, rfl⟩)
            clear hst hT
            clear c1 c2_
            have HX1 := Lib.hid (own_below HOO2.out (since_alloc (Below.refl _ w2) (.cells #[.int .i64 l0, .int .i64 e0, .int .i64 s0, .int .i64 r0, .int .i64 n0, .slice A2 fl c2] 111)))
            have HX2 := Lib.hid (HOR2.out.below (since_alloc (Below.refl _ w2) (.cells #[.int .i64 l0, .int .i64 e0, .int .i64 s0, .int .i64 r0, .int .i64 n0, .slice A2 fl c2] 111)))
            have HX3 := Lib.hid (since_alloc HB2.out (.cells #[.int .i64 l0, .int .i64 e0, .int .i64 s0, .int .i64 r0, .int .i64 n0, .slice A2 fl c2] 111))
            go_wp2_with fail
            go_ret2
            exact ⟨⟨OA, oc, OS, by rw [HSTOP.out.1, HQF.out]; rfl, HX1.out, by rw [HOS.out.2.1, HSTOP.out.2], HX2.out⟩, HX3.out⟩
        · have d1 : (e0 != era) = true := by simpa using c1
          have hst : scan x.C t era q L.length life = ([], q) := scan_stop (fun b2 f2 hr ⟨h1, _, _⟩ => by have e9 := readF_fr hr HFR.out; subst e9; exact c1 h1)
          have hT := HTE.out
          rw [hst] at hT
          simp only [List.append_nil] at hT
          have HSTOP := Lib.hid (show T.2 - f0 = q - f0 ∧ T.1 = L from by rw [hT]; exact ⟨rfl, rfl⟩)
          clear hst hT
          clear c1
          have HX1 := Lib.hid (own_below HOO2.out (since_alloc (Below.refl _ w2) (.cells #[.int .i64 l0, .int .i64 e0, .int .i64 s0, .int .i64 r0, .int .i64 n0, .slice A2 fl c2] 111)))
          have HX2 := Lib.hid (HOR2.out.below (since_alloc (Below.refl _ w2) (.cells #[.int .i64 l0, .int .i64 e0, .int .i64 s0, .int .i64 r0, .int .i64 n0, .slice A2 fl c2] 111)))
          have HX3 := Lib.hid (since_alloc HB2.out (.cells #[.int .i64 l0, .int .i64 e0, .int .i64 s0, .int .i64 r0, .int .i64 n0, .slice A2 fl c2] 111))
          go_wp2_with fail
          go_ret2
          exact ⟨⟨OA, oc, OS, by rw [HSTOP.out.1, HQF.out]; rfl, HX1.out, by rw [HOS.out.2.1, HSTOP.out.2], HX2.out⟩, HX3.out⟩
      · rw [if_neg hz] at HFR
        have hzb : (z != 0) = true := by simpa using hz
        clear hz
        have hst : scan x.C t era q L.length life = ([], q) := scan_stop (fun b2 f2 hr _ => by rw [readF_no HFR.out] at hr; cases hr)
        have hT := HTE.out
        rw [hst] at hT
        simp only [List.append_nil] at hT
        have HSTOP := Lib.hid (show T.2 - f0 = q - f0 ∧ T.1 = L from by rw [hT]; exact ⟨rfl, rfl⟩)
        clear hst hT
        have HX1 := Lib.hid (own_below HOO2.out (since_alloc (Below.refl _ w2) (.cells #[.int .i64 l0, .int .i64 e0, .int .i64 s0, .int .i64 r0, .int .i64 n0, .slice A2 fl c2] 111)))
        have HX2 := Lib.hid (HOR2.out.below (since_alloc (Below.refl _ w2) (.cells #[.int .i64 l0, .int .i64 e0, .int .i64 s0, .int .i64 r0, .int .i64 n0, .slice A2 fl c2] 111)))
        have HX3 := Lib.hid (since_alloc HB2.out (.cells #[.int .i64 l0, .int .i64 e0, .int .i64 s0, .int .i64 r0, .int .i64 n0, .slice A2 fl c2] 111))
        go_wp2_with fail
        go_ret2
        exact ⟨⟨OA, oc, OS, by rw [HSTOP.out.1, HQF.out]; rfl, HX1.out, by rw [HOS.out.2.1, HSTOP.out.2], HX2.out⟩, HX3.out⟩
    · obtain rfl : q = t := by omega
      have hlk : ¬ ((q : Int) < (q : Int)) := by omega
      have hst : scan x.C q era q L.length life = ([], q) := scan_stop (fun b2 f2 hr _ => by rw [readF_ge (Int.le_refl _)] at hr; cases hr)
      have hT := HTE.out
      rw [hst] at hT
      simp only [List.append_nil] at hT
      have HSTOP := Lib.hid (show T.2 - f0 = q - f0 ∧ T.1 = L from by rw [hT]; exact ⟨rfl, rfl⟩)
      clear hst hT
      go_wp2_with fail
      go_ret2
      exact ⟨⟨OA, oc, OS, by rw [HSTOP.out.1, HQF.out]; rfl, HOO.out, by rw [HOS.out.2.1, HSTOP.out.2], HOR.out⟩, hB⟩
end
end Go.Proofs.Ytiggcpfmmgmncaa
