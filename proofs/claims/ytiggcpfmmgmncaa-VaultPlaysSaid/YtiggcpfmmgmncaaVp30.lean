import Derived.Test.YtiggcpfmmgmncaaVp29
import Derived.Test.YtiggcpfmmgmncaaVp21
set_option maxHeartbeats 16000000
set_option maxRecDepth 100000
set_option linter.unusedVariables false
set_option linter.unusedSimpArgs false
namespace Go.Proofs.Ytiggcpfmmgmncaa
open Go.ChangeShapes Go.WideShapes Go.ChangeAt Go.RowKit
section
def placeR (C : List (List Nat)) (q each odd : Nat) : Int × List Nat := match readF C (q : Int) ((q + each : Nat) : Int) with
  | none => (0, [])
  | some (b, f) => if f.seq = 1 ∧ f.era % 2 = (odd : Int) then (f.era, b) else (0, [])
def PRes (B : Nat) (w' : World) (e : Ending) (R : Int × List Nat) : Prop := ∃ A' c', e = .returned (.tuple #[.int .i64 R.1, .slice A' R.2.length c']) ∧ w'.ownsRow B 5 1 (.slice A' R.2.length c') R.2.length (by8 R.2)
theorem readF_fr9 {S : List (List Nat)} {q t : Int} {b : List Nat} {f g : Fr} (h : readF S q t = some (b, f)) (hg : frD S q = some g) : f = g := by
  have := (readF_iff.1 h).2.1
  rw [hg] at this
  exact (Option.some.inj this).symm
theorem placeR_no {C : List (List Nat)} {q each odd : Nat} {f : Fr} (hf : frD C (q : Int) = some f) (h : ¬ (f.parts ≤ (each : Int) ∧ f.seq = 1 ∧ f.era % 2 = (odd : Int))) : placeR C q each odd = (0, []) := by
  unfold placeR
  cases hr : readF C (q : Int) ((q + each : Nat) : Int) with
  | none => rfl
  | some y =>
    obtain ⟨b, g⟩ := y
    have e := readF_fr9 hr hf
    subst e
    have hp := (readF_iff.1 hr).2.2.1
    show (if g.seq = 1 ∧ g.era % 2 = (odd : Int) then (g.era, b) else (0, [])) = _
    rw [if_neg (fun h9 => h ⟨by omega, h9.1, h9.2⟩)]
theorem rplace9_any {B b c kc : Nat} {A KA : Option Addr} {R : List (RowS Nat)} {x : Rv} (q each odd : Nat) (w : World) (h : RvA B w b A c R KA kc x) (hq : q + each ≤ x.C.length) (he : 1 ≤ each) (hodd : odd ≤ 1) :
    Calls Try.prog 90 #[.pointer (some ⟨b, 0, none⟩), .int .i64 q, .int .i64 each, .int .i64 odd] w fun e w' => PRes w.heap.size w' e (placeR x.C q each odd) ∧ Below w.heap.size w w' := by
  have HR := Lib.hid (fun V (hV : Below w.heap.size w V) => h.below hV)
  have HSM := Lib.hid h.small.1
  have HQE := Lib.hid hq
  have hqb : q ≤ 2048 := by have := h.small.1; omega
  have hqC : q < x.C.length := by omega
  have hgk : (0 : Int) ≤ (q : Int) := by omega
  have hgk2 : (q : Int) < (x.C.length : Int) := by omega
  obtain ⟨g, o, sa, sc, hA, hg, hcS, hdec⟩ := rdec_sec h hqC
  have HDEC := Lib.hid (hdec w (Below.refl _ _))
  obtain ⟨p0, p1, p2, p3, p4, ps⟩ := h.got
  have hfr := frD_dec hqC
  obtain ⟨⟨F, z⟩, hF⟩ : ∃ F, decF x.C[q] = F := ⟨_, rfl⟩
  rw [hF] at HDEC hfr
  simp only at hfr
  have HFR := Lib.hid hfr
  subst hA
  clear hdec hF hfr h hq
  obtain ⟨l0, e0, s0, r0, n0, fd⟩ := F
  go_enter Try.func90, Try.ntmps90
  go_wp2_with fail
  refine HDEC.out.mono ?_
  rintro e w2 ⟨⟨A2, c2, rfl, own2⟩, hb2⟩
  have HB2 := Lib.hid hb2
  unfold Fr.val
  simp only
  clear p0 p1 p2 p3 p4 ps own2 hb2 hcS hg HDEC
  obtain ⟨fl, hfl⟩ : ∃ fl, fd.length = fl := ⟨_, rfl⟩
  rw [hfl]
  clear hfl
  have HZ := Lib.hid (since_alloc HB2.out (.cells #[.int .i64 l0, .int .i64 e0, .int .i64 s0, .int .i64 r0, .int .i64 n0, .slice A2 fl c2] 111))
  by_cases hz : z = 0
  · rw [if_pos hz] at HFR
    have hzb : (z != 0) = false := by simpa using hz
    clear hz
    have hok := (Fr.ok_iff _).1 (frD_some HFR.out).2.2.2
    simp only at hok
    have hn255 : 1 ≤ n0 ∧ n0 ≤ 255 := ⟨hok.2.2.2.2.2.2.1, hok.2.2.2.2.2.2.2.1⟩
    have he0 : 0 ≤ e0 := hok.2.2.1
    have htm : Int.tmod e0 2 = e0 % 2 := Int.tmod_eq_emod_of_nonneg he0
    clear hok
    by_cases c1 : n0 ≤ (each : Int)
    · have c1b : ¬ (each : Int) < n0 := by omega
      have d1 : decide ((each : Int) < n0) = false := decide_eq_false c1b
      by_cases c2_ : s0 = 1
      · have d2 : (s0 != 1) = false := by simpa using c2_
        by_cases c3 : e0 % 2 = (odd : Int)
        · have d3 : (Int.tmod e0 2 != (odd : Int)) = false := by rw [htm]; simpa using c3
          have HSO : Hid (s0 = 1 ∧ e0 % 2 = (odd : Int)) := Lib.hid ⟨c2_, c3⟩
          clear c2_ c3 htm he0
          obtain ⟨N, hN⟩ : ∃ N : Nat, n0 = (N : Int) := ⟨n0.toNat, by omega⟩
          subst hN
          have HN := Lib.hid (show 1 ≤ N ∧ N ≤ 255 ∧ N ≤ each by omega)
          have HFC := Lib.hid (show (w2.alloc (.cells #[.int .i64 l0, .int .i64 e0, .int .i64 s0, .int .i64 r0, .int .i64 (N : Int), .slice A2 fl c2] 111)).heap[w2.heap.size]? = some (.cells #[.int .i64 l0, .int .i64 e0, .int .i64 s0, .int .i64 r0, .int .i64 (N : Int), .slice A2 fl c2] 111 (0, 0)) by rw [heap_alloc_new])
          have HBT := Lib.hid (show ∀ V, Below (w2.heap.size + 1) (w2.alloc (.cells #[.int .i64 l0, .int .i64 e0, .int .i64 s0, .int .i64 r0, .int .i64 (N : Int), .slice A2 fl c2] 111)) V → V.heap[w2.heap.size]? = some (.cells #[.int .i64 l0, .int .i64 e0, .int .i64 s0, .int .i64 r0, .int .i64 (N : Int), .slice A2 fl c2] 111 (0, 0)) from fun V hV => by rw [hV.block w2.heap.size (Nat.lt_succ_self _)]; exact HFC.out)
          clear c1 hn255
          go_wp2_with fail
          go_loopw [12, 13] (fun bv iv wr => ∃ (j : Nat) (LA : Option Addr) (lc : Nat) (H : List Fh), j ≤ N ∧ H.length = j ∧ bv = .slice LA H.length lc ∧ iv = .int .i64 j ∧ Hid (takeF x.C q j = some (H.map Fh.f)) ∧ Hid (wr.ownsRow (w2.heap.size + 1) 111 6 (.slice LA H.length lc) H.length (rc Fh.cells H)) ∧ Hid (OwnF (w2.heap.size + 1) wr H) ∧ Hid (Below (w2.heap.size + 1) (w2.alloc (.cells #[.int .i64 l0, .int .i64 e0, .int .i64 s0, .int .i64 r0, .int .i64 (N : Int), .slice A2 fl c2] 111)) wr)) (fun _ iv _ => N - (intOf iv).toNat)
          case atStart => exact ⟨0, none, 0, [], Nat.zero_le _, rfl, rfl, rfl, rfl, own_nil _ _ _, (fun s hs => by cases hs), Below.refl _ _⟩
          case round =>
            obtain ⟨j, LA, lc, H, hjN, hHj, rfl, rfl, HTK, HOWN, HOWF, HBR⟩ := hrel
            rw [hHj] at HOWN ⊢
            have HHJ := Lib.hid hHj
            clear hHj
            have y0 := (box_cells' (HBT.out _ HBR.out) 0).1
            have y1 := (box_cells' (HBT.out _ HBR.out) 1).1
            have y4 := (box_cells' (HBT.out _ HBR.out) 4).1
            have hltb := (box_cells' (HBT.out _ HBR.out) 0).2.2
            simp only [List.getElem?_toArray, List.getElem?_cons_zero, List.getElem?_cons_succ] at y0 y1 y4
            have hBW : Below w2.heap.size w2 wr := (since_alloc (Below.refl _ w2) _).trans (HBR.out.mono (Nat.le_succ _))
            have HBW := Lib.hid (since_step HB2.out hBW)
            by_cases hlt2 : j < N
            · have hlk2 : (j : Int) < (N : Int) := by omega
              have hwj : IntKind.i64.wrap ((q : Int) + (j : Int)) = ((q + j : Nat) : Int) := by have := HN.out; rw [IntKind.wrap_i64]; omega
              have hN255 : N ≤ 255 := HN.out.2.1
              obtain ⟨qj, hqj⟩ : ∃ qj, q + j = qj := ⟨_, rfl⟩
              have HQJ := Lib.hid hqj
              have hqjC : qj < x.C.length := by have := HQE.out; have := HN.out; omega
              rw [hqj] at hwj
              have hgj : (0 : Int) ≤ (qj : Int) := by omega
              have hgj2 : (qj : Int) < (x.C.length : Int) := by omega
              have HRV := Lib.hid (HR.out _ HBW.out)
              obtain ⟨g, o, sa, sc, hA, hg, hcS, hdec⟩ := rdec_sec HRV.out hqjC
              have HDEC := Lib.hid (hdec wr (Below.refl _ _))
              obtain ⟨p0, p1, p2, p3, p4, ps⟩ := HRV.out.got
              have hfr2 := frD_dec hqjC
              obtain ⟨⟨F, z2⟩, hF⟩ : ∃ F, decF x.C[qj] = F := ⟨_, rfl⟩
              rw [hF] at HDEC hfr2
              simp only at hfr2
              have HFR2 := Lib.hid (show frD x.C ((q : Int) + (j : Int)) = if z2 = 0 then some F else none by rw [show (q : Int) + (j : Int) = (qj : Int) by have := HQJ.out; omega]; exact hfr2)
              injection hA with hA
              injection hA with hA1 hA2
              subst hA1; subst hA2
              clear hdec hF hfr2 hqj hqjC hBW
              obtain ⟨g0, g1, g2, g3, g4, gd⟩ := F
              go_wp2_with fail
              refine HDEC.out.mono ?_
              rintro e w3 ⟨⟨A3, c3, rfl, own3⟩, hb3⟩
              unfold Fr.val
              simp only at own3 ⊢
              have hsz2 : w2.heap.size + 1 ≤ wr.heap.size := by have := HBR.out.size; rw [World.size_alloc] at this; exact this
              have HB3 := Lib.hid hb3
              have HBR3 := Lib.hid (HBR.out.trans (hb3.mono hsz2))
              have HOW3 := Lib.hid (own_base own3 hsz2)
              have hsz3 : w2.heap.size + 1 ≤ w3.heap.size := Nat.le_trans hsz2 hb3.size
              have HSZ3 := Lib.hid hsz3
              clear p0 p1 p2 p3 p4 ps own3 hb3 hcS hg HDEC HRV y0 y1 y4 hltb hsz2 hsz3
              have y0 := (box_cells' (HBT.out _ HBR3.out) 0).1
              have y1 := (box_cells' (HBT.out _ HBR3.out) 1).1
              have y4 := (box_cells' (HBT.out _ HBR3.out) 4).1
              have hltb := (box_cells' (HBT.out _ HBR3.out) 0).2.2
              simp only [List.getElem?_toArray, List.getElem?_cons_zero, List.getElem?_cons_succ] at y0 y1 y4
              by_cases hz2 : z2 = 0
              · rw [if_pos hz2] at HFR2
                have hz2b : (z2 != 0) = false := by simpa using hz2
                clear hz2
                have HTK1 := Lib.hid (takeF_some HTK.out HFR2.out)
                go_wp2_with (first
                  | (at_builtin; refine wpList_app rfl (.tmp 70) (.tmp 72) rfl ERF rfl rfl (((own_below HOWN.out HB3.out).alloc _).alloc _) (m := 1) (news := [.int .i64 g0, .int .i64 g1, .int .i64 g2, .int .i64 g3, .int .i64 g4, .slice A3 gd.length c3]) rfl (Sl.new1 _ _ _ _) (by intro u hu; simp only [List.mem_cons, List.not_mem_nil, or_false] at hu; rcases hu with h | h | h | h | h | h <;> subst h <;> rfl) (by unfold maxLen; have := HN.out; omega) (by have := HN.out; omega) (by simp only [World.size_alloc]; have := HSZ3.out; omega) ?_; intro A5 c5 w5 own5 hg5 hb5)
                  | fail)
                have HHN := Lib.hid (own_below HOWN.out HB3.out)
                have HK5 := Lib.hid (fun (v : Value) (m : Nat) (xs : List Value) (ho : w3.ownsRow (w2.heap.size + 1) 5 1 v m xs) => own_kept_types (by decide) ((ho.alloc _).alloc _) ((HHN.out.alloc _).alloc _) hg5)
                have HOF5 : Hid (OwnF (w2.heap.size + 1) w5 (H ++ [(⟨⟨g0, g1, g2, g3, g4, gd⟩, A3, c3⟩ : Fh)])) := Lib.hid (fun s hs => by
                  rcases List.mem_append.1 hs with h | h
                  · exact HK5.out _ _ _ (own_below (HOWF.out s h) HB3.out)
                  · rw [List.mem_singleton] at h
                    subst h
                    exact HK5.out _ _ _ HOW3.out)
                have HL5 : Hid ((H ++ [(⟨⟨g0, g1, g2, g3, g4, gd⟩, A3, c3⟩ : Fh)]).length = j + 1) := Lib.hid (by rw [List.length_append, HHJ.out]; rfl)
                have HON5 : Hid (w5.ownsRow (w2.heap.size + 1) 111 6 (.slice A5 (j + 1) c5) (j + 1) (rc Fh.cells (H ++ [(⟨⟨g0, g1, g2, g3, g4, gd⟩, A3, c3⟩ : Fh)]))) := Lib.hid (by rw [rc_append]; exact own5)
                have HTK5 : Hid (takeF x.C q (j + 1) = some ((H ++ [(⟨⟨g0, g1, g2, g3, g4, gd⟩, A3, c3⟩ : Fh)]).map Fh.f)) := Lib.hid (by rw [HTK1.out, List.map_append]; rfl)
                have HB5 : Hid (Below (w2.heap.size + 1) (w2.alloc (.cells #[.int .i64 l0, .int .i64 e0, .int .i64 s0, .int .i64 r0, .int .i64 (N : Int), .slice A2 fl c2] 111)) w5) := Lib.hid (((HBR3.out.alloc HSZ3.out _).alloc (by have := HSZ3.out; simp only [World.size_alloc]; omega) _).trans hb5)
                clear own5 hg5 hb5 HK5
                go_roundw
                case rel => exact ⟨j + 1, A5, c5, H ++ [(⟨⟨g0, g1, g2, g3, g4, gd⟩, A3, c3⟩ : Fh)], by omega, HL5.out, by rw [HL5.out], by go_num, HTK5, by rw [HL5.out]; exact HON5, HOF5, HB5⟩
                case measure => simp [intOf]; omega
              · rw [if_neg hz2] at HFR2
                have hz2b : (z2 != 0) = true := by simpa using hz2
                clear hz2
                have hbI := HBR3.out.alloc HSZ3.out (.cells #[.int .i64 g0, .int .i64 g1, .int .i64 g2, .int .i64 g3, .int .i64 g4, .slice A3 gd.length c3] 111)
                have hres : placeR x.C q each odd = (0, []) := by
                  unfold placeR
                  rw [readF_hole HFR.out (j := j + 1) (by show j + 1 ≤ ((N : Int)).toNat; omega) (takeF_stop HFR2.out)]
                have HX3 := Lib.hid (since_step HB2.out ((since_alloc (Below.refl _ w2) _).trans (hbI.mono (Nat.le_succ _))))
                clear hbI
                go_wp2_with fail
                go_ret2
                try rw [hres]
                exact ⟨⟨none, 0, rfl, own_nil _ _ _⟩, HX3.out⟩
            · obtain rfl : j = N := by omega
              have hlk2 : ¬ (j : Int) < (j : Int) := by omega
              have HJ := Lib.hid (rjoin7_any LA lc H wr (by rw [HHJ.out]; have := HN.out; omega) (Sl.of_own HOWN.out) (fun h hh => ⟨Sl.of_own (HOWF.out h hh), by have := takeF_data HTK.out h.f (List.mem_map.2 ⟨h, hh, rfl⟩); omega⟩))
              rw [HHJ.out] at HJ
              have hsz2 : w2.heap.size + 1 ≤ wr.heap.size := by have := HBR.out.size; rw [World.size_alloc] at this; exact this
              have HRF := Lib.hid (readF_full HFR.out (tt := ((q + each : Nat) : Int)) (show (q : Int) < ((q + each : Nat) : Int) by have := HN.out; omega) (show (j : Int) ≤ ((q + each : Nat) : Int) - (q : Int) by have := HN.out; omega) (l := H.map Fh.f) (by show takeF x.C q ((j : Int)).toNat = _; rw [Int.toNat_natCast]; exact HTK.out))
              obtain ⟨⟨l, ok⟩, hl⟩ : ∃ L, joinF (H.map Fh.f) = L := ⟨_, rfl⟩
              rw [hl] at HJ HRF
              simp only at HJ HRF
              have HSZ2 := Lib.hid hsz2
              clear hl hBW hsz2
              go_wp2_with fail
              refine HJ.out.mono ?_
              rintro e w3 ⟨⟨A3, c3, rfl, own3⟩, hb3⟩
              have HBR3 := Lib.hid (HBR.out.trans (hb3.mono HSZ2.out))
              have HOW3 := Lib.hid (own_base own3 (show w.heap.size ≤ wr.heap.size from HBW.out.size))
              have HX3 := Lib.hid (since_step HBW.out hb3)
              clear own3 hb3 y0 y1 y4 hltb HJ
              have y0 := (box_cells' (HBT.out _ HBR3.out) 0).1
              have y1 := (box_cells' (HBT.out _ HBR3.out) 1).1
              have y4 := (box_cells' (HBT.out _ HBR3.out) 4).1
              have hltb := (box_cells' (HBT.out _ HBR3.out) 0).2.2
              simp only [List.getElem?_toArray, List.getElem?_cons_zero, List.getElem?_cons_succ] at y0 y1 y4
              cases ok with
              | false =>
                simp only [Bool.false_eq_true, if_false] at HRF
                have hres : placeR x.C q each odd = (0, []) := by
                  unfold placeR
                  rw [HRF.out]
                go_wp2_with fail
                go_ret2
                try rw [hres]
                exact ⟨⟨none, 0, rfl, own_nil _ _ _⟩, HX3.out⟩
              | true =>
                simp only [if_true] at HRF
                have hres : placeR x.C q each odd = (e0, l) := by
                  unfold placeR
                  rw [HRF.out]
                  exact if_pos HSO.out
                go_wp2_with fail
                go_ret2
                try rw [hres]
                exact ⟨⟨A3, c3, rfl, HOW3.out⟩, HX3.out⟩
        · have d3 : (Int.tmod e0 2 != (odd : Int)) = true := by rw [htm]; simpa using c3
          have hres : placeR x.C q each odd = (0, []) := placeR_no HFR.out (fun h => c3 h.2.2)
          clear c2_ c3 htm he0
          go_wp2_with fail
          go_ret2
          try rw [hres]
          exact ⟨⟨none, 0, rfl, own_nil _ _ _⟩, HZ.out⟩
      · have d2 : (s0 != 1) = true := by simpa using c2_
        have hres : placeR x.C q each odd = (0, []) := placeR_no HFR.out (fun h => c2_ h.2.1)
        clear c2_ htm he0
        go_wp2_with fail
        go_ret2
        try rw [hres]
        exact ⟨⟨none, 0, rfl, own_nil _ _ _⟩, HZ.out⟩
    · have c1b : (each : Int) < n0 := by omega
      have d1 : decide ((each : Int) < n0) = true := decide_eq_true c1b
      have hres : placeR x.C q each odd = (0, []) := placeR_no HFR.out (fun h => c1 h.1)
      clear c1 htm he0
      go_wp2_with fail
      go_ret2
      try rw [hres]
      exact ⟨⟨none, 0, rfl, own_nil _ _ _⟩, HZ.out⟩
  · rw [if_neg hz] at HFR
    have hzb : (z != 0) = true := by simpa using hz
    clear hz
    have hres : placeR x.C q each odd = (0, []) := by unfold placeR; rw [readF_no HFR.out]
    go_wp2_with fail
    go_ret2
    try rw [hres]
    exact ⟨⟨none, 0, rfl, own_nil _ _ _⟩, HZ.out⟩
end
section
theorem placeR_stand {C : List (List Nat)} {p each odd : Nat} : (∃ m l, standF C p each odd = some (m, l) ∧ placeR C (p + odd * each) each odd = (m, l) ∧ 0 < m ∧ m ≤ 16777215) ∨ (standF C p each odd = none ∧ (placeR C (p + odd * each) each odd).1 = 0) := by
  cases hs : standF C p each odd with
  | some y =>
    obtain ⟨m, l⟩ := y
    left
    refine ⟨m, l, rfl, ?_, standF_pos hs⟩
    unfold standF at hs
    unfold placeR
    cases hr : readF C ((p + odd * each : Nat) : Int) ((p + odd * each + each : Nat) : Int) with
    | none => rw [hr] at hs; cases hs
    | some y =>
      obtain ⟨b, f⟩ := y
      rw [hr] at hs
      simp only at hs ⊢
      split at hs
      · rename_i h9
        injection hs with hs
        rw [if_pos ⟨h9.1, h9.2.2⟩]
        exact hs
      · cases hs
  | none =>
    right
    refine ⟨rfl, ?_⟩
    unfold standF at hs
    unfold placeR
    cases hr : readF C ((p + odd * each : Nat) : Int) ((p + odd * each + each : Nat) : Int) with
    | none => rfl
    | some y =>
      obtain ⟨b, f⟩ := y
      rw [hr] at hs
      simp only at hs ⊢
      split at hs
      · cases hs
      · rename_i h9
        by_cases h8 : f.seq = 1 ∧ f.era % 2 = (odd : Int)
        · rw [if_pos h8]
          show f.era = 0
          by_cases h7 : f.era = 0
          · exact h7
          · exact absurd ⟨h8.1, h7, h8.2⟩ h9
        · rw [if_neg h8]
def laterR (a c : Int × List Nat) : Int × List Nat × Int := if a.1 < c.1 then (if c.1 = 0 then (0, [], 11) else (c.1, c.2, 0)) else if a.1 = 0 then (0, [], 11) else (a.1, a.2, 0)
theorem laterR_load {C : List (List Nat)} {p each : Nat} : laterR (placeR C p each 0) (placeR C (p + each) each 1) = loadS C p each := by
  have h0 := placeR_stand (C := C) (p := p) (each := each) (odd := 0)
  have h1 := placeR_stand (C := C) (p := p) (each := each) (odd := 1)
  rw [Nat.zero_mul, Nat.add_zero] at h0
  rw [Nat.one_mul] at h1
  unfold loadS laterR
  rcases h0 with ⟨m, l, e0, e1, e2, e2'⟩ | ⟨e0, e1⟩
  · rcases h1 with ⟨n, k, f0, f1, f2, f2'⟩ | ⟨f0, f1⟩
    · rw [e0, f0, e1, f1]
      simp only
      by_cases h : m < n
      · rw [if_pos h, if_pos h, if_neg (by omega)]
      · rw [if_neg h, if_neg h, if_neg (by omega)]
    · rw [e0, f0, e1, f1]
      simp only
      rw [if_neg (by omega), if_neg (by omega)]
  · rcases h1 with ⟨n, k, f0, f1, f2, f2'⟩ | ⟨f0, f1⟩
    · rw [e0, f0, e1, f1]
      simp only
      rw [if_pos f2, if_neg (by omega)]
    · rw [e0, f0, e1, f1]
      simp
theorem placeR_bd {C : List (List Nat)} {q each odd : Nat} : 0 ≤ (placeR C q each odd).1 ∧ (placeR C q each odd).1 ≤ 16777215 := by
  unfold placeR
  cases hr : readF C (q : Int) ((q + each : Nat) : Int) with
  | none => exact ⟨Int.le_refl _, by show (0 : Int) ≤ _; decide⟩
  | some y =>
    obtain ⟨b, f⟩ := y
    simp only
    split
    · have := (Fr.ok_iff f).1 (frD_some (readF_iff.1 hr).2.1).2.2.2
      exact ⟨this.2.2.1, this.2.2.2.1⟩
    · exact ⟨Int.le_refl _, by show (0 : Int) ≤ _; decide⟩
theorem rload9_any {B b c kc : Nat} {A KA : Option Addr} {R : List (RowS Nat)} {x : Rv} (p each : Nat) (w : World) (h : RvA B w b A c R KA kc x) (hp : p + 2 * each ≤ x.C.length) (he : 1 ≤ each) :
    Calls Try.prog 70 #[.pointer (some ⟨b, 0, none⟩), .int .i64 p, .int .i64 each] w fun e w' => LRes9 w.heap.size w' e (loadS x.C p each) ∧ Below w.heap.size w w' := by
  have HP1 := Lib.hid (rplace9_any p each 0 w h (by omega) he (by decide))
  have HP2 := Lib.hid (fun V (hV : Below w.heap.size w V) => rplace9_any (p + each) each 1 V (h.below hV) (by omega) he (by decide))
  have hL := laterR_load (C := x.C) (p := p) (each := each)
  have hb0 := placeR_bd (C := x.C) (q := p) (each := each) (odd := 0)
  have hb1 := placeR_bd (C := x.C) (q := p + each) (each := each) (odd := 1)
  rw [← hL]
  obtain ⟨p0, p1, p2, p3, p4, ps⟩ := h.got
  have hsm := h.small.1
  obtain ⟨n, hn⟩ : ∃ n, x.C.length = n := ⟨_, rfl⟩
  rw [hn] at p0 hsm hp
  obtain ⟨⟨m, la⟩, hP⟩ : ∃ P, placeR x.C p each 0 = P := ⟨_, rfl⟩
  obtain ⟨⟨m2, la2⟩, hQ⟩ : ∃ P, placeR x.C (p + each) each 1 = P := ⟨_, rfl⟩
  rw [hP] at HP1 hb0 ⊢
  rw [hQ] at HP2 hb1 ⊢
  simp only at hb0 hb1
  have w1 : IntKind.i64.wrap (2 * (each : Int)) = 2 * (each : Int) := by rw [IntKind.wrap_i64]; omega
  have w2 : IntKind.i64.wrap ((n : Int) - 2 * (each : Int)) = (n : Int) - 2 * (each : Int) := by rw [IntKind.wrap_i64]; omega
  have w3 : IntKind.i64.wrap ((p : Int) + (each : Int)) = ((p + each : Nat) : Int) := by rw [IntKind.wrap_i64]; omega
  have g1 : ¬ (p : Int) < 0 := by omega
  have g2 : ¬ (each : Int) < 1 := by omega
  have g3 : ¬ (n : Int) < (each : Int) := by omega
  have g4 : ¬ (n : Int) - 2 * (each : Int) < (p : Int) := by omega
  have d1 : decide ((p : Int) < 0) = false := decide_eq_false g1
  have d2 : decide ((each : Int) < 1) = false := decide_eq_false g2
  have d3 : decide ((n : Int) < (each : Int)) = false := decide_eq_false g3
  have d3n : decide (n < each) = false := decide_eq_false (by omega)
  have d4 : decide ((n : Int) - 2 * (each : Int) < (p : Int)) = false := decide_eq_false g4
  clear h hL hn hP hQ hp hsm he
  go_enter Try.func70, Try.ntmps70
  go_wp2_with fail
  refine HP1.out.mono ?_
  rintro e v1 ⟨⟨A1, c1, rfl, own1⟩, hb1'⟩
  have HB1 := Lib.hid hb1'
  have HO1 := Lib.hid own1
  clear own1 hb1' p0 p1 p2 p3 p4 ps HP1
  go_wp2_with fail
  refine (HP2.out _ HB1.out).mono ?_
  rintro e v2 ⟨⟨A2, c2, rfl, own2⟩, hb2⟩
  have HB2 := Lib.hid (since_step HB1.out hb2)
  have HO2 := Lib.hid (own_base own2 HB1.out.size)
  have HO12 := Lib.hid (own_below HO1.out hb2)
  clear own2 hb2 HP2
  by_cases h1 : m < m2
  · have h2 : ¬ m2 = 0 := by omega
    have e1 : (m2 == 0) = false := by simpa using h2
    have hres : laterR (m, la) (m2, la2) = (m2, la2, 0) := by unfold laterR; simp only; rw [if_pos h1, if_neg h2]
    have HRES := Lib.hid hres
    clear hres h2
    go_wp2_with fail
    go_ret3
    rw [HRES.out]
    exact ⟨⟨A2, c2, rfl, HO2.out⟩, HB2.out⟩
  · by_cases h2 : m = 0
    · have e1 : (m == 0) = true := by simpa using h2
      have hres : laterR (m, la) (m2, la2) = (0, [], 11) := by unfold laterR; simp only; rw [if_neg h1, if_pos h2]
      have HRES := Lib.hid hres
      clear hres h2
      go_wp2_with fail
      go_ret3
      rw [HRES.out]
      exact ⟨⟨none, 0, rfl, own_nil _ _ _⟩, HB2.out⟩
    · have e1 : (m == 0) = false := by simpa using h2
      have hres : laterR (m, la) (m2, la2) = (m, la, 0) := by unfold laterR; simp only; rw [if_neg h1, if_neg h2]
      have HRES := Lib.hid hres
      clear hres h2
      go_wp2_with fail
      go_ret3
      rw [HRES.out]
      exact ⟨⟨A1, c1, rfl, HO12.out⟩, HB2.out⟩
end
end Go.Proofs.Ytiggcpfmmgmncaa
