import Derived.Test.YtiggcpfmmgmncaaVp21
set_option maxHeartbeats 16000000
set_option maxRecDepth 100000
set_option linter.unusedVariables false
set_option linter.unusedSimpArgs false
namespace Go.Proofs.Ytiggcpfmmgmncaa
open Go.ChangeShapes Go.WideShapes Go.ChangeAt Go.RowKit
section
theorem loadS_ways (S : List (List Nat)) (p each : Nat) : ((loadS S p each).2.2 = 0 ∨ (loadS S p each).2.2 = 11) ∧ 0 ≤ (loadS S p each).1 ∧ (loadS S p each).1 ≤ 16777215 := by
  unfold loadS
  cases h0 : standF S p each 0 with
  | none =>
    cases h1 : standF S p each 1 with
    | none => exact ⟨.inr rfl, by decide, by decide⟩
    | some x => have := standF_pos h1; exact ⟨.inl rfl, by simp only; omega, this.2⟩
  | some y =>
    have h2 := standF_pos h0
    cases h1 : standF S p each 1 with
    | none => exact ⟨.inl rfl, by simp only; omega, h2.2⟩
    | some x =>
      have := standF_pos h1
      simp only
      split
      · exact ⟨.inl rfl, by simp only; omega, this.2⟩
      · exact ⟨.inl rfl, by simp only; omega, h2.2⟩
theorem cut_rows {life era seq : Int} {b : List Nat} {R : List (List Nat)} (h : cutF life era seq b = (R, 0)) (ho : Oct b) : ∀ c ∈ R, Oct c ∧ c.length = 96 := by
  rcases cutF_ways life era seq b with ⟨n, hn, hb, hok, e⟩ | ⟨z, hz, e⟩
  · rw [h] at e
    injection e with e _
    subst e
    intro c hc
    obtain ⟨f, hf, rfl⟩ := List.mem_map.1 hc
    obtain ⟨j, hj, rfl⟩ := List.mem_map.1 hf
    have hjn := List.mem_range.1 hj
    have hok2 := (piece_ok hjn hb).trans hok
    have h10 := ((Fr.ok_iff _).1 hok2).2.2.2.2.2.2.2.2.2.2
    exact ⟨oct_sealed (Fr.body_oct hok2 (seg_oct ho _ _)), by rw [sealed_len, Fr.body_len h10]⟩
  · rw [h] at e
    injection e with _ e
    omega
theorem cutF_err {life era seq : Int} {b : List Nat} (h : (cutF life era seq b).2 ≠ 0) : (cutF life era seq b).2 = 6 ∨ (cutF life era seq b).2 = 2 := by
  rcases cutF_ways life era seq b with ⟨n, hn, hb, hok, e⟩ | ⟨z, hz, e⟩
  · rw [e] at h; exact absurd rfl h
  · rw [e]; exact hz
def Dv.save (d : Dv) (p each : Nat) (life era : Int) (b : List Nat) : Dv × Int :=
  if era ≤ (loadS d.S p each).1 then (d, 2)
  else if (cutF life era 1 b).2 ≠ 0 then (d, (cutF life era 1 b).2)
  else if (each : Int) < ((cutF life era 1 b).1.length : Int) then (d, 10)
  else d.write ((p + era.toNat % 2 * each : Nat) : Int) (cutF life era 1 b).1
theorem ssave_old {B b g kc : Nat} {K : Option Addr} {d : Dv} (p each : Nat) (life era : Int) (A : Option Addr) (c : Nat) (l : List Nat) (w : World) (h : DrA B w b g K kc d) (hp : p + 2 * each ≤ d.S.length) (he : 1 ≤ each)
    (hlc : l.length ≤ c) (hcm : c ≤ maxLen) (hl : l.length ≤ 100000) (hs : Sl w A (by8 l)) (ho : Oct l) (hera : era ≤ (loadS d.S p each).1) :
    Calls Try.prog 32 #[.pointer (some ⟨b, 0, none⟩), .int .i64 p, .int .i64 each, .int .i64 life, .int .i64 era, .slice A l.length c] w fun e w' => e = .returned (.int .i64 2) ∧ Below w.heap.size w w' := by
  have HL := Lib.hid (sload_any p each w h hp he)
  obtain ⟨hw1, hw2, hw3⟩ := loadS_ways d.S p each
  have HC := Lib.hid (fun V (hV : Below w.heap.size w V) => fcut7_any life era 1 A c l V hlc hcm (by omega) (hs.below hV) ho)
  rcases hw1 with hw1 | hw1
  · obtain ⟨⟨la, lb, le⟩, hL⟩ : ∃ L, loadS d.S p each = L := ⟨_, rfl⟩
    rw [hL] at hw1 hw2 hw3 HL hera
    simp only at hw1 hw2 hw3 hera
    subst hw1
    have HHL := Lib.hid hL
    clear hL
    clear h hs ho HC
    go_enter Try.func32, Try.ntmps32
    go_wp2_with fail
    refine HL.out.mono ?_
    rintro e w1 ⟨⟨A1, c1, rfl, own1⟩, hb1⟩
    clear own1
    simp only
    go_wp2_with fail
    go_ret
    exact ⟨rfl, hb1⟩
  · obtain ⟨⟨la, lb, le⟩, hL⟩ : ∃ L, loadS d.S p each = L := ⟨_, rfl⟩
    rw [hL] at hw1 hw2 hw3 HL hera
    simp only at hw1 hw2 hw3 hera
    subst hw1
    have HHL := Lib.hid hL
    clear hL
    clear h hs ho HC
    go_enter Try.func32, Try.ntmps32
    go_wp2_with fail
    refine HL.out.mono ?_
    rintro e w1 ⟨⟨A1, c1, rfl, own1⟩, hb1⟩
    clear own1
    simp only
    go_wp2_with fail
    go_ret
    exact ⟨rfl, hb1⟩
theorem ssave_cut {B b g kc : Nat} {K : Option Addr} {d : Dv} (p each : Nat) (life era : Int) (A : Option Addr) (c : Nat) (l : List Nat) (w : World) (h : DrA B w b g K kc d) (hp : p + 2 * each ≤ d.S.length) (he : 1 ≤ each)
    (hlc : l.length ≤ c) (hcm : c ≤ maxLen) (hl : l.length ≤ 100000) (hs : Sl w A (by8 l)) (ho : Oct l) (hera : ¬ era ≤ (loadS d.S p each).1) (hcz : (cutF life era 1 l).2 ≠ 0) :
    Calls Try.prog 32 #[.pointer (some ⟨b, 0, none⟩), .int .i64 p, .int .i64 each, .int .i64 life, .int .i64 era, .slice A l.length c] w fun e w' => e = .returned (.int .i64 (cutF life era 1 l).2) ∧ Below w.heap.size w w' := by
  have HL := Lib.hid (sload_any p each w h hp he)
  obtain ⟨hw1, hw2, hw3⟩ := loadS_ways d.S p each
  have HC := Lib.hid (fun V (hV : Below w.heap.size w V) => fcut7_any life era 1 A c l V hlc hcm (by omega) (hs.below hV) ho)
  have hz := cutF_err hcz
  obtain ⟨⟨R, z⟩, hR⟩ : ∃ C, cutF life era 1 l = C := ⟨_, rfl⟩
  rw [hR] at HC hz hcz ⊢
  simp only at hz hcz ⊢
  have hzb : (z != 0) = true := by simpa using hcz
  clear hR hcz hz
  rcases hw1 with hw1 | hw1
  · obtain ⟨⟨la, lb, le⟩, hL⟩ : ∃ L, loadS d.S p each = L := ⟨_, rfl⟩
    rw [hL] at hw1 hw2 hw3 HL hera
    simp only at hw1 hw2 hw3 hera
    subst hw1
    have HHL := Lib.hid hL
    clear hL
    clear h hs ho
    have hera2 : la < era := by omega
    go_enter Try.func32, Try.ntmps32
    go_wp2_with fail
    refine HL.out.mono ?_
    rintro e w1 ⟨⟨A1, c1, rfl, own1⟩, hb1⟩
    clear own1
    simp only
    go_wp2_with fail
    refine (HC.out _ hb1).mono ?_
    rintro e w2 ⟨⟨A2, c2, S2, rfl, own2, hm2, hor2⟩, hb2⟩
    have hB := since_step hb1 hb2
    clear own2 hor2 hm2
    simp only
    go_wp2_with fail
    go_ret
    exact ⟨rfl, hB⟩
  · obtain ⟨⟨la, lb, le⟩, hL⟩ : ∃ L, loadS d.S p each = L := ⟨_, rfl⟩
    rw [hL] at hw1 hw2 hw3 HL hera
    simp only at hw1 hw2 hw3 hera
    subst hw1
    have HHL := Lib.hid hL
    clear hL
    clear h hs ho
    have hera2 : la < era := by omega
    go_enter Try.func32, Try.ntmps32
    go_wp2_with fail
    refine HL.out.mono ?_
    rintro e w1 ⟨⟨A1, c1, rfl, own1⟩, hb1⟩
    clear own1
    simp only
    go_wp2_with fail
    refine (HC.out _ hb1).mono ?_
    rintro e w2 ⟨⟨A2, c2, S2, rfl, own2, hm2, hor2⟩, hb2⟩
    have hB := since_step hb1 hb2
    clear own2 hor2 hm2
    simp only
    go_wp2_with fail
    go_ret
    exact ⟨rfl, hB⟩
theorem ssave_big {B b g kc : Nat} {K : Option Addr} {d : Dv} (p each : Nat) (life era : Int) (A : Option Addr) (c : Nat) (l : List Nat) (w : World) (h : DrA B w b g K kc d) (hp : p + 2 * each ≤ d.S.length) (he : 1 ≤ each)
    (hlc : l.length ≤ c) (hcm : c ≤ maxLen) (hl : l.length ≤ 100000) (hs : Sl w A (by8 l)) (ho : Oct l) (hera : ¬ era ≤ (loadS d.S p each).1) (hcz : (cutF life era 1 l).2 = 0) (hbig : (each : Int) < ((cutF life era 1 l).1.length : Int)) :
    Calls Try.prog 32 #[.pointer (some ⟨b, 0, none⟩), .int .i64 p, .int .i64 each, .int .i64 life, .int .i64 era, .slice A l.length c] w fun e w' => e = .returned (.int .i64 10) ∧ Below w.heap.size w w' := by
  have HL := Lib.hid (sload_any p each w h hp he)
  obtain ⟨hw1, hw2, hw3⟩ := loadS_ways d.S p each
  have HC := Lib.hid (fun V (hV : Below w.heap.size w V) => fcut7_any life era 1 A c l V hlc hcm (by omega) (hs.below hV) ho)
  obtain ⟨⟨R, z⟩, hR⟩ : ∃ C, cutF life era 1 l = C := ⟨_, rfl⟩
  rw [hR] at HC hbig hcz
  simp only at hbig hcz
  subst hcz
  clear hR
  rcases hw1 with hw1 | hw1
  · obtain ⟨⟨la, lb, le⟩, hL⟩ : ∃ L, loadS d.S p each = L := ⟨_, rfl⟩
    rw [hL] at hw1 hw2 hw3 HL hera
    simp only at hw1 hw2 hw3 hera
    subst hw1
    have HHL := Lib.hid hL
    clear hL
    clear h hs ho
    have hera2 : la < era := by omega
    go_enter Try.func32, Try.ntmps32
    go_wp2_with fail
    refine HL.out.mono ?_
    rintro e w1 ⟨⟨A1, c1, rfl, own1⟩, hb1⟩
    clear own1
    simp only
    go_wp2_with fail
    refine (HC.out _ hb1).mono ?_
    rintro e w2 ⟨⟨A2, c2, S2, rfl, own2, hm2, hor2⟩, hb2⟩
    have hB := since_step hb1 hb2
    simp only at hm2
    have hbig2 : (each : Int) < (S2.length : Int) := by rw [← hm2, List.length_map] at hbig; exact hbig
    clear own2 hor2 hm2 hbig
    simp only
    go_wp2_with fail
    go_ret
    exact ⟨rfl, hB⟩
  · obtain ⟨⟨la, lb, le⟩, hL⟩ : ∃ L, loadS d.S p each = L := ⟨_, rfl⟩
    rw [hL] at hw1 hw2 hw3 HL hera
    simp only at hw1 hw2 hw3 hera
    subst hw1
    have HHL := Lib.hid hL
    clear hL
    clear h hs ho
    have hera2 : la < era := by omega
    go_enter Try.func32, Try.ntmps32
    go_wp2_with fail
    refine HL.out.mono ?_
    rintro e w1 ⟨⟨A1, c1, rfl, own1⟩, hb1⟩
    clear own1
    simp only
    go_wp2_with fail
    refine (HC.out _ hb1).mono ?_
    rintro e w2 ⟨⟨A2, c2, S2, rfl, own2, hm2, hor2⟩, hb2⟩
    have hB := since_step hb1 hb2
    simp only at hm2
    have hbig2 : (each : Int) < (S2.length : Int) := by rw [← hm2, List.length_map] at hbig; exact hbig
    clear own2 hor2 hm2 hbig
    simp only
    go_wp2_with fail
    go_ret
    exact ⟨rfl, hB⟩
theorem ssave_go {B b g kc : Nat} {K : Option Addr} {d : Dv} (p each : Nat) (life era : Int) (A : Option Addr) (c : Nat) (l : List Nat) (w : World) (h : DrA B w b g K kc d) (hp : p + 2 * each ≤ d.S.length) (he : 1 ≤ each)
    (hlc : l.length ≤ c) (hcm : c ≤ maxLen) (hl : l.length ≤ 100000) (hs : Sl w A (by8 l)) (ho : Oct l) (hera : ¬ era ≤ (loadS d.S p each).1) (hcz : (cutF life era 1 l).2 = 0) (hbig : ¬ (each : Int) < ((cutF life era 1 l).1.length : Int)) :
    Calls Try.prog 32 #[.pointer (some ⟨b, 0, none⟩), .int .i64 p, .int .i64 each, .int .i64 life, .int .i64 era, .slice A l.length c] w fun e w' => e = .returned (.int .i64 (d.write ((p + era.toNat % 2 * each : Nat) : Int) (cutF life era 1 l).1).2) ∧ Chg2 b g w w' ∧ DrA B w' b g K kc (d.write ((p + era.toNat % 2 * each : Nat) : Int) (cutF life era 1 l).1).1 := by
  have HL := Lib.hid (sload_any p each w h hp he)
  obtain ⟨hw1, hw2, hw3⟩ := loadS_ways d.S p each
  have HC := Lib.hid (fun V (hV : Below w.heap.size w V) => fcut7_any life era 1 A c l V hlc hcm (by omega) (hs.below hV) ho)
  have hrows := cut_rows (b := l) (Prod.ext rfl hcz : cutF life era 1 l = ((cutF life era 1 l).1, 0)) ho
  obtain ⟨⟨R, z⟩, hR⟩ : ∃ C, cutF life era 1 l = C := ⟨_, rfl⟩
  rw [hR] at HC hbig hcz hrows ⊢
  simp only at hbig hcz hrows ⊢
  subst hcz
  have hsl := h.len.2
  obtain ⟨ee, rfl⟩ : ∃ ee : Nat, era = (ee : Int) := ⟨era.toNat, by omega⟩
  rw [Int.toNat_natCast]
  have HPL := Lib.hid (fun V => splace_any p each ee V (by omega) (by omega))
  obtain ⟨q, hq⟩ : ∃ q, p + ee % 2 * each = q := ⟨_, rfl⟩
  rw [hq] at HPL ⊢
  have HD := Lib.hid (fun V (hV : Below w.heap.size w V) => h.below hV)
  have HEA := Lib.hid (show each ≤ 2048 by omega)
  have HROWS := Lib.hid hrows
  clear hR hq hrows
  rcases hw1 with hw1 | hw1
  · obtain ⟨⟨la, lb, le⟩, hL⟩ : ∃ L, loadS d.S p each = L := ⟨_, rfl⟩
    rw [hL] at hw1 hw2 hw3 HL hera
    simp only at hw1 hw2 hw3 hera
    subst hw1
    have HHL := Lib.hid hL
    clear hL
    clear h hs ho
    have hera2 : la < (ee : Int) := by omega
    go_enter Try.func32, Try.ntmps32
    go_wp2_with fail
    refine HL.out.mono ?_
    rintro e w1 ⟨⟨A1, c1, rfl, own1⟩, hb1⟩
    clear own1
    simp only
    go_wp2_with fail
    refine (HC.out _ hb1).mono ?_
    rintro e w2 ⟨⟨A2, c2, S2, rfl, own2, hm2, hor2⟩, hb2⟩
    have hB := since_step hb1 hb2
    simp only at hm2
    have hbig2 : ¬ (each : Int) < (S2.length : Int) := by rw [← hm2, List.length_map] at hbig; omega
    simp only
    have HM2 := Lib.hid hm2
    have HRF := Lib.hid (RowsF.of_own (HD.out _ hB) own2 (fun s hs => hor2 s hs))
    have HLS := Lib.hid (show S2.length ≤ 1000000 by have := HEA.out; omega)
    clear own2 hor2 hm2 hbig
    go_wp2_with fail
    refine (HPL.out _).mono ?_
    rintro e w3 ⟨rfl, hb3⟩
    have hB3 := since_step hB hb3
    have HB3 := Lib.hid hB3
    have HW := Lib.hid (dwrite_ok (q : Int) A2 c2 S2 w3 (HD.out _ hB3) HLS.out (HRF.out.below hb3).1 (fun r hr => ⟨(HRF.out.below hb3).2 r hr, (HROWS.out r.l (by rw [← HM2.out]; exact List.mem_map.2 ⟨r, hr, rfl⟩)).1⟩))
    rw [HM2.out] at HW
    clear hb3 hB3
    go_wp2_with fail
    refine HW.out.mono ?_
    rintro e w4 ⟨rfl, hc4, hd4⟩
    go_wp2_with fail
    go_ret
    exact ⟨rfl, (Chg2.of_below HB3.out).trans hc4, hd4⟩
  · obtain ⟨⟨la, lb, le⟩, hL⟩ : ∃ L, loadS d.S p each = L := ⟨_, rfl⟩
    rw [hL] at hw1 hw2 hw3 HL hera
    simp only at hw1 hw2 hw3 hera
    subst hw1
    have HHL := Lib.hid hL
    clear hL
    clear h hs ho
    have hera2 : la < (ee : Int) := by omega
    go_enter Try.func32, Try.ntmps32
    go_wp2_with fail
    refine HL.out.mono ?_
    rintro e w1 ⟨⟨A1, c1, rfl, own1⟩, hb1⟩
    clear own1
    simp only
    go_wp2_with fail
    refine (HC.out _ hb1).mono ?_
    rintro e w2 ⟨⟨A2, c2, S2, rfl, own2, hm2, hor2⟩, hb2⟩
    have hB := since_step hb1 hb2
    simp only at hm2
    have hbig2 : ¬ (each : Int) < (S2.length : Int) := by rw [← hm2, List.length_map] at hbig; omega
    simp only
    have HM2 := Lib.hid hm2
    have HRF := Lib.hid (RowsF.of_own (HD.out _ hB) own2 (fun s hs => hor2 s hs))
    have HLS := Lib.hid (show S2.length ≤ 1000000 by have := HEA.out; omega)
    clear own2 hor2 hm2 hbig
    go_wp2_with fail
    refine (HPL.out _).mono ?_
    rintro e w3 ⟨rfl, hb3⟩
    have hB3 := since_step hB hb3
    have HB3 := Lib.hid hB3
    have HW := Lib.hid (dwrite_ok (q : Int) A2 c2 S2 w3 (HD.out _ hB3) HLS.out (HRF.out.below hb3).1 (fun r hr => ⟨(HRF.out.below hb3).2 r hr, (HROWS.out r.l (by rw [← HM2.out]; exact List.mem_map.2 ⟨r, hr, rfl⟩)).1⟩))
    rw [HM2.out] at HW
    clear hb3 hB3
    go_wp2_with fail
    refine HW.out.mono ?_
    rintro e w4 ⟨rfl, hc4, hd4⟩
    go_wp2_with fail
    go_ret
    exact ⟨rfl, (Chg2.of_below HB3.out).trans hc4, hd4⟩
theorem ssave_any {B b g kc : Nat} {K : Option Addr} {d : Dv} (p each : Nat) (life era : Int) (A : Option Addr) (c : Nat) (l : List Nat) (w : World) (h : DrA B w b g K kc d) (hp : p + 2 * each ≤ d.S.length) (he : 1 ≤ each)
    (hlc : l.length ≤ c) (hcm : c ≤ maxLen) (hl : l.length ≤ 100000) (hs : Sl w A (by8 l)) (ho : Oct l) :
    Calls Try.prog 32 #[.pointer (some ⟨b, 0, none⟩), .int .i64 p, .int .i64 each, .int .i64 life, .int .i64 era, .slice A l.length c] w fun e w' => e = .returned (.int .i64 (d.save p each life era l).2) ∧ Chg2 b g w w' ∧ DrA B w' b g K kc (d.save p each life era l).1 := by
  unfold Dv.save
  by_cases hera : era ≤ (loadS d.S p each).1
  · rw [if_pos hera]
    refine (ssave_old p each life era A c l w h hp he hlc hcm hl hs ho hera).mono ?_
    rintro e w1 ⟨rfl, hb⟩
    exact ⟨rfl, Chg2.of_below hb, h.below hb⟩
  · rw [if_neg hera]
    by_cases hcz : (cutF life era 1 l).2 ≠ 0
    · rw [if_pos hcz]
      refine (ssave_cut p each life era A c l w h hp he hlc hcm hl hs ho hera hcz).mono ?_
      rintro e w1 ⟨rfl, hb⟩
      exact ⟨rfl, Chg2.of_below hb, h.below hb⟩
    · rw [if_neg hcz]
      have hcz : (cutF life era 1 l).2 = 0 := by simpa using hcz
      by_cases hbig : (each : Int) < ((cutF life era 1 l).1.length : Int)
      · rw [if_pos hbig]
        refine (ssave_big p each life era A c l w h hp he hlc hcm hl hs ho hera hcz hbig).mono ?_
        rintro e w1 ⟨rfl, hb⟩
        exact ⟨rfl, Chg2.of_below hb, h.below hb⟩
      · rw [if_neg hbig]
        exact ssave_go p each life era A c l w h hp he hlc hcm hl hs ho hera hcz hbig
end
section
theorem frB_zero : frB (List.replicate 96 0) = none := by decide +kernel
theorem frD_new (n : Nat) (i : Int) : frD (Dv.new n).S i = none := by
  unfold frD
  split
  · rename_i h
    have e : (Dv.new n).S.getD i.toNat [] = List.replicate 96 0 := by
      show (List.replicate n (List.replicate 96 0)).getD i.toNat [] = _
      have hl : (Dv.new n).S.length = n := by simp [Dv.new]
      rw [hl] at h
      rw [List.getD_eq_getElem?_getD, List.getElem?_replicate, if_pos (by omega)]; rfl
    rw [e, frB_zero]
  · rfl
theorem write_len (d : Dv) (p : Int) (cs : List (List Nat)) : (d.write p cs).1.S.length = d.S.length := by
  unfold Dv.write
  split
  · split
    · split
      · rfl
      · simp only [putK_len]
    · rfl
  · rfl
theorem save_len (d : Dv) (p each : Nat) (life era : Int) (b : List Nat) : (d.save p each life era b).1.S.length = d.S.length := by
  unfold Dv.save
  split
  · rfl
  · split
    · rfl
    · split
      · rfl
      · exact write_len _ _ _
end
end Go.Proofs.Ytiggcpfmmgmncaa
