import Derived.Test.YtahdmomadbbhoaaGreatDg38
section
namespace Go.Proofs.YtahdmomadbbhoaaGreat
open Go.ChangeShapes Go.WideShapes Go.ChangeAt Go.RowKit
open Go.Maps (Keyed IsMap)
set_option linter.unusedVariables false
set_option linter.unusedSimpArgs false

def PRes (w' : World) (e : Ending) (R : Int × List Fw) : Prop := ∃ A' c', e = .returned (.tuple #[.slice A' R.2.length c', .int .i64 R.1]) ∧ Sl w' A' (rc Fw.cells R.2)
theorem PRes.nil (w' : World) (n : Int) : PRes w' (.returned (.tuple #[.slice none 0 0, .int .i64 n])) (n, []) := ⟨none, 0, rfl, Sl.nil⟩
theorem grown_of_below {w w' : World} (h : Below w.heap.size w w') : w.grownBy w' none := ⟨h.os, h.tape, h.output, h.size, fun i hi _ => h.block i hi⟩
theorem same_self {a c a' c' : Int} (ha : W64 a) (hc : W64 c) (ha' : W64 a') (hc' : W64 c') : (klU a' c').sameKey (klU a c) = decide (a' = a ∧ c' = c) := by
  by_cases h : a' = a ∧ c' = c
  · obtain ⟨rfl, rfl⟩ := h
    rw [decide_eq_true ⟨rfl, rfl⟩]
    have := Maps.has_put_same (H := Unit) (D := .map []) Maps.isMap_empty (klU_key ha hc) (.agg [])
    unfold klU at *
    simp [Lit.sameKey]
  · rw [decide_eq_false h]
    exact Maps.sameKey_ne fun e => h (klU_inj ha' hc' ha hc e)
structure OutIs (fs : List Fw) (left : Lit → Bool) (O : List Fw) : Prop where
  sound : ∀ x ∈ O, (∃ y ∈ fs, y.ac = x.ac ∧ y.cl = x.cl) ∧ x.amt = sumU fs x.ac x.cl ∧ x.amt ≠ 0 ∧ left (klU x.ac x.cl) = false
  all : ∀ y ∈ fs, left (klU y.ac y.cl) = false → In64 (sumU fs y.ac y.cl) ∧ (sumU fs y.ac y.cl ≠ 0 → (⟨y.ac, y.cl, sumU fs y.ac y.cl⟩ : Fw) ∈ O)
  apart : O.Pairwise (fun x y => ¬ (x.ac = y.ac ∧ x.cl = y.cl))
theorem OutIs.start {fs : List Fw} {D : DataW Unit} (h : MapIs fs D) : OutIs fs (Maps.has D) [] :=
  ⟨fun x hx => (by cases hx), fun y hy hl => (by rw [h.has y hy] at hl; cases hl), List.Pairwise.nil⟩
theorem OutIs.skip {fs : List Fw} {D : DataW Unit} {left : Lit → Bool} {O : List Fw} (h : OutIs fs left O) (hD : MapIs fs D) {a c : Int} (ha : W64 a) (hc : W64 c) (hin : In64 (sumU fs a c)) (h0 : sumU fs a c = 0) : OutIs fs (fun z => left z && !z.sameKey (klU a c)) O := by
  refine ⟨fun x hx => ?_, fun y hy hl => ?_, h.apart⟩
  · obtain ⟨h1, h2, h3, h4⟩ := h.sound x hx
    exact ⟨h1, h2, h3, by rw [h4]; rfl⟩
  · have hw := hD.w64 y hy
    by_cases e : y.ac = a ∧ y.cl = c
    · rw [e.1, e.2]
      exact ⟨hin, fun hn => absurd h0 hn⟩
    · refine h.all y hy ?_
      rw [same_self ha hc hw.1 hw.2, decide_eq_false e] at hl
      simpa using hl
theorem OutIs.take {fs : List Fw} {D : DataW Unit} {left : Lit → Bool} {O : List Fw} (h : OutIs fs left O) (hD : MapIs fs D) {a c : Int} (ha : W64 a) (hc : W64 c) (hk : ∃ y ∈ fs, y.ac = a ∧ y.cl = c) (hl : left (klU a c) = true) (hin : In64 (sumU fs a c)) (h0 : sumU fs a c ≠ 0) : OutIs fs (fun z => left z && !z.sameKey (klU a c)) (O ++ [⟨a, c, sumU fs a c⟩]) := by
  refine ⟨fun x hx => ?_, fun y hy hly => ?_, ?_⟩
  · rcases List.mem_append.1 hx with hx | hx
    · obtain ⟨h1, h2, h3, h4⟩ := h.sound x hx
      exact ⟨h1, h2, h3, by rw [h4]; rfl⟩
    · obtain rfl : x = ⟨a, c, sumU fs a c⟩ := by simpa using hx
      refine ⟨hk, rfl, h0, ?_⟩
      simp only
      rw [same_self ha hc ha hc, decide_eq_true ⟨rfl, rfl⟩]
      simp
  · have hw := hD.w64 y hy
    by_cases e : y.ac = a ∧ y.cl = c
    · rw [e.1, e.2]
      exact ⟨hin, fun _ => by simp⟩
    · rw [same_self ha hc hw.1 hw.2, decide_eq_false e] at hly
      obtain ⟨h1, h2⟩ := h.all y hy (by simpa using hly)
      exact ⟨h1, fun hn => by simp [h2 hn]⟩
  · rw [List.pairwise_append]
    refine ⟨h.apart, by simp, fun x hx y hy => ?_⟩
    obtain rfl : y = ⟨a, c, sumU fs a c⟩ := by simpa using hy
    rintro ⟨e1, e2⟩
    obtain ⟨_, _, _, h4⟩ := h.sound x hx
    simp only at e1 e2
    rw [e1, e2, hl] at h4
    cases h4
theorem OutIs.done {fs O R : List Fw} {left : Lit → Bool} (h : OutIs fs left O) (hl : ∀ kl, left kl = false) (hm : ∀ x, x ∈ R ↔ x ∈ O) (hs : R.Pairwise (fun a b => ahF a b = true)) : R = purseOf fs ∧ fitsU fs = true := by
  refine ⟨purse_unique hs fun x => ?_, ?_⟩
  · rw [hm]
    constructor
    · intro hx
      obtain ⟨h1, h2, h3, _⟩ := h.sound x hx
      exact ⟨h1, h2, h3⟩
    · rintro ⟨⟨y, hy, e1, e2⟩, h2, h3⟩
      have := (h.all y hy (hl _)).2
      rw [e1, e2, ← h2] at this
      have h4 := this h3
      cases x
      exact h4
  · unfold fitsU
    rw [List.all_eq_true]
    intro u hu
    obtain ⟨x, hx, e1, e2⟩ := (mem_unitsU fs u).1 hu
    rw [fitI_iff, ← e1, ← e2]
    exact (h.all x hx (hl _)).1
theorem fits_no {fs : List Fw} {a c : Int} (hk : ∃ y ∈ fs, y.ac = a ∧ y.cl = c) (h : ¬ In64 (sumU fs a c)) : fitsU fs = false := by
  rw [← Bool.not_eq_true]
  intro hf
  unfold fitsU at hf
  rw [List.all_eq_true] at hf
  have := hf ⟨a, c⟩ ((mem_unitsU fs _).2 hk)
  exact h ((fitI_iff _).1 this)
theorem rng_ne {P : Program} {k : TypeId} {R : Value → Option (DataW Unit × List MemPlace)} {w : World} {b r n : Nat} {D : DataW Unit} {left : Lit → Bool} {cnt : Nat} (h : w.ranges P k R b r n D left cnt) {B e s m c : Nat} {g : Nat} {xs : List Value} (ho : w.ownsRow B e s (.slice (some ⟨g, 0, none⟩) m c) m xs) : g ≠ b ∧ g ≠ r := by
  obtain ⟨es, clock, since, seen, c0, hb, _, _, _, hr, _⟩ := h
  rcases ho.2 with ⟨hv, _⟩ | ⟨g', cap, cur, hv, _, hg, _⟩
  · cases hv
  · injection hv with e1 _ _
    injection e1 with e1
    injection e1 with e1
    subst e1
    constructor
    · rintro rfl; rw [hg] at hb; cases hb
    · rintro rfl; rw [hg] at hr; cases hr
theorem own_some {w : World} {B e s n c : Nat} {A : Option Addr} {xs : List Value} (h : w.ownsRow B e s (.slice A n c) n xs) (hn : 0 < n) : ∃ g, A = some ⟨g, 0, none⟩ := by
  obtain ⟨g, rfl, _⟩ := own_at h hn
  exact ⟨g, rfl⟩
set_option maxHeartbeats 8000000 in
set_option maxRecDepth 100000 in
theorem ordered_any (fs : List Fw) (D : DataW Unit) (b n : Nat) (w : World) (hn : n ≤ 100000) (hown : w.ownsMap Tryz.prog 28 rW b n D) (hD : MapIs fs D) (h128 : ∀ a c, In128 (sumU fs a c)) :
    Calls Tryz.prog 97 #[.map (some b)] w fun e w' => PRes w' e (if fitsU fs = false then (7, []) else (0, purseOf fs)) ∧ Below w.heap.size w w' := by
  obtain ⟨RES, hRES⟩ : ∃ R, (if fitsU fs = false then ((7 : Int), ([] : List Fw)) else (0, purseOf fs)) = R := ⟨_, rfl⟩
  rw [hRES]
  have HRES := Lib.hid hRES
  clear hRES
  have hsz : Maps.size D ≤ n := hown.size_le
  have hbw : b < w.heap.size := hown.lt
  have HD := Lib.hid hD
  have H128 := Lib.hid h128
  clear hD h128
  obtain ⟨N0, hN0⟩ : ∃ N0, Maps.size D = N0 := ⟨_, rfl⟩
  rw [hN0] at hsz
  have HN0 := Lib.hid hN0
  have HHAS : Hid (∀ kl, Maps.has D kl = true → ∃ x ∈ fs, kl = klU x.ac x.cl) := Lib.hid HD.out.keys
  clear hN0
  go_enter Tryz.func97, Tryz.ntmps97
  go_wp2_with (first
    | (refine wpList_len_own _ rfl _ 146 rfl 28 56 Tryz.underlying146 rW b n D rfl hown ?_; rw [HN0.out])
    | (at_make; refine wpList_mk rfl (.const (.int .i64 0)) (.tmp 10) rfl EFw N0 rfl rfl rfl (by omega) (by unfold maxLen; omega) (Nat.le_refl _) ?_; intro w1 own1 hb1)
    | (at_range; refine wpList_range_own _ rfl _ 146 rfl 28 56 keyed Tryz.underlying146 rW b n D rfl (hown.kept (grown_of_below hb1) (by simp)) ?_; intro w2 hrg2 hg2 hs2)
    | fail)
  go_frame
  have own2 := own1.kept hg2 (Or.inr (by simp [Value.ownBlock]))
  have hrB := hb1.size
  have hB2 : Below w.heap.size w w2 := hb1.trans (below_of_grown hg2 hb1.size (by simp))
  rw [HN0.out] at hrg2
  generalize hr : w1.heap.size = r at *
  clear hown hg2 hs2 hr hb1 own1
  go_loopw [4] (fun ov wr => ∃ (left : Lit → Bool) (cnt : Nat) (O : List Fw) (g c' : Nat), wr.ranges Tryz.prog 28 rW b r n D left cnt ∧ ov = .slice (some ⟨g, 0, none⟩) O.length c' ∧ wr.ownsRow w.heap.size 86 3 (.slice (some ⟨g, 0, none⟩) O.length c') O.length (rc Fw.cells O) ∧ OutIs fs left O ∧ (∀ kl, left kl = true → Maps.has D kl = true) ∧ O.length + cnt ≤ N0 ∧ Below w.heap.size w wr) (fun _ wr => wr.rangeLeft b r)
  case atStart => exact ⟨Maps.has D, _, [], _, _, hrg2, rfl, own2, OutIs.start HD.out, fun kl h => h, by simp, hB2⟩
  case round =>
    obtain ⟨left, cnt, O, g, oc, hrg, rfl, ownO, hO, hlft, hcnt, hB⟩ := hrel
    have HO := Lib.hid hO
    have HL := Lib.hid hlft
    clear hO hlft own2 hB2 hrg2
    go_wp2_with (first
      | (at_next; refine wpList_next_ranges (H := Unit) _ rfl _ rfl 28 keyed rW unitV wdV (fun key kl hk => by obtain ⟨a, c, h, _⟩ := keyU_inv hk; exact ⟨(a, c), h⟩) (fun v y hv => by obtain ⟨x, h, _⟩ := rW_inv hv; exact ⟨x, h⟩) b r n D left cnt rfl hrg ?_ ?_)
      | fail)
    · intro hc0 hl0
      have hne := rng_ne hrg ownO
      obtain ⟨hgB, _⟩ := own_slice_g ownO
      have HSO := Lib.hid (sortF_any w.heap.size g oc O _ (by omega) HO.out.apart ownO)
      have HL0 := Lib.hid hl0
      clear hl0 hc0 hrg
      go_wp2_with fail
      refine HSO.out.mono ?_
      rintro e w3 ⟨rfl, ⟨R, hRl, hRm, hRs, hsl⟩, hbb⟩
      have hBf := hbb w hB
      obtain ⟨hR1, hR2⟩ := HO.out.done HL0.out hRm hRs
      have HRR : Hid (RES = ((0 : Int), R)) := Lib.hid (by rw [← HRES.out, hR2, if_neg (by decide), hR1])
      clear hR1 hR2 hRm hRs hbb
      go_wp2_with fail
      go_ret2
      rw [HRR.out]
      exact ⟨⟨some ⟨g, 0, none⟩, oc, by simp only; rw [hRl]; rfl, hsl⟩, hBf⟩
    · intro a cc ch cl kl y1 ps w1 cnt1 hkx hlx hy hat hrg1 hlt hg1 hs1 hen
      obtain ⟨a', c', hx, wa, wc, rfl⟩ := keyU_inv hkx
      obtain ⟨rfl, rfl⟩ : a = a' ∧ cc = c' := by
        unfold unitV at hx
        simp at hx
        exact hx
      have hk := HHAS.out _ (HL.out _ hlx)
      have hk2 : ∃ y ∈ fs, y.ac = a ∧ y.cl = cc := by
        obtain ⟨f, hf, e⟩ := hk
        have hw := HD.out.w64 f hf
        obtain ⟨e1, e2⟩ := klU_inj wa wc hw.1 hw.2 e
        exact ⟨f, hf, e1.symm, e2.symm⟩
      have hyv : y1 = dW ch cl := by
        rw [rW_mk] at hy
        simp at hy
        exact hy.1.symm
      have hval : dW ch cl = dZ (sumU fs a cc) := by
        obtain ⟨f, hf, rfl, rfl⟩ := hk2
        rw [← HD.out.all f hf (dZ 0), hat, hyv]
      obtain ⟨rfl, rfl⟩ := dW_inj hval
      have h128 := H128.out a cc
      obtain ⟨z, hz⟩ : ∃ z, sumU fs a cc = z := ⟨_, rfl⟩
      rw [hz] at h128 hen ⊢
      have HZ := Lib.hid hz
      have HK2 := Lib.hid hk2
      have HLX := Lib.hid hlx
      have HW := Lib.hid (And.intro wa wc)
      have hgw := ownO.kept hg1 (Or.inr (by have := (rng_ne hrg ownO).2; simp only [Value.ownBlock, ne_eq, Option.some.injEq]; exact this))
      have hB1 : Below w.heap.size w w1 := hB.trans (below_of_grown hg1 hB.size (fun j hj => by cases hj; exact hrB))
      have hlm : cnt1 < cnt := hlt
      have HLE := Lib.hid hrg.left_eq
      unfold unitV wdV at hen ⊢
      simp only at hen ⊢
      clear hk hk2 hlx hkx hy hat hx hyv hval hg1 hs1 wa wc hz ownO hB hrg
      have hk1 := Bk.new w1 #[.int .i64 a, .int .i64 cc] 28
      have hk1 := hk1.alloc (.cells #[.int .i64 (hiN z), .int .u64 (loN z)] 56)
      have hA0 := (Below.refl w1.heap.size w1).alloc (Nat.le_refl _) (.cells #[.int .i64 a, .int .i64 cc] 28)
      have hA1 := since_alloc hA0 (.cells #[.int .i64 (hiN z), .int .u64 (loN z)] 56)
      by_cases hin : In64 z
      · have HIN := Lib.hid (fun V => int_yes z hin V)
        have HI := Lib.hid hin
        clear hin h128
        by_cases h0 : z = 0
        · have h0b : (z != 0) = false := by simpa using h0
          have HOS := Lib.hid (HO.out.skip HD.out HW.out.1 HW.out.2 (by rw [HZ.out]; exact HI.out) (by rw [HZ.out]; exact h0))
          clear h0
          go_wp2_with fail
          refine (HIN.out _).mono ?_
          rintro e v2 ⟨rfl, hb⟩
          have hB2 := since_step hA1 hb
          have hrg2 := hrg1.kept (grown_of_below hB2) (by simp) (by simp)
          have own2 := own_below hgw hB2
          have hBf := hB1.trans (hB2.mono hB1.size)
          clear hb hrg1 hgw hk1 hA0 hA1
          go_wp2_with fail
          go_roundw
          case rel => exact ⟨_, cnt1, O, g, oc, hrg2, rfl, own2, HOS.out, fun kl h => HL.out kl (by simp at h; exact h.1), by omega, hBf⟩
          case measure => rw [hrg2.left_eq, HLE.out]; exact hlm
        · have h0b : (z != 0) = true := by simpa using h0
          have HOS := Lib.hid (HO.out.take HD.out HW.out.1 HW.out.2 HK2.out HLX.out (by rw [HZ.out]; exact HI.out) (by rw [HZ.out]; exact h0))
          rw [HZ.out] at HOS
          clear h0
          go_wp2_with fail
          refine (HIN.out _).mono ?_
          rintro e v2 ⟨rfl, hb⟩
          have hB2 := since_step hA1 hb
          have hrg2 := hrg1.kept (grown_of_below hB2) (by simp) (by simp)
          have own2 := own_below hgw hB2
          have hBf := hB1.trans (hB2.mono hB1.size)
          have hk2 := hk1.below hb
          obtain ⟨lk, ck⟩ := hk2
          have k0 := ck 0
          have k1 := ck 1
          simp at k0 k1
          have hsz2 := hBf.size
          clear hb hrg1 hgw hk1 hA0 hA1 ck
          go_wp2_with (first
            | (at_builtin; refine wpList_app rfl (.tmp 29) (.tmp 33) rfl EFw rfl rfl (own2.alloc _) (m := 1) (news := [.int .i64 a, .int .i64 cc, .int .i64 z]) rfl (Sl.new_ _ _ _) (Fw.one ⟨a, cc, z⟩) (by unfold maxLen; omega) (by omega) (by simp only [World.size_alloc]; omega) ?_; intro A3 c3 w3 own3 hg3 hb3)
            | fail)
          obtain ⟨g3, rfl⟩ := own_some own3 (by omega)
          have hrg2a := hrg2.alloc (.cells #[.int .i64 a, .int .i64 cc, .int .i64 z] 86)
          have hne := rng_ne hrg2a (own2.alloc (.cells #[.int .i64 a, .int .i64 cc, .int .i64 z] 86))
          have hrg3 := hrg2a.kept hg3 (by simp [Value.ownBlock]; exact fun h => hne.1 h.symm) (by simp [Value.ownBlock]; exact fun h => hne.2 h.symm)
          have hB3 := (since_alloc hBf (.cells #[.int .i64 a, .int .i64 cc, .int .i64 z] 86)).trans hb3
          go_roundw
          case rel =>
            refine ⟨_, cnt1, O ++ [⟨a, cc, z⟩], g3, c3, hrg3, by simp, ?_, HOS.out, fun kl h => HL.out kl (by simp at h; exact h.1), by simp; omega, hB3⟩
            rw [rc_append]
            simpa [rc, Fw.cells] using own3
          case measure => rw [hrg3.left_eq, HLE.out]; exact hlm
      · have HIN := Lib.hid (fun V => int_no z h128 hin V)
        have HRR : Hid (RES = ((7 : Int), [])) := Lib.hid (by rw [← HRES.out, if_pos (fits_no HK2.out (by rw [HZ.out]; exact hin))])
        clear hin h128
        go_wp2_with fail
        refine (HIN.out _).mono ?_
        rintro e v2 ⟨rfl, hb⟩
        have hB2 := since_step hA1 hb
        have hBf := hB1.trans (hB2.mono hB1.size)
        clear hb hrg1 hgw hk1 hA0 hA1
        go_wp2_with fail
        go_ret2
        rw [HRR.out]
        exact ⟨PRes.nil _ _, hBf⟩
end Go.Proofs.YtahdmomadbbhoaaGreat
end
