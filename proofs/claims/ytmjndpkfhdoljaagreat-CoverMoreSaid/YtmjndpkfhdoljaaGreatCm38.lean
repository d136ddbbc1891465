import Derived.Test.YtmjndpkfhdoljaaGreatCm15
import Derived.Test.YtmjndpkfhdoljaaGreatCm37
set_option maxHeartbeats 16000000
set_option maxRecDepth 100000
set_option linter.unusedVariables false
set_option linter.unusedSimpArgs false
section
namespace Go.Proofs.YtmjndpkfhdoljaaGreat.Hq
open Go.ChangeShapes Go.WideShapes Go.ChangeAt Go.RowKit

theorem hahead_any (x y : Hd) (w : World) : Calls Tryz.prog 55 #[x.val, y.val] w fun e w' => e = .returned (.bool (ahHd x y)) ∧ Below w.heap.size w w' := by
  obtain ⟨ua, uc, ut, uL, uC⟩ := x
  obtain ⟨va, vc, vt, vL, vC⟩ := y
  unfold Hd.val ahHd
  simp only
  have hB := since_alloc (since_alloc (Below.refl _ w) (.cells #[.int .i64 ua, .int .i64 uc, .slice ut uL uC] 98)) (.cells #[.int .i64 va, .int .i64 vc, .slice vt vL vC] 98)
  go_enter Tryz.func55, Tryz.ntmps55
  go_wp2_with fail
  refine (aless_any ua uc va vc _).mono ?_
  rintro e w1 ⟨rfl, hb⟩
  have hB1 := since_step hB hb
  go_wp2_with fail
  go_ret
  exact ⟨rfl, hB1⟩
theorem ent_hahead : Ent Tryz.prog 55 := Ent.of (by kernel_rfl)
theorem tells_hahead (B : Nat) (w : World) : Hd.Tells2 55 #[] ahHd B w := fun a b W _ => hahead_any a b W
theorem hof1_any (x : Hd) (a c : Int) (b : Nat) (w : World) (hb : Bk w b #[.int .i64 a, .int .i64 c]) :
    Calls Tryz.prog 100 #[x.val, .pointer (some ⟨b, 0, none⟩)] w fun e w' => e = .returned (.bool (unHd a c x)) ∧ Below w.heap.size w w' := by
  have hlt := hb.1
  have q0 := hb.2 0
  have q1 := hb.2 1
  have hB := since_alloc (Below.refl _ w) (.cells x.cells.toArray 98)
  obtain ⟨va, vc, vt, vL, vC⟩ := x
  unfold Hd.val unHd
  unfold Hd.cells at hB
  simp at q0 q1
  clear hb
  by_cases h1 : va = a
  · subst h1
    by_cases h2 : vc = c
    · subst h2
      go_enter Tryz.func100, Tryz.ntmps100
      go_wp2_with fail
      go_ret
      exact ⟨retB (by simp), hB⟩
    · have h2b : (vc == c) = false := by simpa using h2
      go_enter Tryz.func100, Tryz.ntmps100
      go_wp2_with fail
      go_ret
      exact ⟨retB (by simp [h2]), hB⟩
  · have h1b : (va == a) = false := by simpa using h1
    go_enter Tryz.func100, Tryz.ntmps100
    go_wp2_with fail
    go_ret
    exact ⟨retB (by simp [h1]), hB⟩
theorem ent_hof1 : Ent Tryz.prog 100 := Ent.of (by kernel_rfl)
theorem tells_hof1 (a c : Int) (b B : Nat) (w : World) (h : Bk w b #[.int .i64 a, .int .i64 c]) (hBw : B = w.heap.size) : Hd.Tells 100 #[.pointer (some ⟨b, 0, none⟩)] (unHd a c) B w := by
  subst hBw
  exact fun g W hW => hof1_any g a c b W (h.below hW)
theorem hof_any (a c : Int) (w : World) :
    Calls Tryz.prog 61 #[.agg #[.int .i64 a, .int .i64 c]] w fun e w' => (∃ b, e = .returned (.func (.func 100) #[] #[.pointer (some ⟨b, 0, none⟩)]) ∧ Bk w' b #[.int .i64 a, .int .i64 c]) ∧ Below w.heap.size w w' := by
  have hB := since_alloc (Below.refl _ w) (.cells #[.int .i64 a, .int .i64 c] 41)
  have hV := Bk.new w #[.int .i64 a, .int .i64 c] 41
  go_enter Tryz.func61, Tryz.ntmps61
  go_wp2_with fail
  go_ret
  exact ⟨⟨_, rfl, hV⟩, hB⟩
theorem his_any (A : Option Addr) (cap : Nat) (l : List Hd) (cs : List Hc) (w : World) (hl : l.length ≤ 900000) (hcl : ∀ g ∈ cs, g.L.length ≤ 900000) (hs : Sl w A (rc Hd.cells l)) (ht : HdTab w l cs) :
    Calls Tryz.prog 23 #[.slice A l.length cap] w fun e w' => e = .returned (.bool (isH cs)) ∧ Below w.heap.size w w' := by
  have HLC := Lib.hid ht.1
  go_enter Tryz.func23, Tryz.ntmps23
  go_wp2_with fail
  go_loopw [7] (fun i wr => ∃ k : Nat, k ≤ l.length ∧ i = .int .i64 k ∧ (∀ j, (hj : j < cs.length) → j < k → okH cs[j] = true) ∧ Below w.heap.size w wr) (fun i _ => l.length - (intOf i).toNat)
  case atStart => exact ⟨0, by omega, rfl, fun j hj h => absurd h (by omega), Below.refl _ _⟩
  case round =>
    obtain ⟨k, hk, rfl, hno, hB⟩ := hrel
    by_cases hlt : k < l.length
    · have hlc : k < cs.length := HLC.out ▸ hlt
      obtain ⟨b, o, rfl, hbw, hg⟩ := (hs.below hB).hd hlt
      have hI := (ht.below hB).2 k hlt hlc
      have hm := hcl _ (List.getElem_mem hlc)
      have hlk : (k : Int) < (l.length : Int) := by omega
      have hA := since_alloc hB (.cells l[k].cells.toArray 98)
      have HNX : Hid (okH cs[k] = true → ∀ j, (hj : j < cs.length) → j < k + 1 → okH cs[j] = true) := Lib.hid (fun h j hj hjk => by
        rcases Nat.lt_or_ge j k with h' | h'
        · exact hno j hj h'
        · obtain rfl : j = k := by omega
          exact h)
      have HBD : Hid (okH cs[k] = false → isH cs = false) := Lib.hid (fun h => isH_bad hlc h)
      clear hno
      generalize l[k] = v at *
      generalize cs[k] = d at *
      obtain ⟨va, vc, vt, vL, vC⟩ := v
      obtain ⟨da, dc, dL⟩ := d
      obtain ⟨i0, i1, i2, i3⟩ := hI
      simp only at i0 i1 i2 i3 hm
      subst i0; subst i1; subst i2
      obtain ⟨g0, g1, g2⟩ := hg
      unfold Hd.cells at hA
      simp only at g0 g1 g2 hA HNX HBD
      have hsl := i3.alloc (.cells #[.int .i64 va, .int .i64 vc, .slice vt dL.length vC] 98)
      clear i3
      by_cases hq : dL.length = 0
      · have HR := Lib.hid (HBD.out (okH_zero hq))
        have hqb : (((dL.length : Nat) : Int) == 0) = true := by simpa using hq
        clear HBD HNX hq hsl
        go_wp2_with fail
        go_ret
        exact ⟨retB HR.out.symm, hA⟩
      · have hqb : (((dL.length : Nat) : Int) == 0) = false := by simpa using hq
        have HOK := Lib.hid (okH_some (x := ⟨va, vc, dL⟩) hq)
        simp only at HOK
        have HIS := Lib.hid (lis_any vt vC dL _ (by omega) hsl)
        clear hsl hq
        cases hi : isLs dL with
        | false =>
          have HR := Lib.hid (HBD.out (HOK.out.trans hi))
          clear HBD HNX HOK
          rw [hi] at HIS
          go_wp2_with fail
          refine HIS.out.mono ?_
          rintro e u1 ⟨rfl, hb1⟩
          have hB1 := since_step hA hb1
          go_wp2_with fail
          go_ret
          exact ⟨retB HR.out.symm, hB1⟩
        | true =>
          have HN := Lib.hid (HNX.out (HOK.out.trans hi))
          clear HBD HNX HOK
          rw [hi] at HIS
          go_wp2_with fail
          refine HIS.out.mono ?_
          rintro e u1 ⟨rfl, hb1⟩
          have hB1 := since_step hA hb1
          go_wp2_with fail
          go_roundw
          case rel => exact ⟨k + 1, by omega, by go_num, HN.out, hB1⟩
          case measure => simp [intOf]; omega
    · obtain rfl : k = l.length := by omega
      have HR := Lib.hid ((isH_end fun j hj => hno j hj (HLC.out ▸ hj)).trans (HdTab.rising ah_is ht).symm)
      have hs1 := hs.below hB
      clear hno
      go_wp2_with fail
      refine (rising_hd A cap l 55 #[] ahHd _ (by omega) hs1 ent_hahead (tells_hahead _ _)).mono ?_
      rintro e w1 ⟨rfl, hb1⟩
      have hB1 := since_step hB hb1
      go_wp2_with fail
      go_ret
      exact ⟨retB HR.out.symm, hB1⟩
theorem pick_hd {w : World} {l : List Hd} {cs : List Hc} (ht : HdTab w l cs) (a c : Int) : ∃ va vc vt vC, pickL (unHd a c) Hd.zero l = ⟨va, vc, vt, (lotsH cs a c).length, vC⟩ ∧ Sl w vt (rc Lt.cells (lotsH cs a c)) := by
  unfold pickL lotsH
  rcases HdTab.find (fun g d h => un_is a c g d h) ht with ⟨h1, h2⟩ | ⟨g, d, h1, h2, h3⟩
  · rw [h1, h2]
    exact ⟨0, 0, none, 0, rfl, Sl.nil⟩
  · rw [h1, h2]
    obtain ⟨va, vc, vt, vL, vC⟩ := g
    have h4 := h3.len
    simp only at h4
    subst h4
    exact ⟨va, vc, vt, vC, rfl, h3.sl⟩
theorem hlots_any (A : Option Addr) (cap : Nat) (l : List Hd) (cs : List Hc) (a c : Int) (w : World) (hl : l.length ≤ 900000) (hcl : ∀ g ∈ cs, g.L.length ≤ 900000) (hs : Sl w A (rc Hd.cells l)) (ht : HdTab w l cs) :
    Calls Tryz.prog 26 #[.slice A l.length cap, .agg #[.int .i64 a, .int .i64 c]] w fun e w' => (∃ A' c', e = .returned (.slice A' (lotsH cs a c).length c') ∧ w'.ownsRow w.heap.size 33 3 (.slice A' (lotsH cs a c).length c') (lotsH cs a c).length (rc Lt.cells (lotsH cs a c))) ∧ Below w.heap.size w w' := by
  have hlen := lotsH_len hcl a c
  obtain ⟨va, vc, vt, vC, hv, hsl⟩ := pick_hd ht a c
  generalize lotsH cs a c = L at *
  have HFD := Lib.hid (fun V b h1 h2 => (find_hd A cap l 100 #[.pointer (some ⟨b, 0, none⟩)] (unHd a c) V (by omega) h1 ent_hof1 h2))
  rw [hv] at HFD
  unfold Hd.val at HFD
  simp only at HFD
  clear hv
  have hB0 := since_alloc (Below.refl _ w) (.cells #[.int .i64 a, .int .i64 c] 41)
  have hs0 := hs.alloc (.cells #[.int .i64 a, .int .i64 c] 41)
  have hsl := hsl.alloc (.cells #[.int .i64 a, .int .i64 c] 41)
  have hws := hB0.size
  clear hs ht
  go_enter Tryz.func26, Tryz.ntmps26
  go_wp2_with fail
  refine (hof_any a c _).mono ?_
  rintro e w1 ⟨⟨b, rfl, hK⟩, hb⟩
  have hB1 := since_step hB0 hb
  have hs0 := hs0.below hb
  have hsl := hsl.below hb
  clear hb hB0
  go_wp2_with fail
  refine (HFD.out _ b hs0 (tells_hof1 a c b _ _ hK rfl)).mono ?_
  rintro e w2 ⟨rfl, hb⟩
  have hB2 := since_step hB1 hb
  have hsl := (hsl.below hb).alloc (.cells #[.int .i64 va, .int .i64 vc, .slice vt L.length vC] 98)
  have hB3 := since_alloc hB2 (.cells #[.int .i64 va, .int .i64 vc, .slice vt L.length vC] 98)
  clear hb hs0 hK HFD hB1 hB2
  go_wp2_with fail
  refine (clone_lt vt vC L _ (by omega) hsl).mono ?_
  rintro e w3 ⟨⟨A', c', rfl, ho⟩, hb⟩
  have hB4 := since_step hB3 hb
  have ho := own_lower ho hB3.size
  go_wp2_with fail
  go_ret
  exact ⟨⟨A', c', rfl, ho⟩, hB4⟩
end Go.Proofs.YtmjndpkfhdoljaaGreat.Hq
end
