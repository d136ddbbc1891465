import Derived.Test.YtahdmomadbbhoaaMk18
import Derived.Test.YtahdmomadbbhoaaMk19
section
namespace Go.Proofs.Ytahdmomadbbhoaa
open Go.ChangeShapes Go.WideShapes Go.ChangeAt Go.RowKit
set_option linter.unusedVariables false
set_option linter.unusedSimpArgs false

set_option maxHeartbeats 1000000 in
set_option maxRecDepth 100000 in
theorem hahead_any (x y : Po) (w : World) : Calls Try.prog 38 #[x.val, y.val] w fun e w' => e = .returned (.bool (ahHd x y)) ∧ Below w.heap.size w w' := by
  obtain ⟨ua, uc, ut, uL, uC⟩ := x
  obtain ⟨va, vc, vt, vL, vC⟩ := y
  unfold Po.val ahHd
  simp only
  have hB := since_alloc (since_alloc (Below.refl _ w) (.cells #[.int .i64 ua, .int .i64 uc, .slice ut uL uC] 58)) (.cells #[.int .i64 va, .int .i64 vc, .slice vt vL vC] 58)
  go_enter Try.func38, Try.ntmps38
  go_wp2_with fail
  refine (aless_any ua uc va vc _).mono ?_
  rintro e w1 ⟨rfl, hb⟩
  have hB1 := since_step hB hb
  go_wp2_with fail
  go_ret
  exact ⟨rfl, hB1⟩
theorem ent_hahead : Ent Try.prog 38 := Ent.of (by kernel_rfl)
theorem tells_hahead (B : Nat) (w : World) : Po.Tells2 38 #[] ahHd B w := fun a b W _ => hahead_any a b W
set_option maxHeartbeats 4000000 in
set_option maxRecDepth 100000 in
theorem his_any (A : Option Addr) (cap : Nat) (l : List Po) (cs : List Pc) (w : World) (hl : l.length ≤ 900000) (hcl : ∀ g ∈ cs, g.L.length ≤ 900000) (hs : Sl w A (rc Po.cells l)) (ht : PoTab w l cs) :
    Calls Try.prog 18 #[.slice A l.length cap] w fun e w' => e = .returned (.bool (isH cs)) ∧ Below w.heap.size w w' := by
  have HLC := Lib.hid ht.1
  go_enter Try.func18, Try.ntmps18
  go_wp2_with fail
  go_loopw [7] (fun i wr => ∃ k : Nat, k ≤ l.length ∧ i = .int .i64 k ∧ (∀ j, (hj : j < cs.length) → j < k → okH cs[j] = true) ∧ Below w.heap.size w wr) (fun i _ => l.length - (intOf i).toNat)
  case atStart => exact ⟨0, by omega, rfl, fun j hj h => absurd h (by omega), Below.refl _ _⟩
  case round =>
    obtain ⟨k, hk, rfl, hno, hB⟩ := hrel
    by_cases hlt : k < l.length
    · have hlc : k < cs.length := HLC.out ▸ hlt
      obtain ⟨b, o, rfl, hbw, hg⟩ := (hs.below hB).po hlt
      have hI := (ht.below hB).2 k hlt hlc
      have hm := hcl _ (List.getElem_mem hlc)
      have hlk : (k : Int) < (l.length : Int) := by omega
      have hA := since_alloc hB (.cells l[k].cells.toArray 58)
      have HNX : Hid (okH cs[k] = true → ∀ j, (hj : j < cs.length) → j < k + 1 → okH cs[j] = true) := Lib.hid (fun h j hj hjk => by
        rcases Nat.lt_or_ge j k with h' | h'
        · exact hno j hj h'
        · obtain rfl : j = k := by omega
          exact h)
      have HBD : Hid (okH cs[k] = false → isH cs = false) := Lib.hid (fun h => isH_bad hlc h)
      clear hno
      generalize l[k] = v at *
      generalize cs[k] = d at *
      obtain ⟨va, vc, vt, vL, vC⟩ := v
      obtain ⟨da, dc, dL⟩ := d
      obtain ⟨i0, i1, i2, i3⟩ := hI
      simp only at i0 i1 i2 i3 hm
      subst i0; subst i1; subst i2
      obtain ⟨g0, g1, g2⟩ := hg
      unfold Po.cells at hA
      simp only at g0 g1 g2 hA HNX HBD
      have hsl := i3.alloc (.cells #[.int .i64 va, .int .i64 vc, .slice vt dL.length vC] 58)
      clear i3
      by_cases hq : dL.length = 0
      · have HR := Lib.hid (HBD.out (okH_zero hq))
        have hqb : (((dL.length : Nat) : Int) == 0) = true := by simpa using hq
        clear HBD HNX hq hsl
        go_wp2_with fail
        go_ret
        exact ⟨retB HR.out.symm, hA⟩
      · have hqb : (((dL.length : Nat) : Int) == 0) = false := by simpa using hq
        have HOK := Lib.hid (okH_some (x := ⟨va, vc, dL⟩) hq)
        simp only at HOK
        have HIS := Lib.hid (vis_any vt vC dL _ (by omega) hsl)
        clear hsl hq
        cases hi : isG dL with
        | false =>
          have HR := Lib.hid (HBD.out (HOK.out.trans hi))
          clear HBD HNX HOK
          rw [hi] at HIS
          go_wp2_with fail
          refine HIS.out.mono ?_
          rintro e u1 ⟨rfl, hb1⟩
          have hB1 := since_step hA hb1
          go_wp2_with fail
          go_ret
          exact ⟨retB HR.out.symm, hB1⟩
        | true =>
          have HN := Lib.hid (HNX.out (HOK.out.trans hi))
          clear HBD HNX HOK
          rw [hi] at HIS
          go_wp2_with fail
          refine HIS.out.mono ?_
          rintro e u1 ⟨rfl, hb1⟩
          have hB1 := since_step hA hb1
          go_wp2_with fail
          go_roundw
          case rel => exact ⟨k + 1, by omega, by go_num, HN.out, hB1⟩
          case measure => simp [intOf]; omega
    · obtain rfl : k = l.length := by omega
      have HR := Lib.hid ((isH_end fun j hj => hno j hj (HLC.out ▸ hj)).trans (PoTab.rising ah_is ht).symm)
      have hs1 := hs.below hB
      clear hno
      go_wp2_with fail
      refine (rising_po A cap l 38 #[] ahHd _ (by omega) hs1 ent_hahead (tells_hahead _ _)).mono ?_
      rintro e w1 ⟨rfl, hb1⟩
      have hB1 := since_step hB hb1
      go_wp2_with fail
      go_ret
      exact ⟨retB HR.out.symm, hB1⟩
end Go.Proofs.Ytahdmomadbbhoaa
end
