import Derived.Test.YtldnponbkhgijaaHK03
import Derived.Test.YtldnponbkhgijaaHK04
import Derived.Test.YtldnponbkhgijaaHK02
section
namespace Go.Proofs.Ytldnponbkhgijaa
open Go.ChangeShapes Go.WideShapes Go.ChangeAt Go.RowKit
set_option linter.unusedVariables false
set_option linter.unusedSimpArgs false

set_option maxHeartbeats 8000000 in
set_option maxRecDepth 100000 in
theorem rhsame_self (A : Option Addr) (cap : Nat) (l : List Hd) (A2 : Option Addr) (cap2 : Nat) (m : List Hd) (cs : List Hc) (w : World) (hl : l.length ≤ 900000) (hcl : ∀ g ∈ cs, g.L.length ≤ 900000) (hs : Sl w A (rc Hd.cells l)) (ht : HdTab w l cs) (hs2 : Sl w A2 (rc Hd.cells m)) (ht2 : HdTab w m cs) :
    Calls Try.prog 71 #[.slice A l.length cap, .slice A2 m.length cap2] w fun e w' => e = .returned (.bool true) ∧ Below w.heap.size w w' := by
  have hml : m.length = l.length := ht2.1.trans ht.1.symm
  rw [hml]
  have HML := Lib.hid hml
  have HLC := Lib.hid ht.1
  clear hml
  go_enter Try.func71, Try.ntmps71
  go_wp2_with fail
  go_loopw [5] (fun i wr => ∃ k : Nat, k ≤ l.length ∧ i = .int .i64 k ∧ Below w.heap.size w wr) (fun i _ => l.length - (intOf i).toNat)
  case atStart => exact ⟨0, by omega, rfl, Below.refl _ _⟩
  case round =>
    obtain ⟨k, hk, rfl, hB⟩ := hrel
    by_cases hlt : k < l.length
    · have hlc : k < cs.length := HLC.out ▸ hlt
      have hlm : k < m.length := by rw [HML.out]; exact hlt
      obtain ⟨b, o, rfl, hbw, hg⟩ := (hs.below hB).hd hlt
      obtain ⟨b2, o2, rfl, hbw2, hg2⟩ := (hs2.below hB).hd hlm
      have hlk : (k : Int) < (l.length : Int) := by omega
      have hgk : (0 : Int) ≤ (k : Int) := by omega
      have hks : IntKind.i64.wrap ((k : Int) + 1) = (k : Int) + 1 := IntWalk.i64_in _ (by omega)
      have hI := (ht.below hB).2 k hlt hlc
      have hI2 := (ht2.below hB).2 k hlm hlc
      have hm := hcl _ (List.getElem_mem hlc)
      have HG : Hid (∀ V, Below wr.heap.size wr V → l[k].at V b (o + k * 3) ∧ m[k].at V b2 (o2 + k * 3)) := Lib.hid fun V hV => ⟨Hd.at_keep hg fun i => hV.cell (p := ⟨b, i, none⟩) hbw, Hd.at_keep hg2 fun i => hV.cell (p := ⟨b2, i, none⟩) hbw2⟩
      clear hg hg2
      generalize l[k] = v at *
      generalize m[k] = u at *
      generalize cs[k] = d at *
      obtain ⟨va, vc, vt, vL, vC⟩ := v
      obtain ⟨ua, uc, ut, uL, uC⟩ := u
      obtain ⟨da, dc, dL⟩ := d
      obtain ⟨i0, i1, i2, i3⟩ := hI
      obtain ⟨k0, k1, k2, k3⟩ := hI2
      simp only at i0 i1 i2 i3 k0 k1 k2 k3 hm
      subst i0; subst i1; subst i2; subst k0; subst k1; subst k2
      unfold Hd.at at HG
      simp only at HG
      have HSA : Hid (∀ V, Below wr.heap.size wr V → Calls Try.prog 61 #[.slice vt dL.length vC, .slice ut dL.length uC] V fun e w' => e = .returned (.bool true) ∧ Below V.heap.size V w') := Lib.hid fun V hV => rlsame_any_self vt ut vC uC dL V (by omega) (i3.below hV) (k3.below hV)
      clear i3 k3
      go_wp2_with fail
      refine wp_region_held_drew (S := (fun V => Below wr.heap.size wr V)) (by kernel_rfl) (by exact (Below.refl _ _).drew) (fun hHeld => ?_)
      refine wpAnyH_take (i := 0) (oi := { dst := some 17, op := _, type := _, pos := _, after := _, guard := _ }) (v := ?_) rfl (by kernel_rfl) (by kernel_rfl) (by kernel_rfl) (fun _ _ _ h => h) (Or.inl ⟨by rfl, ?_⟩) hHeld ?_
      rotate_left
      · (intro w hSw; obtain ⟨⟨g0, g1, g2⟩, h0, h1, h2⟩ := HG.out _ hSw; go_simp <;> with_reducible rfl)
      try simp only [Act.put, List.setIfInBounds_toArray, List.set_cons_zero, List.set_cons_succ]
      refine wpAnyH_take (i := 1) (oi := { dst := some 18, op := _, type := _, pos := _, after := _, guard := _ }) (v := ?_) rfl (by kernel_rfl) (by kernel_rfl) (by kernel_rfl) (fun _ _ _ h => h) (Or.inl ⟨by rfl, ?_⟩) hHeld ?_
      rotate_left
      · (intro w hSw; obtain ⟨⟨g0, g1, g2⟩, h0, h1, h2⟩ := HG.out _ hSw; go_simp <;> with_reducible rfl)
      try simp only [Act.put, List.setIfInBounds_toArray, List.set_cons_zero, List.set_cons_succ]
      refine wpAnyH_take (i := 2) (oi := { dst := some 19, op := _, type := _, pos := _, after := _, guard := _ }) (v := ?_) rfl (by kernel_rfl) (by kernel_rfl) (by kernel_rfl) (fun _ _ _ h => h) (Or.inl ⟨by rfl, ?_⟩) hHeld ?_
      rotate_left
      · (intro w hSw; obtain ⟨⟨g0, g1, g2⟩, h0, h1, h2⟩ := HG.out _ hSw; go_simp <;> with_reducible rfl)
      try simp only [Act.put, List.setIfInBounds_toArray, List.set_cons_zero, List.set_cons_succ]
      refine wpAnyH_take (i := 3) (oi := { dst := some 20, op := _, type := _, pos := _, after := _, guard := _ }) (v := ?_) rfl (by kernel_rfl) (by kernel_rfl) (by kernel_rfl) (fun _ _ _ h => h) (Or.inl ⟨by rfl, ?_⟩) hHeld ?_
      rotate_left
      · (intro w hSw; obtain ⟨⟨g0, g1, g2⟩, h0, h1, h2⟩ := HG.out _ hSw; go_simp <;> with_reducible rfl)
      try simp only [Act.put, List.setIfInBounds_toArray, List.set_cons_zero, List.set_cons_succ]
      refine wpAnyH_take (i := 4) (oi := { dst := some 21, op := _, type := _, pos := _, after := _, guard := _ }) (v := ?_) rfl (by kernel_rfl) (by kernel_rfl) (by kernel_rfl) (fun _ _ _ h => h) (Or.inl ⟨by rfl, ?_⟩) hHeld ?_
      rotate_left
      · (intro w hSw; obtain ⟨⟨g0, g1, g2⟩, h0, h1, h2⟩ := HG.out _ hSw; go_simp <;> with_reducible rfl)
      try simp only [Act.put, List.setIfInBounds_toArray, List.set_cons_zero, List.set_cons_succ]
      refine wpAnyH_take (i := 5) (oi := { dst := some 22, op := _, type := _, pos := _, after := _, guard := _ }) (v := ?_) rfl (by kernel_rfl) (by kernel_rfl) (by kernel_rfl) (fun _ _ _ h => h) (Or.inl ⟨by rfl, ?_⟩) hHeld ?_
      rotate_left
      · (intro w hSw; obtain ⟨⟨g0, g1, g2⟩, h0, h1, h2⟩ := HG.out _ hSw; go_simp <;> with_reducible rfl)
      try simp only [Act.put, List.setIfInBounds_toArray, List.set_cons_zero, List.set_cons_succ]
      refine wpAnyH_take (i := 6) (oi := { dst := some 23, op := _, type := _, pos := _, after := _, guard := _ }) (v := ?_) rfl (by kernel_rfl) (by kernel_rfl) (by kernel_rfl) (fun _ _ _ h => h) (Or.inl ⟨by rfl, ?_⟩) hHeld ?_
      rotate_left
      · (intro w hSw; obtain ⟨⟨g0, g1, g2⟩, h0, h1, h2⟩ := HG.out _ hSw; go_simp <;> with_reducible rfl)
      try simp only [Act.put, List.setIfInBounds_toArray, List.set_cons_zero, List.set_cons_succ]
      refine wpAnyH_take (i := 7) (oi := { dst := some 24, op := _, type := _, pos := _, after := _, guard := _ }) (v := ?_) rfl (by kernel_rfl) (by kernel_rfl) (by kernel_rfl) (fun _ _ _ h => h) (Or.inl ⟨by rfl, ?_⟩) hHeld ?_
      rotate_left
      · (intro w hSw; obtain ⟨⟨g0, g1, g2⟩, h0, h1, h2⟩ := HG.out _ hSw; go_simp <;> with_reducible rfl)
      try simp only [Act.put, List.setIfInBounds_toArray, List.set_cons_zero, List.set_cons_succ]
      refine wpAnyH_take (i := 8) (oi := { dst := some 25, op := _, type := _, pos := _, after := _, guard := _ }) (v := ?_) rfl (by kernel_rfl) (by kernel_rfl) (by kernel_rfl) (fun _ _ _ h => h) (Or.inl ⟨by rfl, ?_⟩) hHeld ?_
      rotate_left
      · (intro w hSw; obtain ⟨⟨g0, g1, g2⟩, h0, h1, h2⟩ := HG.out _ hSw; go_simp <;> with_reducible rfl)
      try simp only [Act.put, List.setIfInBounds_toArray, List.set_cons_zero, List.set_cons_succ]
      refine wpAnyH_take (i := 9) (oi := { dst := some 26, op := _, type := _, pos := _, after := _, guard := _ }) (v := ?_) rfl (by kernel_rfl) (by kernel_rfl) (by kernel_rfl) (fun _ _ _ h => h) (Or.inl ⟨by rfl, ?_⟩) hHeld ?_
      rotate_left
      · (intro w hSw; obtain ⟨⟨g0, g1, g2⟩, h0, h1, h2⟩ := HG.out _ hSw; go_simp <;> with_reducible rfl)
      try simp only [Act.put, List.setIfInBounds_toArray, List.set_cons_zero, List.set_cons_succ]
      refine wpAnyH_take (i := 10) (oi := { dst := some 27, op := _, type := _, pos := _, after := _, guard := _ }) (v := ?_) rfl (by kernel_rfl) (by kernel_rfl) (by kernel_rfl) (fun _ _ _ h => h) (Or.inl ⟨by rfl, ?_⟩) hHeld ?_
      rotate_left
      · (intro w hSw; obtain ⟨⟨g0, g1, g2⟩, h0, h1, h2⟩ := HG.out _ hSw; go_simp <;> with_reducible rfl)
      try simp only [Act.put, List.setIfInBounds_toArray, List.set_cons_zero, List.set_cons_succ]
      refine wpAnyH_take (i := 11) (oi := { dst := some 28, op := _, type := _, pos := _, after := _, guard := _ }) (v := ?_) rfl (by kernel_rfl) (by kernel_rfl) (by kernel_rfl) (fun _ _ _ h => h) (Or.inl ⟨by rfl, ?_⟩) hHeld ?_
      rotate_left
      · (intro w hSw; obtain ⟨⟨g0, g1, g2⟩, h0, h1, h2⟩ := HG.out _ hSw; go_simp <;> with_reducible rfl)
      try simp only [Act.put, List.setIfInBounds_toArray, List.set_cons_zero, List.set_cons_succ]
      refine wpAnyH_take (i := 12) (oi := { dst := some 29, op := _, type := _, pos := _, after := _, guard := _ }) (v := ?_) rfl (by kernel_rfl) (by kernel_rfl) (by kernel_rfl) (fun _ _ _ h => h) (Or.inl ⟨by rfl, ?_⟩) hHeld ?_
      rotate_left
      · (intro w hSw; obtain ⟨⟨g0, g1, g2⟩, h0, h1, h2⟩ := HG.out _ hSw; go_simp <;> with_reducible rfl)
      try simp only [Act.put, List.setIfInBounds_toArray, List.set_cons_zero, List.set_cons_succ]
      refine wpAnyH_take (i := 13) (oi := { dst := some 30, op := _, type := _, pos := _, after := _, guard := _ }) (v := ?_) rfl (by kernel_rfl) (by kernel_rfl) (by kernel_rfl) (fun _ _ _ h => h) (Or.inl ⟨by rfl, ?_⟩) hHeld ?_
      rotate_left
      · (intro w hSw; obtain ⟨⟨g0, g1, g2⟩, h0, h1, h2⟩ := HG.out _ hSw; go_simp <;> with_reducible rfl)
      try simp only [Act.put, List.setIfInBounds_toArray, List.set_cons_zero, List.set_cons_succ]
      refine wpAnyH_take (i := 14) (oi := { dst := some 31, op := _, type := _, pos := _, after := _, guard := _ }) (v := ?_) rfl (by kernel_rfl) (by kernel_rfl) (by kernel_rfl) (fun _ _ _ h => h) (Or.inl ⟨by rfl, ?_⟩) hHeld ?_
      rotate_left
      · (intro w hSw; obtain ⟨⟨g0, g1, g2⟩, h0, h1, h2⟩ := HG.out _ hSw; go_simp <;> with_reducible rfl)
      try simp only [Act.put, List.setIfInBounds_toArray, List.set_cons_zero, List.set_cons_succ]
      refine wpAnyH_take (i := 15) (oi := { dst := some 32, op := _, type := _, pos := _, after := _, guard := _ }) (v := ?_) rfl (by kernel_rfl) (by kernel_rfl) (by kernel_rfl) (fun _ _ _ h => h) (Or.inl ⟨by rfl, ?_⟩) hHeld ?_
      rotate_left
      · (intro w hSw; obtain ⟨⟨g0, g1, g2⟩, h0, h1, h2⟩ := HG.out _ hSw; go_simp <;> with_reducible rfl)
      try simp only [Act.put, List.setIfInBounds_toArray, List.set_cons_zero, List.set_cons_succ]
      refine wpAnyH_take (i := 16) (oi := { dst := some 33, op := _, type := _, pos := _, after := _, guard := _ }) (v := ?_) rfl (by kernel_rfl) (by kernel_rfl) (by kernel_rfl) (fun _ _ _ h => h) (Or.inl ⟨by rfl, ?_⟩) hHeld ?_
      rotate_left
      · (intro w hSw; obtain ⟨⟨g0, g1, g2⟩, h0, h1, h2⟩ := HG.out _ hSw; go_simp <;> with_reducible rfl)
      try simp only [Act.put, List.setIfInBounds_toArray, List.set_cons_zero, List.set_cons_succ]
      refine wpAnyH_take (i := 17) (oi := { dst := some 34, op := _, type := _, pos := _, after := _, guard := _ }) (v := ?_) rfl (by kernel_rfl) (by kernel_rfl) (by kernel_rfl) (fun _ _ _ h => h) (Or.inl ⟨by rfl, ?_⟩) hHeld ?_
      rotate_left
      · (intro w hSw; obtain ⟨⟨g0, g1, g2⟩, h0, h1, h2⟩ := HG.out _ hSw; go_simp <;> with_reducible rfl)
      try simp only [Act.put, List.setIfInBounds_toArray, List.set_cons_zero, List.set_cons_succ]
      refine wpAnyH_take (i := 18) (oi := { dst := some 35, op := _, type := _, pos := _, after := _, guard := _ }) (v := ?_) rfl (by kernel_rfl) (by kernel_rfl) (by kernel_rfl) (fun _ _ _ h => h) (Or.inl ⟨by rfl, ?_⟩) hHeld ?_
      rotate_left
      · (intro w hSw; obtain ⟨⟨g0, g1, g2⟩, h0, h1, h2⟩ := HG.out _ hSw; go_simp <;> with_reducible rfl)
      try simp only [Act.put, List.setIfInBounds_toArray, List.set_cons_zero, List.set_cons_succ]
      refine wpAnyH_take (i := 19) (oi := { dst := some 36, op := _, type := _, pos := _, after := _, guard := _ }) (v := ?_) rfl (by kernel_rfl) (by kernel_rfl) (by kernel_rfl) (fun _ _ _ h => h) (Or.inl ⟨by rfl, ?_⟩) hHeld ?_
      rotate_left
      · (intro w hSw; obtain ⟨⟨g0, g1, g2⟩, h0, h1, h2⟩ := HG.out _ hSw; go_simp <;> with_reducible rfl)
      try simp only [Act.put, List.setIfInBounds_toArray, List.set_cons_zero, List.set_cons_succ]
      refine wpAnyH_take (i := 20) (oi := { dst := some 37, op := _, type := _, pos := _, after := _, guard := _ }) (v := ?_) rfl (by kernel_rfl) (by kernel_rfl) (by kernel_rfl) (fun _ _ _ h => h) (Or.inl ⟨by rfl, ?_⟩) hHeld ?_
      rotate_left
      · (intro w hSw; obtain ⟨⟨g0, g1, g2⟩, h0, h1, h2⟩ := HG.out _ hSw; go_simp <;> with_reducible rfl)
      try simp only [Act.put, List.setIfInBounds_toArray, List.set_cons_zero, List.set_cons_succ]
      refine wpAnyH_take (i := 21) (oi := { dst := some 38, op := _, type := _, pos := _, after := _, guard := _ }) (v := ?_) rfl (by kernel_rfl) (by kernel_rfl) (by kernel_rfl) (fun _ _ _ h => h) (Or.inl ⟨by rfl, ?_⟩) hHeld ?_
      rotate_left
      · (intro w hSw; obtain ⟨⟨g0, g1, g2⟩, h0, h1, h2⟩ := HG.out _ hSw; go_simp <;> with_reducible rfl)
      try simp only [Act.put, List.setIfInBounds_toArray, List.set_cons_zero, List.set_cons_succ]
      refine wpAnyH_ready (rs := [22]) (by kernel_rfl) (by simp) ?_
      refine AllReadyH.cons (o := { dst := some 39, op := _, type := _, pos := _, after := _, guard := _ }) rfl (fun K hK => ?_) AllReadyH.nil
      go_simp
      refine (HSA.out _ hHeld).mono ?_
      rintro e u1 ⟨rfl, hk1⟩
      have hKeep := since_step hHeld hk1
      go_wp2_with fail
      refine hK.out _ _ (by (try dsimp only); exact hKeep) (fun hHeld => ?_)
      clear hK K hKeep
      try simp only [Act.put, List.setIfInBounds_toArray, List.set_cons_zero, List.set_cons_succ]
      refine wpAnyH_take (i := 23) (oi := { dst := some 40, op := _, type := _, pos := _, after := _, guard := _ }) (v := ?_) rfl (by kernel_rfl) (by kernel_rfl) (by kernel_rfl) (fun _ _ _ h => h) (Or.inl ⟨by rfl, ?_⟩) hHeld ?_
      rotate_left
      · (intro w hSw; obtain ⟨⟨g0, g1, g2⟩, h0, h1, h2⟩ := HG.out _ hSw; go_simp <;> with_reducible rfl)
      try simp only [Act.put, List.setIfInBounds_toArray, List.set_cons_zero, List.set_cons_succ]
      refine wpAnyH_take (i := 24) (oi := { dst := some 41, op := _, type := _, pos := _, after := _, guard := _ }) (v := ?_) rfl (by kernel_rfl) (by kernel_rfl) (by kernel_rfl) (fun _ _ _ h => h) (Or.inl ⟨by rfl, ?_⟩) hHeld ?_
      rotate_left
      · (intro w hSw; obtain ⟨⟨g0, g1, g2⟩, h0, h1, h2⟩ := HG.out _ hSw; go_simp <;> with_reducible rfl)
      try simp only [Act.put, List.setIfInBounds_toArray, List.set_cons_zero, List.set_cons_succ]
      refine wpAnyH_done (by kernel_rfl) ?_ _
      have hB2 := hB.trans (hHeld.mono hB.size)
      go_wp2_with fail
      go_roundw
      case rel => exact ⟨k + 1, by omega, by go_num, hB2⟩
      case measure => simp [intOf]; omega
    · obtain rfl : k = l.length := by omega
      go_wp2_with fail
      go_ret
      exact ⟨rfl, hB⟩
theorem moveHR_form {cs : List Hc} {fa fc ta tc : Int} (h : isH cs = false) : moveHR cs fa fc ta tc = (3, []) := if_pos h
theorem moveHR_same {cs : List Hc} {fa fc : Int} (h : isH cs = true) : moveHR cs fa fc fa fc = (24, []) := by
  unfold moveHR; rw [if_neg (by simp [h]), if_pos ⟨rfl, rfl⟩]
theorem moveHR_busy {cs : List Hc} {fa fc ta tc : Int} (h : isH cs = true) (h1 : ¬ (fa = ta ∧ fc = tc)) (h2 : lotsH cs ta tc ≠ []) : moveHR cs fa fc ta tc = (21, []) := by
  unfold moveHR; rw [if_neg (by simp [h]), if_neg h1, if_pos h2]
theorem moveHR_ok {cs : List Hc} {fa fc ta tc : Int} (h : isH cs = true) (h1 : ¬ (fa = ta ∧ fc = tc)) (h2 : lotsH cs ta tc = []) : moveHR cs fa fc ta tc = (0, withH (withH cs ta tc (lotsH cs fa fc)) fa fc []) := by
  unfold moveHR; rw [if_neg (by simp [h]), if_neg h1, if_neg (by simp [h2]), with_swap (isH_sorted h) h1]
set_option maxHeartbeats 8000000 in
set_option maxRecDepth 100000 in
theorem hmove_any (A : Option Addr) (cap : Nat) (l : List Hd) (cs : List Hc) (fa fc ta tc : Int) (w : World) (hl : l.length ≤ 800000) (hcl : ∀ g ∈ cs, g.L.length ≤ 900000) (hs : Sl w A (rc Hd.cells l)) (ht : HdTab w l cs) :
    Calls Try.prog 73 #[.slice A l.length cap, .agg #[.int .i64 fa, .int .i64 fc], .agg #[.int .i64 ta, .int .i64 tc]] w fun e w' => HRes w' e (moveHR cs fa fc ta tc) ∧ Below w.heap.size w w' := by
  have hB0 := since_alloc (since_alloc (Below.refl _ w) (.cells #[.int .i64 fa, .int .i64 fc] 24)) (.cells #[.int .i64 ta, .int .i64 tc] 24)
  have hK1 := (Bk.new w #[.int .i64 fa, .int .i64 fc] 24).alloc (.cells #[.int .i64 ta, .int .i64 tc] 24)
  have hK2 := Bk.new (w.alloc (.cells #[.int .i64 fa, .int .i64 fc] 24)) #[.int .i64 ta, .int .i64 tc] 24
  rw [World.size_alloc] at hK2
  have HIS := Lib.hid (his_any A cap l cs _ (by omega) hcl ((hs.alloc (.cells #[.int .i64 fa, .int .i64 fc] 24)).alloc (.cells #[.int .i64 ta, .int .i64 tc] 24)) (ht.below hB0))
  have HSL : Hid (∀ V, Below w.heap.size w V → Sl V A (rc Hd.cells l)) := Lib.hid fun V hV => hs.below hV
  have HTB : Hid (∀ V, Below w.heap.size w V → HdTab V l cs) := Lib.hid fun V hV => ht.below hV
  have HLT := Lib.hid (fun V h1 h2 => hlots_any A cap l cs ta tc V (by omega) hcl h1 h2)
  have HLO := Lib.hid (fun V h1 h2 => hlots_any A cap l cs fa fc V (by omega) hcl h1 h2)
  have HLC := Lib.hid ht.1
  have hll : l.length ≤ 900000 := by omega
  clear hs ht
  cases hi : isH cs with
  | false =>
      have HR := Lib.hid (moveHR_form (fa := fa) (fc := fc) (ta := ta) (tc := tc) hi)
      rw [hi] at HIS
      clear hi
      go_enter Try.func73, Try.ntmps73
      go_wp2_with fail
      refine HIS.out.mono ?_
      rintro e w1 ⟨rfl, hb⟩
      have hB1 := since_step hB0 hb
      have hK1 := hK1.below hb
      have hK2 := hK2.below hb
      have ck := hK1.2; have k0 := ck 0; have k1 := ck 1; simp at k0 k1; clear ck
      have ck := hK2.2; have k2 := ck 0; have k3 := ck 1; simp at k2 k3; clear ck
      clear hb
      go_wp2_with fail
      go_ret2
      rw [HR.out]
      exact ⟨HRes.nil _ _, hB1⟩
  | true =>
    rw [hi] at HIS
    by_cases hq : fa = ta ∧ fc = tc
    · obtain ⟨rfl, rfl⟩ := hq
      have HR := Lib.hid (moveHR_same (fa := fa) (fc := fc) hi)
      clear hi
      go_enter Try.func73, Try.ntmps73
      go_wp2_with fail
      refine HIS.out.mono ?_
      rintro e w1 ⟨rfl, hb⟩
      have hB1 := since_step hB0 hb
      have hK1 := hK1.below hb
      have hK2 := hK2.below hb
      have ck := hK1.2; have k0 := ck 0; have k1 := ck 1; simp at k0 k1; clear ck
      have ck := hK2.2; have k2 := ck 0; have k3 := ck 1; simp at k2 k3; clear ck
      clear hb
      go_wp2_with fail
      go_ret2
      rw [HR.out]
      exact ⟨HRes.nil _ _, hB1⟩
    have hqb : (fa == ta && fc == tc) = false := by
      rw [← Bool.not_eq_true]; simpa using hq
    by_cases hz : lotsH cs ta tc = []
    rotate_left
    · have HR := Lib.hid (moveHR_busy hi hq hz)
      have hpos : 0 < (lotsH cs ta tc).length := List.length_pos_iff.2 hz
      have hposi : (0 : Int) < ((lotsH cs ta tc).length : Int) := by omega
      generalize lotsH cs ta tc = L0 at *
      clear hi
      go_enter Try.func73, Try.ntmps73
      go_wp2_with fail
      refine HIS.out.mono ?_
      rintro e w1 ⟨rfl, hb⟩
      have hB1 := since_step hB0 hb
      have hK1 := hK1.below hb
      have hK2 := hK2.below hb
      have ck := hK1.2; have k0 := ck 0; have k1 := ck 1; simp at k0 k1; clear ck
      have ck := hK2.2; have k2 := ck 0; have k3 := ck 1; simp at k2 k3; clear ck
      clear hb
      rcases Classical.em (fa = ta) with h1 | h1
      · subst h1
        have h2b : (fc == tc) = false := by simpa using hq
        clear hq hqb
        go_wp2_with fail
        refine (HLT.out _ (HSL.out _ hB1) (HTB.out _ hB1)).mono ?_
        rintro e w2 ⟨⟨A1, c1, rfl, ho1⟩, hb⟩
        have hB2 := since_step hB1 hb
        go_wp2_with fail
        go_ret2
        rw [HR.out]
        exact ⟨HRes.nil _ _, hB2⟩
      · have h1b : (fa == ta) = false := by simpa using h1
        clear hq hqb h1
        go_wp2_with fail
        refine (HLT.out _ (HSL.out _ hB1) (HTB.out _ hB1)).mono ?_
        rintro e w2 ⟨⟨A1, c1, rfl, ho1⟩, hb⟩
        have hB2 := since_step hB1 hb
        go_wp2_with fail
        go_ret2
        rw [HR.out]
        exact ⟨HRes.nil _ _, hB2⟩
    · have HR := Lib.hid (moveHR_ok hi hq hz)
      rw [hz] at HLT
      have hLl := lotsH_len hcl fa fc
      have hso := isH_sorted hi
      have hwi := with_is hi (lots_is hi fa fc) ta tc
      have hwl : (withH cs ta tc (lotsH cs fa fc)).length ≤ 900000 := by have := with_len (cs := cs) ta tc (lotsH cs fa fc); have := HLC.out; omega
      have hwc : ∀ g ∈ withH cs ta tc (lotsH cs fa fc), g.L.length ≤ 900000 := by
        intro g hg
        rcases (mem_with hso ta tc _ g).1 hg with ⟨_, rfl⟩ | ⟨h, _⟩
        · exact hLl
        · exact hcl g h
      have HSE := Lib.hid (fun A1 c1 V h1 h2 h3 => hset_any A cap l cs ta tc A1 c1 (lotsH cs fa fc) V hll hcl hLl h1 h2 h3)
      rw [setHR_ok hi (lots_is hi fa fc)] at HSE
      have HSF := Lib.hid (fun A2 c2 l2 V hl2 h1 h2 => hset_any A2 c2 l2 (withH cs ta tc (lotsH cs fa fc)) fa fc none 0 [] V hl2 hwc (by simp) h1 h2 Sl.nil)
      rw [setHR_ok hwi isLs_nil] at HSF
      have HWL := Lib.hid hwl
      generalize withH (withH cs ta tc (lotsH cs fa fc)) fa fc [] = R2 at *
      generalize withH cs ta tc (lotsH cs fa fc) = R1 at *
      generalize lotsH cs fa fc = L0 at *
      unfold HRes at HSE HSF
      simp only [List.length_nil] at HSE HSF HLT
      clear hi hz hwi hwl hwc hLl hso
      rcases Classical.em (fa = ta) with h1 | h1
      · subst h1
        have h2b : (fc == tc) = false := by simpa using hq
        clear hq hqb
        go_enter Try.func73, Try.ntmps73
        go_wp2_with fail
        refine HIS.out.mono ?_
        rintro e w1 ⟨rfl, hb⟩
        have hB1 := since_step hB0 hb
        have hK1 := hK1.below hb
        have hK2 := hK2.below hb
        have ck := hK1.2; have k0 := ck 0; have k1 := ck 1; simp at k0 k1; clear ck
        have ck := hK2.2; have k2 := ck 0; have k3 := ck 1; simp at k2 k3; clear ck
        clear hb
        go_wp2_with fail
        refine (HLT.out _ (HSL.out _ hB1) (HTB.out _ hB1)).mono ?_
        rintro e w2 ⟨⟨A0, c0, rfl, ho0⟩, hb⟩
        have hB2 := since_step hB1 hb
        have hK1 := hK1.below hb
        have hK2 := hK2.below hb
        have HK : Hid (∀ V, Below w2.heap.size w2 V → Bk V w.heap.size #[.int .i64 fa, .int .i64 fc] ∧ Bk V (w.heap.size + 1) #[.int .i64 fa, .int .i64 tc]) := Lib.hid fun V hV => ⟨hK1.below hV, hK2.below hV⟩
        clear hb k0 k1 k2 k3 hK1 hK2 ho0
        go_wp2_with fail
        refine wp_region_held_drew (S := (fun V => Below w.heap.size w V ∧ Below w2.heap.size w2 V)) (by kernel_rfl) (by exact ⟨hB2.drew, (Below.refl _ _).drew⟩) (fun hHeld => ?_)
        refine wpAnyH_take (i := 0) (oi := { dst := some 25, op := _, type := _, pos := _, after := _, guard := _ }) (v := ?_) rfl (by kernel_rfl) (by kernel_rfl) (by kernel_rfl) (fun _ _ _ h => h) (Or.inl ⟨by rfl, ?_⟩) hHeld ?_
        rotate_left
        · (intro w hSw; obtain ⟨K1, K2⟩ := HK.out _ (hSw).2; have ck := K1.2; have k0 := ck 0; have k1 := ck 1; simp at k0 k1; clear ck; have cq := K2.2; have k2 := cq 0; have k3 := cq 1; simp at k2 k3; clear cq K1 K2; go_simp <;> with_reducible rfl)
        try simp only [Act.put, List.setIfInBounds_toArray, List.set_cons_zero, List.set_cons_succ]
        refine wpAnyH_take (i := 1) (oi := { dst := some 26, op := _, type := _, pos := _, after := _, guard := _ }) (v := ?_) rfl (by kernel_rfl) (by kernel_rfl) (by kernel_rfl) (fun _ _ _ h => h) (Or.inl ⟨by rfl, ?_⟩) hHeld ?_
        rotate_left
        · (intro w hSw; obtain ⟨K1, K2⟩ := HK.out _ (hSw).2; have ck := K1.2; have k0 := ck 0; have k1 := ck 1; simp at k0 k1; clear ck; have cq := K2.2; have k2 := cq 0; have k3 := cq 1; simp at k2 k3; clear cq K1 K2; go_simp <;> with_reducible rfl)
        try simp only [Act.put, List.setIfInBounds_toArray, List.set_cons_zero, List.set_cons_succ]
        refine wpAnyH_take (i := 2) (oi := { dst := some 27, op := _, type := _, pos := _, after := _, guard := _ }) (v := ?_) rfl (by kernel_rfl) (by kernel_rfl) (by kernel_rfl) (fun _ _ _ h => h) (Or.inl ⟨by rfl, ?_⟩) hHeld ?_
        rotate_left
        · (intro w hSw; obtain ⟨K1, K2⟩ := HK.out _ (hSw).2; have ck := K1.2; have k0 := ck 0; have k1 := ck 1; simp at k0 k1; clear ck; have cq := K2.2; have k2 := cq 0; have k3 := cq 1; simp at k2 k3; clear cq K1 K2; go_simp <;> with_reducible rfl)
        try simp only [Act.put, List.setIfInBounds_toArray, List.set_cons_zero, List.set_cons_succ]
        refine wpAnyH_take (i := 3) (oi := { dst := some 28, op := _, type := _, pos := _, after := _, guard := _ }) (v := ?_) rfl (by kernel_rfl) (by kernel_rfl) (by kernel_rfl) (fun _ _ _ h => h) (Or.inl ⟨by rfl, ?_⟩) hHeld ?_
        rotate_left
        · (intro w hSw; obtain ⟨K1, K2⟩ := HK.out _ (hSw).2; have ck := K1.2; have k0 := ck 0; have k1 := ck 1; simp at k0 k1; clear ck; have cq := K2.2; have k2 := cq 0; have k3 := cq 1; simp at k2 k3; clear cq K1 K2; go_simp <;> with_reducible rfl)
        try simp only [Act.put, List.setIfInBounds_toArray, List.set_cons_zero, List.set_cons_succ]
        refine wpAnyH_ready (rs := [4]) (by kernel_rfl) (by simp) ?_
        refine AllReadyH.cons (o := { dst := some 29, op := _, type := _, pos := _, after := _, guard := _ }) rfl (fun K hK => ?_) AllReadyH.nil
        go_simp
        refine (HLO.out _ (HSL.out _ hHeld.1) (HTB.out _ hHeld.1)).mono ?_
        rintro e u1 ⟨⟨A1, c1, rfl, ho1⟩, hk1⟩
        have hKeep := And.intro (since_step hHeld.1 hk1) (since_step hHeld.2 hk1)
        have hs1 := Sl.of_own ho1
        clear ho1
        go_wp2_with fail
        refine hK.out _ _ (by (try dsimp only); exact hKeep) (fun hHeld => ?_)
        clear hK K hKeep
        try simp only [Act.put, List.setIfInBounds_toArray, List.set_cons_zero, List.set_cons_succ]
        refine wpAnyH_ready (rs := [5]) (by kernel_rfl) (by simp) ?_
        refine AllReadyH.cons (o := { dst := some 30, op := _, type := _, pos := _, after := _, guard := _ }) rfl (fun K hK => ?_) AllReadyH.nil
        go_simp
        refine (HSE.out A1 c1 _ (HSL.out _ hHeld.1) (HTB.out _ hHeld.1) hs1).mono ?_
        rintro e u2 ⟨⟨l2, A2, c2, rfl, hs2, ht2, hc2⟩, hk2⟩
        have hKeep := And.intro (since_step hHeld.1 hk2) (since_step hHeld.2 hk2)
        have HQQ := Lib.hid (And.intro hs2 (And.intro ht2 hc2))
        clear hs2 ht2 hc2
        go_wp2_with fail
        refine hK.out _ _ (by (try dsimp only); exact hKeep) (fun hHeld => ?_)
        clear hK K hKeep
        try simp only [Act.put, List.setIfInBounds_toArray, List.set_cons_zero, List.set_cons_succ]
        refine wpAnyH_take (i := 6) (oi := { dst := some 24, op := _, type := _, pos := _, after := _, guard := _ }) (v := ?_) rfl (by kernel_rfl) (by kernel_rfl) (by kernel_rfl) (fun _ _ _ h => h) (Or.inl ⟨by rfl, ?_⟩) hHeld ?_
        rotate_left
        · (intro w hSw; obtain ⟨K1, K2⟩ := HK.out _ (hSw).2; have ck := K1.2; have k0 := ck 0; have k1 := ck 1; simp at k0 k1; clear ck; have cq := K2.2; have k2 := cq 0; have k3 := cq 1; simp at k2 k3; clear cq K1 K2; go_simp <;> with_reducible rfl)
        try simp only [Act.put, List.setIfInBounds_toArray, List.set_cons_zero, List.set_cons_succ]
        refine wpAnyH_take (i := 7) (oi := { dst := some 31, op := _, type := _, pos := _, after := _, guard := _ }) (v := ?_) rfl (by kernel_rfl) (by kernel_rfl) (by kernel_rfl) (fun _ _ _ h => h) (Or.inl ⟨by rfl, ?_⟩) hHeld ?_
        rotate_left
        · (intro w hSw; obtain ⟨K1, K2⟩ := HK.out _ (hSw).2; have ck := K1.2; have k0 := ck 0; have k1 := ck 1; simp at k0 k1; clear ck; have cq := K2.2; have k2 := cq 0; have k3 := cq 1; simp at k2 k3; clear cq K1 K2; go_simp <;> with_reducible rfl)
        try simp only [Act.put, List.setIfInBounds_toArray, List.set_cons_zero, List.set_cons_succ]
        refine wpAnyH_take (i := 8) (oi := { dst := some 32, op := _, type := _, pos := _, after := _, guard := _ }) (v := ?_) rfl (by kernel_rfl) (by kernel_rfl) (by kernel_rfl) (fun _ _ _ h => h) (Or.inl ⟨by rfl, ?_⟩) hHeld ?_
        rotate_left
        · (intro w hSw; obtain ⟨K1, K2⟩ := HK.out _ (hSw).2; have ck := K1.2; have k0 := ck 0; have k1 := ck 1; simp at k0 k1; clear ck; have cq := K2.2; have k2 := cq 0; have k3 := cq 1; simp at k2 k3; clear cq K1 K2; go_simp <;> with_reducible rfl)
        try simp only [Act.put, List.setIfInBounds_toArray, List.set_cons_zero, List.set_cons_succ]
        refine wpAnyH_take (i := 9) (oi := { dst := some 8, op := _, type := _, pos := _, after := _, guard := _ }) (v := ?_) rfl (by kernel_rfl) (by kernel_rfl) (by kernel_rfl) (fun _ _ _ h => h) (Or.inl ⟨by rfl, ?_⟩) hHeld ?_
        rotate_left
        · (intro w hSw; obtain ⟨K1, K2⟩ := HK.out _ (hSw).2; have ck := K1.2; have k0 := ck 0; have k1 := ck 1; simp at k0 k1; clear ck; have cq := K2.2; have k2 := cq 0; have k3 := cq 1; simp at k2 k3; clear cq K1 K2; go_simp <;> with_reducible rfl)
        try simp only [Act.put, List.setIfInBounds_toArray, List.set_cons_zero, List.set_cons_succ]
        refine wpAnyH_take (i := 10) (oi := { dst := some 9, op := _, type := _, pos := _, after := _, guard := _ }) (v := ?_) rfl (by kernel_rfl) (by kernel_rfl) (by kernel_rfl) (fun _ _ _ h => h) (Or.inl ⟨by rfl, ?_⟩) hHeld ?_
        rotate_left
        · (intro w hSw; obtain ⟨K1, K2⟩ := HK.out _ (hSw).2; have ck := K1.2; have k0 := ck 0; have k1 := ck 1; simp at k0 k1; clear ck; have cq := K2.2; have k2 := cq 0; have k3 := cq 1; simp at k2 k3; clear cq K1 K2; go_simp <;> with_reducible rfl)
        try simp only [Act.put, List.setIfInBounds_toArray, List.set_cons_zero, List.set_cons_succ]
        refine wpAnyH_done (by kernel_rfl) ?_ _
        have hBz := hHeld.1
        obtain ⟨hs2, ht2, hc2⟩ := HQQ.out
        have ck := (HK.out _ hHeld.2).1.2
        have k0 := ck 0
        have k1 := ck 1
        simp at k0 k1
        clear ck
        have hl2 : l2.length ≤ 900000 := by have := ht2.1; have := HWL.out; omega
        have HS2 := Lib.hid (HSF.out A2 c2 l2 _ hl2 hs2 ht2)
        go_wp2_with fail
        refine HS2.out.mono ?_
        rintro e u3 ⟨⟨l3, A3, c3, rfl, hs3, ht3, hc3⟩, hk3⟩
        have hBz := since_step hBz hk3
        go_wp2_with fail
        go_ret2
        rw [HR.out]
        exact ⟨⟨l3, A3, c3, rfl, hs3, ht3, hc3⟩, hBz⟩
      · have h1b : (fa == ta) = false := by simpa using h1
        clear hq hqb h1
        go_enter Try.func73, Try.ntmps73
        go_wp2_with fail
        refine HIS.out.mono ?_
        rintro e w1 ⟨rfl, hb⟩
        have hB1 := since_step hB0 hb
        have hK1 := hK1.below hb
        have hK2 := hK2.below hb
        have ck := hK1.2; have k0 := ck 0; have k1 := ck 1; simp at k0 k1; clear ck
        have ck := hK2.2; have k2 := ck 0; have k3 := ck 1; simp at k2 k3; clear ck
        clear hb
        go_wp2_with fail
        refine (HLT.out _ (HSL.out _ hB1) (HTB.out _ hB1)).mono ?_
        rintro e w2 ⟨⟨A0, c0, rfl, ho0⟩, hb⟩
        have hB2 := since_step hB1 hb
        have hK1 := hK1.below hb
        have hK2 := hK2.below hb
        have HK : Hid (∀ V, Below w2.heap.size w2 V → Bk V w.heap.size #[.int .i64 fa, .int .i64 fc] ∧ Bk V (w.heap.size + 1) #[.int .i64 ta, .int .i64 tc]) := Lib.hid fun V hV => ⟨hK1.below hV, hK2.below hV⟩
        clear hb k0 k1 k2 k3 hK1 hK2 ho0
        go_wp2_with fail
        refine wp_region_held_drew (S := (fun V => Below w.heap.size w V ∧ Below w2.heap.size w2 V)) (by kernel_rfl) (by exact ⟨hB2.drew, (Below.refl _ _).drew⟩) (fun hHeld => ?_)
        refine wpAnyH_take (i := 0) (oi := { dst := some 25, op := _, type := _, pos := _, after := _, guard := _ }) (v := ?_) rfl (by kernel_rfl) (by kernel_rfl) (by kernel_rfl) (fun _ _ _ h => h) (Or.inl ⟨by rfl, ?_⟩) hHeld ?_
        rotate_left
        · (intro w hSw; obtain ⟨K1, K2⟩ := HK.out _ (hSw).2; have ck := K1.2; have k0 := ck 0; have k1 := ck 1; simp at k0 k1; clear ck; have cq := K2.2; have k2 := cq 0; have k3 := cq 1; simp at k2 k3; clear cq K1 K2; go_simp <;> with_reducible rfl)
        try simp only [Act.put, List.setIfInBounds_toArray, List.set_cons_zero, List.set_cons_succ]
        refine wpAnyH_take (i := 1) (oi := { dst := some 26, op := _, type := _, pos := _, after := _, guard := _ }) (v := ?_) rfl (by kernel_rfl) (by kernel_rfl) (by kernel_rfl) (fun _ _ _ h => h) (Or.inl ⟨by rfl, ?_⟩) hHeld ?_
        rotate_left
        · (intro w hSw; obtain ⟨K1, K2⟩ := HK.out _ (hSw).2; have ck := K1.2; have k0 := ck 0; have k1 := ck 1; simp at k0 k1; clear ck; have cq := K2.2; have k2 := cq 0; have k3 := cq 1; simp at k2 k3; clear cq K1 K2; go_simp <;> with_reducible rfl)
        try simp only [Act.put, List.setIfInBounds_toArray, List.set_cons_zero, List.set_cons_succ]
        refine wpAnyH_take (i := 2) (oi := { dst := some 27, op := _, type := _, pos := _, after := _, guard := _ }) (v := ?_) rfl (by kernel_rfl) (by kernel_rfl) (by kernel_rfl) (fun _ _ _ h => h) (Or.inl ⟨by rfl, ?_⟩) hHeld ?_
        rotate_left
        · (intro w hSw; obtain ⟨K1, K2⟩ := HK.out _ (hSw).2; have ck := K1.2; have k0 := ck 0; have k1 := ck 1; simp at k0 k1; clear ck; have cq := K2.2; have k2 := cq 0; have k3 := cq 1; simp at k2 k3; clear cq K1 K2; go_simp <;> with_reducible rfl)
        try simp only [Act.put, List.setIfInBounds_toArray, List.set_cons_zero, List.set_cons_succ]
        refine wpAnyH_take (i := 3) (oi := { dst := some 28, op := _, type := _, pos := _, after := _, guard := _ }) (v := ?_) rfl (by kernel_rfl) (by kernel_rfl) (by kernel_rfl) (fun _ _ _ h => h) (Or.inl ⟨by rfl, ?_⟩) hHeld ?_
        rotate_left
        · (intro w hSw; obtain ⟨K1, K2⟩ := HK.out _ (hSw).2; have ck := K1.2; have k0 := ck 0; have k1 := ck 1; simp at k0 k1; clear ck; have cq := K2.2; have k2 := cq 0; have k3 := cq 1; simp at k2 k3; clear cq K1 K2; go_simp <;> with_reducible rfl)
        try simp only [Act.put, List.setIfInBounds_toArray, List.set_cons_zero, List.set_cons_succ]
        refine wpAnyH_ready (rs := [4]) (by kernel_rfl) (by simp) ?_
        refine AllReadyH.cons (o := { dst := some 29, op := _, type := _, pos := _, after := _, guard := _ }) rfl (fun K hK => ?_) AllReadyH.nil
        go_simp
        refine (HLO.out _ (HSL.out _ hHeld.1) (HTB.out _ hHeld.1)).mono ?_
        rintro e u1 ⟨⟨A1, c1, rfl, ho1⟩, hk1⟩
        have hKeep := And.intro (since_step hHeld.1 hk1) (since_step hHeld.2 hk1)
        have hs1 := Sl.of_own ho1
        clear ho1
        go_wp2_with fail
        refine hK.out _ _ (by (try dsimp only); exact hKeep) (fun hHeld => ?_)
        clear hK K hKeep
        try simp only [Act.put, List.setIfInBounds_toArray, List.set_cons_zero, List.set_cons_succ]
        refine wpAnyH_ready (rs := [5]) (by kernel_rfl) (by simp) ?_
        refine AllReadyH.cons (o := { dst := some 30, op := _, type := _, pos := _, after := _, guard := _ }) rfl (fun K hK => ?_) AllReadyH.nil
        go_simp
        refine (HSE.out A1 c1 _ (HSL.out _ hHeld.1) (HTB.out _ hHeld.1) hs1).mono ?_
        rintro e u2 ⟨⟨l2, A2, c2, rfl, hs2, ht2, hc2⟩, hk2⟩
        have hKeep := And.intro (since_step hHeld.1 hk2) (since_step hHeld.2 hk2)
        have HQQ := Lib.hid (And.intro hs2 (And.intro ht2 hc2))
        clear hs2 ht2 hc2
        go_wp2_with fail
        refine hK.out _ _ (by (try dsimp only); exact hKeep) (fun hHeld => ?_)
        clear hK K hKeep
        try simp only [Act.put, List.setIfInBounds_toArray, List.set_cons_zero, List.set_cons_succ]
        refine wpAnyH_take (i := 6) (oi := { dst := some 24, op := _, type := _, pos := _, after := _, guard := _ }) (v := ?_) rfl (by kernel_rfl) (by kernel_rfl) (by kernel_rfl) (fun _ _ _ h => h) (Or.inl ⟨by rfl, ?_⟩) hHeld ?_
        rotate_left
        · (intro w hSw; obtain ⟨K1, K2⟩ := HK.out _ (hSw).2; have ck := K1.2; have k0 := ck 0; have k1 := ck 1; simp at k0 k1; clear ck; have cq := K2.2; have k2 := cq 0; have k3 := cq 1; simp at k2 k3; clear cq K1 K2; go_simp <;> with_reducible rfl)
        try simp only [Act.put, List.setIfInBounds_toArray, List.set_cons_zero, List.set_cons_succ]
        refine wpAnyH_take (i := 7) (oi := { dst := some 31, op := _, type := _, pos := _, after := _, guard := _ }) (v := ?_) rfl (by kernel_rfl) (by kernel_rfl) (by kernel_rfl) (fun _ _ _ h => h) (Or.inl ⟨by rfl, ?_⟩) hHeld ?_
        rotate_left
        · (intro w hSw; obtain ⟨K1, K2⟩ := HK.out _ (hSw).2; have ck := K1.2; have k0 := ck 0; have k1 := ck 1; simp at k0 k1; clear ck; have cq := K2.2; have k2 := cq 0; have k3 := cq 1; simp at k2 k3; clear cq K1 K2; go_simp <;> with_reducible rfl)
        try simp only [Act.put, List.setIfInBounds_toArray, List.set_cons_zero, List.set_cons_succ]
        refine wpAnyH_take (i := 8) (oi := { dst := some 32, op := _, type := _, pos := _, after := _, guard := _ }) (v := ?_) rfl (by kernel_rfl) (by kernel_rfl) (by kernel_rfl) (fun _ _ _ h => h) (Or.inl ⟨by rfl, ?_⟩) hHeld ?_
        rotate_left
        · (intro w hSw; obtain ⟨K1, K2⟩ := HK.out _ (hSw).2; have ck := K1.2; have k0 := ck 0; have k1 := ck 1; simp at k0 k1; clear ck; have cq := K2.2; have k2 := cq 0; have k3 := cq 1; simp at k2 k3; clear cq K1 K2; go_simp <;> with_reducible rfl)
        try simp only [Act.put, List.setIfInBounds_toArray, List.set_cons_zero, List.set_cons_succ]
        refine wpAnyH_take (i := 9) (oi := { dst := some 8, op := _, type := _, pos := _, after := _, guard := _ }) (v := ?_) rfl (by kernel_rfl) (by kernel_rfl) (by kernel_rfl) (fun _ _ _ h => h) (Or.inl ⟨by rfl, ?_⟩) hHeld ?_
        rotate_left
        · (intro w hSw; obtain ⟨K1, K2⟩ := HK.out _ (hSw).2; have ck := K1.2; have k0 := ck 0; have k1 := ck 1; simp at k0 k1; clear ck; have cq := K2.2; have k2 := cq 0; have k3 := cq 1; simp at k2 k3; clear cq K1 K2; go_simp <;> with_reducible rfl)
        try simp only [Act.put, List.setIfInBounds_toArray, List.set_cons_zero, List.set_cons_succ]
        refine wpAnyH_take (i := 10) (oi := { dst := some 9, op := _, type := _, pos := _, after := _, guard := _ }) (v := ?_) rfl (by kernel_rfl) (by kernel_rfl) (by kernel_rfl) (fun _ _ _ h => h) (Or.inl ⟨by rfl, ?_⟩) hHeld ?_
        rotate_left
        · (intro w hSw; obtain ⟨K1, K2⟩ := HK.out _ (hSw).2; have ck := K1.2; have k0 := ck 0; have k1 := ck 1; simp at k0 k1; clear ck; have cq := K2.2; have k2 := cq 0; have k3 := cq 1; simp at k2 k3; clear cq K1 K2; go_simp <;> with_reducible rfl)
        try simp only [Act.put, List.setIfInBounds_toArray, List.set_cons_zero, List.set_cons_succ]
        refine wpAnyH_done (by kernel_rfl) ?_ _
        have hBz := hHeld.1
        obtain ⟨hs2, ht2, hc2⟩ := HQQ.out
        have ck := (HK.out _ hHeld.2).1.2
        have k0 := ck 0
        have k1 := ck 1
        simp at k0 k1
        clear ck
        have hl2 : l2.length ≤ 900000 := by have := ht2.1; have := HWL.out; omega
        have HS2 := Lib.hid (HSF.out A2 c2 l2 _ hl2 hs2 ht2)
        go_wp2_with fail
        refine HS2.out.mono ?_
        rintro e u3 ⟨⟨l3, A3, c3, rfl, hs3, ht3, hc3⟩, hk3⟩
        have hBz := since_step hBz hk3
        go_wp2_with fail
        go_ret2
        rw [HR.out]
        exact ⟨⟨l3, A3, c3, rfl, hs3, ht3, hc3⟩, hBz⟩
end Go.Proofs.Ytldnponbkhgijaa
end
section
namespace Go.Proofs.Ytldnponbkhgijaa
open Go.ChangeShapes Go.WideShapes Go.ChangeAt Go.RowKit
set_option linter.unusedVariables false
set_option linter.unusedSimpArgs false

theorem sums_cons (b : Hc) (r : List Hc) (t : Int) : (sumsH (b :: r) t).sum = qsum b.L t + (sumsH r t).sum := by simp [sumsH, qsum]
theorem lots_consH (b : Hc) (r : List Hc) (a c : Int) : lotsH (b :: r) a c = if unH a c b = true then b.L else lotsH r a c := by
  unfold lotsH
  rw [List.find?_cons]
  cases h : unH a c b <;> simp
theorem none_after {b : Hc} {r : List Hc} (h : SoH (b :: r)) {a c : Int} (hu : unH a c b = true) : ∀ z ∈ r, unH a c z = false := by
  intro z hz
  have := List.rel_of_pairwise_cons h hz
  rw [unH_no]; rw [unH_iff] at hu; rw [ahH_iff] at this; omega
theorem sums_filter {cs : List Hc} (h : SoH cs) (a c t : Int) : (sumsH cs t).sum = (sumsH (cs.filter fun g => !unH a c g) t).sum + qsum (lotsH cs a c) t := by
  induction cs with
  | nil => simp [sumsH, lotsH, qsum, qsL]
  | cons b r ih =>
    have ih := ih h.of_cons
    rw [lots_consH, sums_cons]
    by_cases hu : unH a c b = true
    · rw [if_pos hu, List.filter_cons_of_neg (by simp [hu]), List.filter_eq_self.2 (fun z hz => by simp [none_after h hu z hz])]
      omega
    · rw [if_neg hu, List.filter_cons_of_pos (by simpa using hu), sums_cons]
      omega
theorem sums_putH {cs : List Hc} (h : SoH cs) (a c t : Int) (L : List Lt) : (sumsH (putR ahH cs ⟨a, c, L⟩) t).sum = (sumsH (cs.filter fun g => !unH a c g) t).sum + qsum L t := by
  induction cs with
  | nil => rw [putR, sums_cons]; simp [sumsH]
  | cons b r ih =>
    have ih := ih h.of_cons
    unfold putR
    split
    · rename_i h1
      have hn : unH a c b = false := by rw [unH_no]; rw [ahH_iff] at h1; simp only at h1; omega
      rw [List.filter_cons_of_pos (by simp [hn]), sums_cons, sums_cons, ih]
      omega
    · rename_i h1
      split
      · rename_i h2
        have hall : ∀ z ∈ b :: r, unH a c z = false := by
          intro z hz
          have hxz : ahH ⟨a, c, L⟩ z = true := by
            rcases List.mem_cons.1 hz with rfl | hz
            · exact h2
            · exact ordH.tr _ _ _ h2 (List.rel_of_pairwise_cons h hz)
          rw [unH_no]; rw [ahH_iff] at hxz; simp only at hxz; omega
        rw [List.filter_eq_self.2 (fun z hz => by simp [hall z hz]), sums_cons]
        simp only
        omega
      · rename_i h2
        rw [ahH_iff] at h1 h2
        simp only at h1 h2
        have hbu : unH a c b = true := by rw [unH_iff]; omega
        rw [List.filter_cons_of_neg (by simp [hbu]), List.filter_eq_self.2 (fun z hz => by simp [none_after h hbu z hz]), sums_cons]
        simp only
        omega
theorem sums_with {cs : List Hc} (h : SoH cs) (a c t : Int) (L : List Lt) : (sumsH (withH cs a c L) t).sum = (sumsH cs t).sum - qsum (lotsH cs a c) t + qsum L t := by
  have h1 := sums_filter h a c t
  unfold withH
  split
  · rename_i hL
    subst hL
    have : qsum [] t = 0 := rfl
    omega
  · rw [sums_putH h]; omega
theorem lots_with_self {cs : List Hc} (h : SoH cs) (a c : Int) (L : List Lt) : lotsH (withH cs a c L) a c = L := by
  by_cases hL : L = []
  · subst hL
    rcases lots_cases (withH cs a c []) a c with ⟨e, _⟩ | ⟨x, hx, e1, e2, e⟩
    · exact e
    · rcases (mem_with h a c [] x).1 hx with ⟨h1, _⟩ | ⟨_, h1⟩
      · exact absurd rfl h1
      · rw [unH_no] at h1; exact absurd ⟨e1, e2⟩ h1
  · exact lots_mem (x := ⟨a, c, L⟩) (with_sorted h a c L) ((mem_with h a c L _).2 (.inl ⟨hL, rfl⟩))
theorem lots_with_other {cs : List Hc} (h : SoH cs) {a c a' c' : Int} (hne : ¬ (a' = a ∧ c' = c)) (L : List Lt) : lotsH (withH cs a c L) a' c' = lotsH cs a' c' := by
  have hs := with_sorted h a c L
  rcases lots_cases cs a' c' with ⟨e, hno⟩ | ⟨x, hx, e1, e2, e⟩
  · rw [e]
    rcases lots_cases (withH cs a c L) a' c' with ⟨e, _⟩ | ⟨x, hx, e1, e2, _⟩
    · exact e
    · rcases (mem_with h a c L x).1 hx with ⟨_, rfl⟩ | ⟨h1, _⟩
      · exact absurd ⟨e1.symm, e2.symm⟩ hne
      · have := hno x h1
        rw [unH_no] at this; exact absurd ⟨e1, e2⟩ this
  · subst e1; subst e2
    rw [lots_mem h hx]
    exact lots_mem hs ((mem_with h a c L x).2 (.inr ⟨hx, by rw [unH_no]; exact hne⟩))
theorem qsum_cut {l : List Lt} (h : SoL l) (a t i : Int) : qsum (l.filter fun y => !sameL a t y) i = qsum l i - if a = i then getL l a t else 0 := by
  induction l with
  | nil => simp [qsum, qsL, getL_nil]
  | cons y r ih =>
    have ih := ih h.of_cons
    rw [getL_cons, qsum_cons]
    by_cases hs : sameL a t y = true
    · rw [if_pos hs, List.filter_cons_of_neg (by simp [hs])]
      obtain ⟨rfl, rfl⟩ := key_of hs
      rw [List.filter_eq_self.2 (fun z hz => by simp [so_none h z hz])]
      omega
    · rw [if_neg hs, List.filter_cons_of_pos (by simpa using hs), qsum_cons, ih]
      omega
theorem take_qsum {l m : List Lt} {x : Lt} (h : takeLR l x = (0, m)) (i : Int) : qsum m i = qsum l i - if x.ast = i then x.qty else 0 := by
  unfold takeLR at h
  split at h
  · rename_i hc; injection h with h1; exact absurd h1 hc
  · rename_i hc
    have hc : chkL l x = 0 := by simpa using hc
    obtain ⟨h1, h2⟩ := chkL_ok hc
    obtain ⟨m1, m2, m3⟩ := (isLs_iff l).1 h1
    split at h
    · injection h with h1; cases h1
    · split at h
      · rename_i hz
        injection h with _ e; subst e
        rw [qsum_cut m3, hz]
      · injection h with _ e; subst e
        rw [Int.sub_eq_add_neg, qsum_put m3]
        split <;> omega
theorem move_facts {cs R : List Hc} {fa fc ta tc : Int} (h : moveHR cs fa fc ta tc = (0, R)) : isH cs = true ∧ ¬ (fa = ta ∧ fc = tc) ∧ lotsH cs ta tc = [] ∧ R = withH (withH cs fa fc []) ta tc (lotsH cs fa fc) := by
  unfold moveHR at h
  split at h
  · injection h with h1; cases h1
  · rename_i hi
    split at h
    · injection h with h1; cases h1
    · rename_i hq
      split at h
      · injection h with h1; cases h1
      · rename_i hz
        injection h with _ e
        exact ⟨by simpa using hi, hq, by simpa using hz, e.symm⟩
theorem move_is {cs R : List Hc} {fa fc ta tc : Int} (h : moveHR cs fa fc ta tc = (0, R)) : isH R = true := by
  obtain ⟨hi, _, _, rfl⟩ := move_facts h
  exact with_is (with_is hi isLs_nil fa fc) (lots_is hi fa fc) ta tc
theorem move_sum {cs R : List Hc} {fa fc ta tc : Int} (h : moveHR cs fa fc ta tc = (0, R)) (t : Int) : (sumsH R t).sum = (sumsH cs t).sum := by
  obtain ⟨hi, hq, hz, rfl⟩ := move_facts h
  have hs := isH_sorted hi
  have q0 : qsum [] t = 0 := rfl
  rw [sums_with (with_sorted hs fa fc []), sums_with hs, lots_with_other hs (fun h => hq ⟨h.1.symm, h.2.symm⟩), hz]
  omega
theorem move_to {cs R : List Hc} {fa fc ta tc : Int} (h : moveHR cs fa fc ta tc = (0, R)) : lotsH R ta tc = lotsH cs fa fc := by
  obtain ⟨hi, hq, hz, rfl⟩ := move_facts h
  exact lots_with_self (with_sorted (isH_sorted hi) fa fc []) ta tc _
theorem move_from {cs R : List Hc} {fa fc ta tc : Int} (h : moveHR cs fa fc ta tc = (0, R)) : lotsH R fa fc = [] := by
  obtain ⟨hi, hq, hz, rfl⟩ := move_facts h
  rw [lots_with_other (with_sorted (isH_sorted hi) fa fc []) hq]
  exact lots_with_self (isH_sorted hi) fa fc []
theorem move_other {cs R : List Hc} {fa fc ta tc oa oc : Int} (h : moveHR cs fa fc ta tc = (0, R)) (h1 : ¬ (oa = fa ∧ oc = fc)) (h2 : ¬ (oa = ta ∧ oc = tc)) : lotsH R oa oc = lotsH cs oa oc := by
  obtain ⟨hi, hq, hz, rfl⟩ := move_facts h
  rw [lots_with_other (with_sorted (isH_sorted hi) fa fc []) h2]
  exact lots_with_other (isH_sorted hi) h1 []
theorem move_back {cs R : List Hc} {fa fc ta tc : Int} (h : moveHR cs fa fc ta tc = (0, R)) : moveHR R ta tc fa fc = (0, cs) := by
  have h1 := move_is h
  have h2 := move_from h
  have h3 := move_to h
  obtain ⟨hi, hq, hz, e⟩ := move_facts h
  have hs := isH_sorted hi
  have hsR := isH_sorted h1
  unfold moveHR
  rw [if_neg (by simp [h1]), if_neg (fun h => hq ⟨h.1.symm, h.2.symm⟩), if_neg (by simp [h2]), h3]
  refine Prod.ext rfl (sorted_ext ordH _ _ (with_sorted (with_sorted hsR _ _ _) _ _ _) hs fun x => ?_)
  simp only
  rw [mem_with (with_sorted hsR _ _ _), mem_with hsR, e, mem_with (with_sorted hs _ _ _), mem_with hs]
  constructor
  · rintro (⟨h4, rfl⟩ | ⟨⟨h4, _⟩ | ⟨⟨_, rfl⟩ | ⟨⟨h4, _⟩ | ⟨h4, _⟩, _⟩, h5⟩, h6⟩)
    · rcases lots_cases cs fa fc with ⟨e, _⟩ | ⟨x, hx, rfl, rfl, e⟩
      · exact absurd e h4
      · rw [e]; exact hx
    · exact absurd rfl h4
    · rw [unH_no] at h5; exact absurd ⟨rfl, rfl⟩ h5
    · exact absurd rfl h4
    · exact h4
  · intro hx
    by_cases hu : unH fa fc x = true
    · obtain ⟨rfl, rfl⟩ := (unH_iff _ _ _).1 hu
      rw [lots_mem hs hx]
      exact .inl ⟨((okH_iff x).1 (((isH_iff cs).1 hi).1 x hx)).1, rfl⟩
    · have hu : unH fa fc x = false := by simpa using hu
      have ht : unH ta tc x = false := by
        rw [unH_no]
        rintro ⟨rfl, rfl⟩
        rw [lots_mem hs hx] at hz
        exact ((okH_iff x).1 (((isH_iff cs).1 hi).1 x hx)).1 hz
      exact .inr ⟨.inr ⟨.inr ⟨.inr ⟨hx, hu⟩, ht⟩, ht⟩, hu⟩
theorem move_in6 {cs R : List Hc} {fa fc ta tc : Int} (h : moveHR cs fa fc ta tc = (0, R)) (h6 : ∀ g ∈ cs, ∀ y ∈ g.L, In64 y.qty) : ∀ g ∈ R, ∀ y ∈ g.L, In64 y.qty := by
  obtain ⟨hi, hq, hz, rfl⟩ := move_facts h
  have hs := isH_sorted hi
  exact with_in6 (with_sorted hs _ _ _) (with_in6 hs h6 (fun y hy => by cases hy) _ _) (lots_in6 h6 _ _) _ _
theorem is_len {cs : List Hc} (h : isH cs = true) : ∀ g ∈ cs, g.L.length ≤ 16 := fun g hg => ((isLs_iff g.L).1 ((okH_iff g).1 (((isH_iff cs).1 h).1 g hg)).2).2.1
theorem move_len {cs R : List Hc} {fa fc ta tc : Int} (h : moveHR cs fa fc ta tc = (0, R)) : R.length ≤ cs.length + 2 := by
  obtain ⟨hi, hq, hz, rfl⟩ := move_facts h
  have h1 := with_len (cs := cs) fa fc []
  have h2 := with_len (cs := withH cs fa fc []) ta tc (lotsH cs fa fc)
  omega
theorem chg_facts {how : List Lt → Int × List Lt} {cs R : List Hc} {a c : Int} (h : chgHR how cs a c = (0, R)) : isH cs = true ∧ ∃ L, how (lotsH cs a c) = (0, L) ∧ R = withH cs a c L := by
  unfold chgHR at h
  split at h
  · injection h with h1; cases h1
  · rename_i hi
    split at h
    · rename_i hn
      injection h with h1; exact absurd h1 hn
    · rename_i hn
      injection h with _ e
      refine ⟨by simpa using hi, _, Prod.ext (by simpa using hn) rfl, e.symm⟩
theorem chg_take_is {cs R : List Hc} {a c : Int} {x : Lt} (h : chgHR (fun l => takeLR l x) cs a c = (0, R)) : isH R = true ∧ ((∀ g ∈ cs, ∀ y ∈ g.L, In64 y.qty) → ∀ g ∈ R, ∀ y ∈ g.L, In64 y.qty) ∧ R.length ≤ cs.length + 1 := by
  obtain ⟨hi, L, hL, rfl⟩ := chg_facts h
  exact ⟨with_is hi (take_is hL).1 a c, fun h6 => with_in6 (isH_sorted hi) h6 ((take_is hL).2 (lots_in6 h6 a c)) a c, with_len a c L⟩
theorem pass_facts {cs R : List Hc} {fa fc ta tc tag : Int} {x : Lt} (h : passHR cs fa fc ta tc x tag = (0, R)) :
    isH cs = true ∧ ¬ (fa = ta ∧ fc = tc) ∧ ∃ L M, takeLR (lotsH cs fa fc) x = (0, L) ∧ putLR (lotsH cs ta tc) ⟨x.ast, tag, x.qty⟩ = (0, M) ∧ R = withH (withH cs fa fc L) ta tc M := by
  unfold passHR at h
  split at h
  · injection h with h1; cases h1
  · rename_i hi
    split at h
    · injection h with h1; cases h1
    · rename_i hq
      split at h
      · rename_i hn
        injection h with h1; exact absurd h1 hn
      · rename_i hn
        have hi : isH cs = true := by simpa using hi
        have hn : (chgHR (fun l => takeLR l x) cs fa fc).1 = 0 := by simpa using hn
        obtain ⟨_, L, hL, e⟩ := chg_facts (R := (chgHR (fun l => takeLR l x) cs fa fc).2) (Prod.ext hn rfl)
        rw [e] at h
        obtain ⟨_, M, hM, e2⟩ := chg_facts h
        rw [lots_with_other (isH_sorted hi) (fun h => hq ⟨h.1.symm, h.2.symm⟩)] at hM
        exact ⟨hi, hq, L, M, hL, hM, e2⟩
theorem pass_is {cs R : List Hc} {fa fc ta tc tag : Int} {x : Lt} (h : passHR cs fa fc ta tc x tag = (0, R)) : isH R = true ∧ ((∀ g ∈ cs, ∀ y ∈ g.L, In64 y.qty) → ∀ g ∈ R, ∀ y ∈ g.L, In64 y.qty) ∧ R.length ≤ cs.length + 2 := by
  obtain ⟨hi, hq, L, M, hL, hM, rfl⟩ := pass_facts h
  have hs := isH_sorted hi
  refine ⟨with_is (with_is hi (take_is hL).1 fa fc) (put_is hM).1 ta tc, fun h6 => ?_, ?_⟩
  · exact with_in6 (with_sorted hs _ _ _) (with_in6 hs h6 ((take_is hL).2 (lots_in6 h6 _ _)) _ _) ((put_is hM).2.2.2 (lots_in6 h6 _ _)) _ _
  · have h1 := with_len (cs := cs) fa fc L
    have h2 := with_len (cs := withH cs fa fc L) ta tc M
    omega
theorem pass_sum {cs R : List Hc} {fa fc ta tc tag : Int} {x : Lt} (h : passHR cs fa fc ta tc x tag = (0, R)) (t : Int) : (sumsH R t).sum = (sumsH cs t).sum := by
  obtain ⟨hi, hq, L, M, hL, hM, rfl⟩ := pass_facts h
  have hs := isH_sorted hi
  rw [sums_with (with_sorted hs fa fc L), sums_with hs, lots_with_other hs (fun h => hq ⟨h.1.symm, h.2.symm⟩), take_qsum hL, (put_is hM).2.2.1]
  simp only
  omega
theorem pass_other {cs R : List Hc} {fa fc ta tc tag oa oc : Int} {x : Lt} (h : passHR cs fa fc ta tc x tag = (0, R)) (h1 : ¬ (oa = fa ∧ oc = fc)) (h2 : ¬ (oa = ta ∧ oc = tc)) : lotsH R oa oc = lotsH cs oa oc := by
  obtain ⟨hi, hq, L, M, hL, hM, rfl⟩ := pass_facts h
  rw [lots_with_other (with_sorted (isH_sorted hi) fa fc L) h2]
  exact lots_with_other (isH_sorted hi) h1 L
theorem passHR_form {cs : List Hc} {fa fc ta tc tag : Int} {x : Lt} (h : isH cs = false) : passHR cs fa fc ta tc x tag = (3, []) := if_pos h
theorem passHR_same {cs : List Hc} {fa fc tag : Int} {x : Lt} (h : isH cs = true) : passHR cs fa fc fa fc x tag = (24, []) := by
  unfold passHR; rw [if_neg (by simp [h]), if_pos ⟨rfl, rfl⟩]
theorem passHR_err {cs R : List Hc} {fa fc ta tc tag n : Int} {x : Lt} (h : isH cs = true) (h1 : ¬ (fa = ta ∧ fc = tc)) (h2 : chgHR (fun l => takeLR l x) cs fa fc = (n, R)) (hn : n ≠ 0) : passHR cs fa fc ta tc x tag = (n, []) := by
  unfold passHR; rw [if_neg (by simp [h]), if_neg h1, h2, if_pos hn]
theorem passHR_ok {cs R : List Hc} {fa fc ta tc tag : Int} {x : Lt} (h : isH cs = true) (h1 : ¬ (fa = ta ∧ fc = tc)) (h2 : chgHR (fun l => takeLR l x) cs fa fc = (0, R)) : passHR cs fa fc ta tc x tag = chgHR (fun l => putLR l ⟨x.ast, tag, x.qty⟩) R ta tc := by
  unfold passHR; rw [if_neg (by simp [h]), if_neg h1, h2, if_neg (by simp)]
end Go.Proofs.Ytldnponbkhgijaa
end
section
namespace Go.Proofs.Ytldnponbkhgijaa
open Go.ChangeShapes Go.WideShapes Go.ChangeAt Go.RowKit
set_option linter.unusedVariables false
set_option linter.unusedSimpArgs false

theorem Bk.farH {w : World} {b : Nat} {cs : Array Value} (h : Bk w b cs) {p : Addr} (hp : p.block ≠ b) (u : Value) : Bk (w.setCell p u) b cs := by
  refine ⟨by simpa using h.1, fun o => ?_⟩
  rw [cell_set, if_neg (fun e => hp (by rw [e]))]
  exact h.2 o
theorem fz_new (w : World) (cs : Array Value) (t : TypeId) (i : Nat) : (w.alloc (.cells cs t)).frozen? ⟨w.heap.size, i, none⟩ = false := by simp
set_option maxHeartbeats 8000000 in
set_option maxRecDepth 100000 in
theorem hchange_takeN (A : Option Addr) (cap : Nat) (l : List Hd) (cs : List Hc) (a c xa xt xq : Int) (w : World) (hl : l.length ≤ 900000) (hcl : ∀ g ∈ cs, g.L.length ≤ 900000) (hx : In64 xq) (h6 : ∀ g ∈ cs, ∀ y ∈ g.L, In64 y.qty) (hs : Sl w A (rc Hd.cells l)) (ht : HdTab w l cs) :
    Calls Try.prog 129 #[.slice A l.length cap, .agg #[.int .i64 a, .int .i64 c], .agg #[.int .i64 xa, .int .i64 xt, .int .i64 xq], .func (.func 133) #[] #[]] w fun e w' => HResN l (AtOr w.heap.size) w.heap.size w' e (chgHR (fun m => takeLR m ⟨xa, xt, xq⟩) cs a c) ∧ Below w.heap.size w w' := by
  have hB0 := since_alloc (since_alloc (Below.refl _ w) (.cells #[.int .i64 a, .int .i64 c] 24)) (.cells #[.int .i64 xa, .int .i64 xt, .int .i64 xq] 93)
  have hK1 := (Bk.new w #[.int .i64 a, .int .i64 c] 24).alloc (.cells #[.int .i64 xa, .int .i64 xt, .int .i64 xq] 93)
  have hK2 := Bk.new (w.alloc (.cells #[.int .i64 a, .int .i64 c] 24)) #[.int .i64 xa, .int .i64 xt, .int .i64 xq] 93
  rw [World.size_alloc] at hK2
  have HIS := Lib.hid (his_any A cap l cs _ hl hcl ((hs.alloc (.cells #[.int .i64 a, .int .i64 c] 24)).alloc (.cells #[.int .i64 xa, .int .i64 xt, .int .i64 xq] 93)) (ht.below hB0))
  have HSL : Hid (∀ V, Below w.heap.size w V → Sl V A (rc Hd.cells l)) := Lib.hid fun V hV => hs.below hV
  have HTB : Hid (∀ V, Below w.heap.size w V → HdTab V l cs) := Lib.hid fun V hV => ht.below hV
  have HLO := Lib.hid (fun V h1 h2 => hlots_any A cap l cs a c V hl hcl h1 h2)
  have hlen := lotsH_len hcl a c
  have hl6 := lots_in6 h6 a c
  have HHO := Lib.hid (fun A1 c1 V h1 => ltake_any A1 c1 (lotsH cs a c) ⟨xa, xt, xq⟩ V hlen hx hl6 h1)
  obtain ⟨rn, RL, hR⟩ : ∃ rn RL, takeLR (lotsH cs a c) ⟨xa, xt, xq⟩ = (rn, RL) := ⟨_, _, rfl⟩
  rw [hR] at HHO
  unfold LRes Lt.val at HHO
  simp only at HHO
  clear hs ht
  have hF : Ent Try.prog 133 := Ent.of (by kernel_rfl)
  cases hi : isH cs with
  | false =>
    have HR := Lib.hid (chgHR_form (how := fun m => takeLR m ⟨xa, xt, xq⟩) (a := a) (c := c) hi)
    rw [hi] at HIS
    clear hi hR
    go_enter Try.func129, Try.ntmps129
    go_wp2_with fail
    refine HIS.out.mono ?_
    rintro e w1 ⟨rfl, hb⟩
    have hB1 := since_step hB0 hb
    go_wp2_with fail
    go_ret2
    rw [HR.out]
    exact ⟨HResN.nil _ _ _ _ _, hB1⟩
  | true =>
    rw [hi] at HIS
    by_cases hn : rn = 0
    rotate_left
    · have HR := Lib.hid (chgHR_err (how := fun m => takeLR m ⟨xa, xt, xq⟩) hi hR hn)
      have hnb : (rn != 0) = true := by simpa using hn
      have hnb2 : (rn == 0) = false := by simpa using hn
      clear hi hR hn
      go_enter Try.func129, Try.ntmps129
      go_wp2_with fail
      refine HIS.out.mono ?_
      rintro e w1 ⟨rfl, hb⟩
      have hB1 := since_step hB0 hb
      have HK1 : Hid (∀ V, Below w1.heap.size w1 V → Bk V w.heap.size #[.int .i64 a, .int .i64 c]) := Lib.hid fun V hV => (hK1.below hb).below hV
      have HK2 : Hid (∀ V, Below w1.heap.size w1 V → Bk V (w.heap.size + 1) #[.int .i64 xa, .int .i64 xt, .int .i64 xq]) := Lib.hid fun V hV => (hK2.below hb).below hV
      generalize lotsH cs a c = L0 at *
      clear hb hK1 hK2
      go_wp2_with fail
      refine wp_region_held_drew (S := (fun V => Below w.heap.size w V ∧ Below w1.heap.size w1 V)) (by kernel_rfl) (by exact ⟨hB1.drew, (Below.refl _ _).drew⟩) (fun hHeld => ?_)
      refine wpAnyH_take (i := 0) (oi := { dst := some 16, op := _, type := _, pos := _, after := _, guard := _ }) (v := ?_) rfl (by kernel_rfl) (by kernel_rfl) (by kernel_rfl) (fun _ _ _ h => h) (Or.inl ⟨by rfl, ?_⟩) hHeld ?_
      rotate_left
      · (intro w hSw; have ck := (HK1.out _ (hSw).2).2; have k0 := ck 0; have k1 := ck 1; simp at k0 k1; clear ck; have cq := (HK2.out _ (hSw).2).2; have k2 := cq 0; have k3 := cq 1; have k4 := cq 2; simp at k2 k3 k4; clear cq; go_simp <;> with_reducible rfl)
      try simp only [Act.put, List.setIfInBounds_toArray, List.set_cons_zero, List.set_cons_succ]
      refine wpAnyH_take (i := 1) (oi := { dst := some 17, op := _, type := _, pos := _, after := _, guard := _ }) (v := ?_) rfl (by kernel_rfl) (by kernel_rfl) (by kernel_rfl) (fun _ _ _ h => h) (Or.inl ⟨by rfl, ?_⟩) hHeld ?_
      rotate_left
      · (intro w hSw; have ck := (HK1.out _ (hSw).2).2; have k0 := ck 0; have k1 := ck 1; simp at k0 k1; clear ck; have cq := (HK2.out _ (hSw).2).2; have k2 := cq 0; have k3 := cq 1; have k4 := cq 2; simp at k2 k3 k4; clear cq; go_simp <;> with_reducible rfl)
      try simp only [Act.put, List.setIfInBounds_toArray, List.set_cons_zero, List.set_cons_succ]
      refine wpAnyH_take (i := 2) (oi := { dst := some 18, op := _, type := _, pos := _, after := _, guard := _ }) (v := ?_) rfl (by kernel_rfl) (by kernel_rfl) (by kernel_rfl) (fun _ _ _ h => h) (Or.inl ⟨by rfl, ?_⟩) hHeld ?_
      rotate_left
      · (intro w hSw; have ck := (HK1.out _ (hSw).2).2; have k0 := ck 0; have k1 := ck 1; simp at k0 k1; clear ck; have cq := (HK2.out _ (hSw).2).2; have k2 := cq 0; have k3 := cq 1; have k4 := cq 2; simp at k2 k3 k4; clear cq; go_simp <;> with_reducible rfl)
      try simp only [Act.put, List.setIfInBounds_toArray, List.set_cons_zero, List.set_cons_succ]
      refine wpAnyH_take (i := 4) (oi := { dst := some 20, op := _, type := _, pos := _, after := _, guard := _ }) (v := ?_) rfl (by kernel_rfl) (by kernel_rfl) (by kernel_rfl) (fun _ _ _ h => h) (Or.inl ⟨by rfl, ?_⟩) hHeld ?_
      rotate_left
      · (intro w hSw; have ck := (HK1.out _ (hSw).2).2; have k0 := ck 0; have k1 := ck 1; simp at k0 k1; clear ck; have cq := (HK2.out _ (hSw).2).2; have k2 := cq 0; have k3 := cq 1; have k4 := cq 2; simp at k2 k3 k4; clear cq; go_simp <;> with_reducible rfl)
      try simp only [Act.put, List.setIfInBounds_toArray, List.set_cons_zero, List.set_cons_succ]
      refine wpAnyH_ready (rs := [3]) (by kernel_rfl) (by simp) ?_
      refine AllReadyH.cons (o := { dst := some 19, op := _, type := _, pos := _, after := _, guard := _ }) rfl (fun K hK => ?_) AllReadyH.nil
      go_simp
      refine (HLO.out _ (HSL.out _ hHeld.1) (HTB.out _ hHeld.1)).mono ?_
      rintro e u1 ⟨⟨A1, c1, rfl, ho1⟩, hk1⟩
      have hKeep := And.intro (since_step hHeld.1 hk1) (since_step hHeld.2 hk1)
      have hs1 := Sl.of_own ho1
      clear ho1
      go_wp2_with fail
      refine hK.out _ _ (by (try dsimp only); exact hKeep) (fun hHeld => ?_)
      clear hK K hKeep
      try simp only [Act.put, List.setIfInBounds_toArray, List.set_cons_zero, List.set_cons_succ]
      refine wpAnyH_ready (rs := [5]) (by kernel_rfl) (by simp) ?_
      refine AllReadyH.cons (o := { dst := some 21, op := _, type := _, pos := _, after := _, guard := _ }) rfl (fun K hK => ?_) AllReadyH.nil
      go_simp
      refine (HHO.out A1 c1 _ hs1).mono ?_
      rintro e u2 ⟨⟨A2, c2, rfl, ho2⟩, hk2⟩
      have hKeep := And.intro (since_step hHeld.1 hk2) (since_step hHeld.2 hk2)
      have hf2 : AtOr w.heap.size A2 := (AtOr.own ho2).mono hHeld.1.size
      go_wp2_with fail
      refine hK.out _ _ (by (try dsimp only); exact hKeep) (fun hHeld => ?_)
      clear hK K hKeep
      try simp only [Act.put, List.setIfInBounds_toArray, List.set_cons_zero, List.set_cons_succ]
      refine wpAnyH_take (i := 6) (oi := { dst := some 15, op := _, type := _, pos := _, after := _, guard := _ }) (v := ?_) rfl (by kernel_rfl) (by kernel_rfl) (by kernel_rfl) (fun _ _ _ h => h) (Or.inl ⟨by rfl, ?_⟩) hHeld ?_
      rotate_left
      · (intro w hSw; have ck := (HK1.out _ (hSw).2).2; have k0 := ck 0; have k1 := ck 1; simp at k0 k1; clear ck; have cq := (HK2.out _ (hSw).2).2; have k2 := cq 0; have k3 := cq 1; have k4 := cq 2; simp at k2 k3 k4; clear cq; go_simp <;> with_reducible rfl)
      try simp only [Act.put, List.setIfInBounds_toArray, List.set_cons_zero, List.set_cons_succ]
      refine wpAnyH_take (i := 7) (oi := { dst := some 22, op := _, type := _, pos := _, after := _, guard := _ }) (v := ?_) rfl (by kernel_rfl) (by kernel_rfl) (by kernel_rfl) (fun _ _ _ h => h) (Or.inl ⟨by rfl, ?_⟩) hHeld ?_
      rotate_left
      · (intro w hSw; have ck := (HK1.out _ (hSw).2).2; have k0 := ck 0; have k1 := ck 1; simp at k0 k1; clear ck; have cq := (HK2.out _ (hSw).2).2; have k2 := cq 0; have k3 := cq 1; have k4 := cq 2; simp at k2 k3 k4; clear cq; go_simp <;> with_reducible rfl)
      try simp only [Act.put, List.setIfInBounds_toArray, List.set_cons_zero, List.set_cons_succ]
      refine wpAnyH_take (i := 8) (oi := { dst := some 23, op := _, type := _, pos := _, after := _, guard := _ }) (v := ?_) rfl (by kernel_rfl) (by kernel_rfl) (by kernel_rfl) (fun _ _ _ h => h) (Or.inl ⟨by rfl, ?_⟩) hHeld ?_
      rotate_left
      · (intro w hSw; have ck := (HK1.out _ (hSw).2).2; have k0 := ck 0; have k1 := ck 1; simp at k0 k1; clear ck; have cq := (HK2.out _ (hSw).2).2; have k2 := cq 0; have k3 := cq 1; have k4 := cq 2; simp at k2 k3 k4; clear cq; go_simp <;> with_reducible rfl)
      try simp only [Act.put, List.setIfInBounds_toArray, List.set_cons_zero, List.set_cons_succ]
      refine wpAnyH_take (i := 9) (oi := { dst := some 10, op := _, type := _, pos := _, after := _, guard := _ }) (v := ?_) rfl (by kernel_rfl) (by kernel_rfl) (by kernel_rfl) (fun _ _ _ h => h) (Or.inl ⟨by rfl, ?_⟩) hHeld ?_
      rotate_left
      · (intro w hSw; have ck := (HK1.out _ (hSw).2).2; have k0 := ck 0; have k1 := ck 1; simp at k0 k1; clear ck; have cq := (HK2.out _ (hSw).2).2; have k2 := cq 0; have k3 := cq 1; have k4 := cq 2; simp at k2 k3 k4; clear cq; go_simp <;> with_reducible rfl)
      try simp only [Act.put, List.setIfInBounds_toArray, List.set_cons_zero, List.set_cons_succ]
      refine wpAnyH_take (i := 10) (oi := { dst := some 11, op := _, type := _, pos := _, after := _, guard := _ }) (v := ?_) rfl (by kernel_rfl) (by kernel_rfl) (by kernel_rfl) (fun _ _ _ h => h) (Or.inl ⟨by rfl, ?_⟩) hHeld ?_
      rotate_left
      · (intro w hSw; have ck := (HK1.out _ (hSw).2).2; have k0 := ck 0; have k1 := ck 1; simp at k0 k1; clear ck; have cq := (HK2.out _ (hSw).2).2; have k2 := cq 0; have k3 := cq 1; have k4 := cq 2; simp at k2 k3 k4; clear cq; go_simp <;> with_reducible rfl)
      try simp only [Act.put, List.setIfInBounds_toArray, List.set_cons_zero, List.set_cons_succ]
      refine wpAnyH_done (by kernel_rfl) ?_ _
      have hBz := hHeld.1
      go_wp2_with fail
      go_ret2
      rw [HR.out]
      exact ⟨HResN.nil _ _ _ _ _, hBz⟩

    · subst hn
      have hRi : isLs RL = true := (take_is hR).1
      have hRl := isLs_le hRi
      have hso := isH_sorted hi
      have HR := Lib.hid (chgHR_ok (how := fun m => takeLR m ⟨xa, xt, xq⟩) hi hR)
      have HWI := Lib.hid (fun A2 c2 V h1 h2 h3 => hset_anyN A cap l cs a c A2 c2 RL V hl hcl hRl h1 h2 h3)
      rw [setHR_ok hi hRi] at HWI
      clear hi hR
      go_enter Try.func129, Try.ntmps129
      go_wp2_with fail
      refine HIS.out.mono ?_
      rintro e w1 ⟨rfl, hb⟩
      have hB1 := since_step hB0 hb
      have HK1 : Hid (∀ V, Below w1.heap.size w1 V → Bk V w.heap.size #[.int .i64 a, .int .i64 c]) := Lib.hid fun V hV => (hK1.below hb).below hV
      have HK2 : Hid (∀ V, Below w1.heap.size w1 V → Bk V (w.heap.size + 1) #[.int .i64 xa, .int .i64 xt, .int .i64 xq]) := Lib.hid fun V hV => (hK2.below hb).below hV
      generalize lotsH cs a c = L0 at *
      clear hb hK1 hK2
      go_wp2_with fail
      refine wp_region_held_drew (S := (fun V => Below w.heap.size w V ∧ Below w1.heap.size w1 V)) (by kernel_rfl) (by exact ⟨hB1.drew, (Below.refl _ _).drew⟩) (fun hHeld => ?_)
      refine wpAnyH_take (i := 0) (oi := { dst := some 16, op := _, type := _, pos := _, after := _, guard := _ }) (v := ?_) rfl (by kernel_rfl) (by kernel_rfl) (by kernel_rfl) (fun _ _ _ h => h) (Or.inl ⟨by rfl, ?_⟩) hHeld ?_
      rotate_left
      · (intro w hSw; have ck := (HK1.out _ (hSw).2).2; have k0 := ck 0; have k1 := ck 1; simp at k0 k1; clear ck; have cq := (HK2.out _ (hSw).2).2; have k2 := cq 0; have k3 := cq 1; have k4 := cq 2; simp at k2 k3 k4; clear cq; go_simp <;> with_reducible rfl)
      try simp only [Act.put, List.setIfInBounds_toArray, List.set_cons_zero, List.set_cons_succ]
      refine wpAnyH_take (i := 1) (oi := { dst := some 17, op := _, type := _, pos := _, after := _, guard := _ }) (v := ?_) rfl (by kernel_rfl) (by kernel_rfl) (by kernel_rfl) (fun _ _ _ h => h) (Or.inl ⟨by rfl, ?_⟩) hHeld ?_
      rotate_left
      · (intro w hSw; have ck := (HK1.out _ (hSw).2).2; have k0 := ck 0; have k1 := ck 1; simp at k0 k1; clear ck; have cq := (HK2.out _ (hSw).2).2; have k2 := cq 0; have k3 := cq 1; have k4 := cq 2; simp at k2 k3 k4; clear cq; go_simp <;> with_reducible rfl)
      try simp only [Act.put, List.setIfInBounds_toArray, List.set_cons_zero, List.set_cons_succ]
      refine wpAnyH_take (i := 2) (oi := { dst := some 18, op := _, type := _, pos := _, after := _, guard := _ }) (v := ?_) rfl (by kernel_rfl) (by kernel_rfl) (by kernel_rfl) (fun _ _ _ h => h) (Or.inl ⟨by rfl, ?_⟩) hHeld ?_
      rotate_left
      · (intro w hSw; have ck := (HK1.out _ (hSw).2).2; have k0 := ck 0; have k1 := ck 1; simp at k0 k1; clear ck; have cq := (HK2.out _ (hSw).2).2; have k2 := cq 0; have k3 := cq 1; have k4 := cq 2; simp at k2 k3 k4; clear cq; go_simp <;> with_reducible rfl)
      try simp only [Act.put, List.setIfInBounds_toArray, List.set_cons_zero, List.set_cons_succ]
      refine wpAnyH_take (i := 4) (oi := { dst := some 20, op := _, type := _, pos := _, after := _, guard := _ }) (v := ?_) rfl (by kernel_rfl) (by kernel_rfl) (by kernel_rfl) (fun _ _ _ h => h) (Or.inl ⟨by rfl, ?_⟩) hHeld ?_
      rotate_left
      · (intro w hSw; have ck := (HK1.out _ (hSw).2).2; have k0 := ck 0; have k1 := ck 1; simp at k0 k1; clear ck; have cq := (HK2.out _ (hSw).2).2; have k2 := cq 0; have k3 := cq 1; have k4 := cq 2; simp at k2 k3 k4; clear cq; go_simp <;> with_reducible rfl)
      try simp only [Act.put, List.setIfInBounds_toArray, List.set_cons_zero, List.set_cons_succ]
      refine wpAnyH_ready (rs := [3]) (by kernel_rfl) (by simp) ?_
      refine AllReadyH.cons (o := { dst := some 19, op := _, type := _, pos := _, after := _, guard := _ }) rfl (fun K hK => ?_) AllReadyH.nil
      go_simp
      refine (HLO.out _ (HSL.out _ hHeld.1) (HTB.out _ hHeld.1)).mono ?_
      rintro e u1 ⟨⟨A1, c1, rfl, ho1⟩, hk1⟩
      have hKeep := And.intro (since_step hHeld.1 hk1) (since_step hHeld.2 hk1)
      have hs1 := Sl.of_own ho1
      clear ho1
      go_wp2_with fail
      refine hK.out _ _ (by (try dsimp only); exact hKeep) (fun hHeld => ?_)
      clear hK K hKeep
      try simp only [Act.put, List.setIfInBounds_toArray, List.set_cons_zero, List.set_cons_succ]
      refine wpAnyH_ready (rs := [5]) (by kernel_rfl) (by simp) ?_
      refine AllReadyH.cons (o := { dst := some 21, op := _, type := _, pos := _, after := _, guard := _ }) rfl (fun K hK => ?_) AllReadyH.nil
      go_simp
      refine (HHO.out A1 c1 _ hs1).mono ?_
      rintro e u2 ⟨⟨A2, c2, rfl, ho2⟩, hk2⟩
      have hKeep := And.intro (since_step hHeld.1 hk2) (since_step hHeld.2 hk2)
      have hf2 : AtOr w.heap.size A2 := (AtOr.own ho2).mono hHeld.1.size
      go_wp2_with fail
      refine hK.out _ _ (by (try dsimp only); exact hKeep) (fun hHeld => ?_)
      clear hK K hKeep
      try simp only [Act.put, List.setIfInBounds_toArray, List.set_cons_zero, List.set_cons_succ]
      refine wpAnyH_take (i := 6) (oi := { dst := some 15, op := _, type := _, pos := _, after := _, guard := _ }) (v := ?_) rfl (by kernel_rfl) (by kernel_rfl) (by kernel_rfl) (fun _ _ _ h => h) (Or.inl ⟨by rfl, ?_⟩) hHeld ?_
      rotate_left
      · (intro w hSw; have ck := (HK1.out _ (hSw).2).2; have k0 := ck 0; have k1 := ck 1; simp at k0 k1; clear ck; have cq := (HK2.out _ (hSw).2).2; have k2 := cq 0; have k3 := cq 1; have k4 := cq 2; simp at k2 k3 k4; clear cq; go_simp <;> with_reducible rfl)
      try simp only [Act.put, List.setIfInBounds_toArray, List.set_cons_zero, List.set_cons_succ]
      refine wpAnyH_take (i := 7) (oi := { dst := some 22, op := _, type := _, pos := _, after := _, guard := _ }) (v := ?_) rfl (by kernel_rfl) (by kernel_rfl) (by kernel_rfl) (fun _ _ _ h => h) (Or.inl ⟨by rfl, ?_⟩) hHeld ?_
      rotate_left
      · (intro w hSw; have ck := (HK1.out _ (hSw).2).2; have k0 := ck 0; have k1 := ck 1; simp at k0 k1; clear ck; have cq := (HK2.out _ (hSw).2).2; have k2 := cq 0; have k3 := cq 1; have k4 := cq 2; simp at k2 k3 k4; clear cq; go_simp <;> with_reducible rfl)
      try simp only [Act.put, List.setIfInBounds_toArray, List.set_cons_zero, List.set_cons_succ]
      refine wpAnyH_take (i := 8) (oi := { dst := some 23, op := _, type := _, pos := _, after := _, guard := _ }) (v := ?_) rfl (by kernel_rfl) (by kernel_rfl) (by kernel_rfl) (fun _ _ _ h => h) (Or.inl ⟨by rfl, ?_⟩) hHeld ?_
      rotate_left
      · (intro w hSw; have ck := (HK1.out _ (hSw).2).2; have k0 := ck 0; have k1 := ck 1; simp at k0 k1; clear ck; have cq := (HK2.out _ (hSw).2).2; have k2 := cq 0; have k3 := cq 1; have k4 := cq 2; simp at k2 k3 k4; clear cq; go_simp <;> with_reducible rfl)
      try simp only [Act.put, List.setIfInBounds_toArray, List.set_cons_zero, List.set_cons_succ]
      refine wpAnyH_take (i := 9) (oi := { dst := some 10, op := _, type := _, pos := _, after := _, guard := _ }) (v := ?_) rfl (by kernel_rfl) (by kernel_rfl) (by kernel_rfl) (fun _ _ _ h => h) (Or.inl ⟨by rfl, ?_⟩) hHeld ?_
      rotate_left
      · (intro w hSw; have ck := (HK1.out _ (hSw).2).2; have k0 := ck 0; have k1 := ck 1; simp at k0 k1; clear ck; have cq := (HK2.out _ (hSw).2).2; have k2 := cq 0; have k3 := cq 1; have k4 := cq 2; simp at k2 k3 k4; clear cq; go_simp <;> with_reducible rfl)
      try simp only [Act.put, List.setIfInBounds_toArray, List.set_cons_zero, List.set_cons_succ]
      refine wpAnyH_take (i := 10) (oi := { dst := some 11, op := _, type := _, pos := _, after := _, guard := _ }) (v := ?_) rfl (by kernel_rfl) (by kernel_rfl) (by kernel_rfl) (fun _ _ _ h => h) (Or.inl ⟨by rfl, ?_⟩) hHeld ?_
      rotate_left
      · (intro w hSw; have ck := (HK1.out _ (hSw).2).2; have k0 := ck 0; have k1 := ck 1; simp at k0 k1; clear ck; have cq := (HK2.out _ (hSw).2).2; have k2 := cq 0; have k3 := cq 1; have k4 := cq 2; simp at k2 k3 k4; clear cq; go_simp <;> with_reducible rfl)
      try simp only [Act.put, List.setIfInBounds_toArray, List.set_cons_zero, List.set_cons_succ]
      refine wpAnyH_done (by kernel_rfl) ?_ _
      have hBz := hHeld.1
      have ck := (HK1.out _ hHeld.2).2
      have k0 := ck 0
      have k1 := ck 1
      simp at k0 k1
      clear ck
      have hs2 := Sl.of_own ho2
      have HW := Lib.hid (HWI.out A2 c2 _ (HSL.out _ hBz) (HTB.out _ hBz) hs2)
      go_wp2_with fail
      have hzz := hBz.size
      refine HW.out.mono ?_
      rintro e u3 ⟨⟨l3, A3, c3, rfl, hs3, ht3, hc3⟩, hk3⟩
      have hBz := since_step hBz hk3
      go_wp2_with fail
      go_ret2
      rw [HR.out]
      exact ⟨⟨l3, A3, c3, rfl, hs3, ht3, hc3.1, hc3.2.1.mono hzz, hc3.2.2.imp fun A h => h.mono hzz⟩, hBz⟩
set_option maxHeartbeats 4000000 in
set_option maxRecDepth 100000 in
theorem htake_anyN (A : Option Addr) (cap : Nat) (l : List Hd) (cs : List Hc) (a c xa xt xq : Int) (w : World) (hl : l.length ≤ 900000) (hcl : ∀ g ∈ cs, g.L.length ≤ 900000) (hx : In64 xq) (h6 : ∀ g ∈ cs, ∀ y ∈ g.L, In64 y.qty) (hs : Sl w A (rc Hd.cells l)) (ht : HdTab w l cs) :
    Calls Try.prog 67 #[.slice A l.length cap, .agg #[.int .i64 a, .int .i64 c], .agg #[.int .i64 xa, .int .i64 xt, .int .i64 xq]] w fun e w' => HResN l (AtOr w.heap.size) w.heap.size w' e (chgHR (fun m => takeLR m ⟨xa, xt, xq⟩) cs a c) ∧ Below w.heap.size w w' := by
  have hB0 := since_alloc (since_alloc (Below.refl _ w) (.cells #[.int .i64 a, .int .i64 c] 24)) (.cells #[.int .i64 xa, .int .i64 xt, .int .i64 xq] 93)
  have hK1 := (Bk.new w #[.int .i64 a, .int .i64 c] 24).alloc (.cells #[.int .i64 xa, .int .i64 xt, .int .i64 xq] 93)
  have hK2 := Bk.new (w.alloc (.cells #[.int .i64 a, .int .i64 c] 24)) #[.int .i64 xa, .int .i64 xt, .int .i64 xq] 93
  rw [World.size_alloc] at hK2
  have HC := Lib.hid (hchange_takeN A cap l cs a c xa xt xq _ hl hcl hx h6 ((hs.alloc (.cells #[.int .i64 a, .int .i64 c] 24)).alloc (.cells #[.int .i64 xa, .int .i64 xt, .int .i64 xq] 93)) (ht.below hB0))
  have HZ := Lib.hid hB0.size
  generalize chgHR (fun m => takeLR m ⟨xa, xt, xq⟩) cs a c = RR at *
  obtain ⟨rn, RL⟩ := RR
  unfold HResN at HC ⊢
  simp only at HC ⊢
  clear hs ht
  go_enter Try.func67, Try.ntmps67
  go_wp2_with fail
  refine HC.out.mono ?_
  rintro e w1 ⟨⟨l3, A3, c3, rfl, hs3, ht3, hc3, hat, hfa⟩, hb⟩
  have hB1 := since_step hB0 hb
  go_wp2_with fail
  go_ret2
  exact ⟨⟨l3, A3, c3, rfl, hs3, ht3, hc3, hat.mono HZ.out, hfa.imp fun A h => h.mono HZ.out⟩, hB1⟩
set_option maxHeartbeats 8000000 in
set_option maxRecDepth 100000 in
theorem hpass_any (A : Option Addr) (cap : Nat) (l : List Hd) (cs : List Hc) (fa fc ta tc xa xt xq tag : Int) (w : World) (hl : l.length ≤ 800000) (hcl : ∀ g ∈ cs, g.L.length ≤ 900000) (hx : In64 xq) (h6 : ∀ g ∈ cs, ∀ y ∈ g.L, In64 y.qty) (hs : Sl w A (rc Hd.cells l)) (ht : HdTab w l cs) :
    Calls Try.prog 75 #[.slice A l.length cap, .agg #[.int .i64 fa, .int .i64 fc], .agg #[.int .i64 ta, .int .i64 tc], .agg #[.int .i64 xa, .int .i64 xt, .int .i64 xq], .int .i64 tag] w fun e w' => HRes w' e (passHR cs fa fc ta tc ⟨xa, xt, xq⟩ tag) ∧ Below w.heap.size w w' := by
  have hB0 := since_alloc (since_alloc (since_alloc (Below.refl _ w) (.cells #[.int .i64 fa, .int .i64 fc] 24)) (.cells #[.int .i64 ta, .int .i64 tc] 24)) (.cells #[.int .i64 xa, .int .i64 xt, .int .i64 xq] 93)
  have hK1 := ((Bk.new w #[.int .i64 fa, .int .i64 fc] 24).alloc (.cells #[.int .i64 ta, .int .i64 tc] 24)).alloc (.cells #[.int .i64 xa, .int .i64 xt, .int .i64 xq] 93)
  have hK2 : Bk (((w.alloc (.cells #[.int .i64 fa, .int .i64 fc] 24)).alloc (.cells #[.int .i64 ta, .int .i64 tc] 24)).alloc (.cells #[.int .i64 xa, .int .i64 xt, .int .i64 xq] 93)) (w.heap.size + 1) #[.int .i64 ta, .int .i64 tc] := by
    have h := (Bk.new (w.alloc (.cells #[.int .i64 fa, .int .i64 fc] 24)) #[.int .i64 ta, .int .i64 tc] 24).alloc (.cells #[.int .i64 xa, .int .i64 xt, .int .i64 xq] 93)
    rw [World.size_alloc] at h; exact h
  have hK3 : Bk (((w.alloc (.cells #[.int .i64 fa, .int .i64 fc] 24)).alloc (.cells #[.int .i64 ta, .int .i64 tc] 24)).alloc (.cells #[.int .i64 xa, .int .i64 xt, .int .i64 xq] 93)) (w.heap.size + 2) #[.int .i64 xa, .int .i64 xt, .int .i64 xq] := by
    have h := Bk.new ((w.alloc (.cells #[.int .i64 fa, .int .i64 fc] 24)).alloc (.cells #[.int .i64 ta, .int .i64 tc] 24)) #[.int .i64 xa, .int .i64 xt, .int .i64 xq] 93
    rw [World.size_alloc, World.size_alloc] at h; exact h
  have hF0 : ∀ i, (((w.alloc (.cells #[.int .i64 fa, .int .i64 fc] 24)).alloc (.cells #[.int .i64 ta, .int .i64 tc] 24)).alloc (.cells #[.int .i64 xa, .int .i64 xt, .int .i64 xq] 93)).frozen? ⟨w.heap.size + 2, i, none⟩ = false := fun i => by
    have h := fz_new ((w.alloc (.cells #[.int .i64 fa, .int .i64 fc] 24)).alloc (.cells #[.int .i64 ta, .int .i64 tc] 24)) #[.int .i64 xa, .int .i64 xt, .int .i64 xq] 93 i
    rw [World.size_alloc, World.size_alloc] at h; exact h
  have HIS := Lib.hid (his_any A cap l cs _ (by omega) hcl (((hs.alloc (.cells #[.int .i64 fa, .int .i64 fc] 24)).alloc (.cells #[.int .i64 ta, .int .i64 tc] 24)).alloc (.cells #[.int .i64 xa, .int .i64 xt, .int .i64 xq] 93)) (ht.below hB0))
  have HSL : Hid (∀ V, Below w.heap.size w V → Sl V A (rc Hd.cells l)) := Lib.hid fun V hV => hs.below hV
  have HTB : Hid (∀ V, Below w.heap.size w V → HdTab V l cs) := Lib.hid fun V hV => ht.below hV
  have HT0 := Lib.hid ht
  have hll : l.length ≤ 900000 := by omega
  have HTK := Lib.hid (fun V h1 h2 => htake_anyN A cap l cs fa fc xa xt xq V hll hcl hx h6 h1 h2)
  obtain ⟨rn, RL, hR⟩ : ∃ rn RL, chgHR (fun m => takeLR m ⟨xa, xt, xq⟩) cs fa fc = (rn, RL) := ⟨_, _, rfl⟩
  rw [hR] at HTK
  unfold HResN at HTK
  simp only at HTK
  have hlc := ht.1
  clear hs ht
  cases hi : isH cs with
  | false =>
      have HR := Lib.hid (passHR_form (fa := fa) (fc := fc) (ta := ta) (tc := tc) (x := ⟨xa, xt, xq⟩) (tag := tag) hi)
      rw [hi] at HIS
      clear hi hR hlc
      go_enter Try.func75, Try.ntmps75
      go_wp2_with fail
      refine HIS.out.mono ?_
      rintro e w1 ⟨rfl, hb⟩
      have hB1 := since_step hB0 hb
      have hK1 := hK1.below hb
      have hK2 := hK2.below hb
      have hF1 : ∀ i, w1.frozen? ⟨w.heap.size + 2, i, none⟩ = false := fun i => (hb.frozen (p := ⟨w.heap.size + 2, i, none⟩) hK3.1).trans (hF0 i)
      have hK3 := hK3.below hb
      have ck := hK1.2; have k0 := ck 0; have k1 := ck 1; simp at k0 k1; clear ck
      have ck := hK2.2; have k2 := ck 0; have k3 := ck 1; simp at k2 k3; clear ck
      have ck := hK3.2; have k4 := ck 0; have k5 := ck 1; have k6 := ck 2; simp at k4 k5 k6; clear ck
      have hz1 : w.heap.size + 2 < w1.heap.size := hK3.1
      clear hb hF0
      go_wp2_with fail
      go_ret2
      rw [HR.out]
      exact ⟨HRes.nil _ _, hB1⟩
  | true =>
    rw [hi] at HIS
    by_cases hq : fa = ta ∧ fc = tc
    · obtain ⟨rfl, rfl⟩ := hq
      have HR := Lib.hid (passHR_same (fa := fa) (fc := fc) (x := ⟨xa, xt, xq⟩) (tag := tag) hi)
      clear hi hR hlc
      go_enter Try.func75, Try.ntmps75
      go_wp2_with fail
      refine HIS.out.mono ?_
      rintro e w1 ⟨rfl, hb⟩
      have hB1 := since_step hB0 hb
      have hK1 := hK1.below hb
      have hK2 := hK2.below hb
      have hF1 : ∀ i, w1.frozen? ⟨w.heap.size + 2, i, none⟩ = false := fun i => (hb.frozen (p := ⟨w.heap.size + 2, i, none⟩) hK3.1).trans (hF0 i)
      have hK3 := hK3.below hb
      have ck := hK1.2; have k0 := ck 0; have k1 := ck 1; simp at k0 k1; clear ck
      have ck := hK2.2; have k2 := ck 0; have k3 := ck 1; simp at k2 k3; clear ck
      have ck := hK3.2; have k4 := ck 0; have k5 := ck 1; have k6 := ck 2; simp at k4 k5 k6; clear ck
      have hz1 : w.heap.size + 2 < w1.heap.size := hK3.1
      clear hb hF0
      go_wp2_with fail
      go_ret2
      rw [HR.out]
      exact ⟨HRes.nil _ _, hB1⟩
    have hqb : (fa == ta && fc == tc) = false := by
      rw [← Bool.not_eq_true]; simpa using hq
    by_cases hn : rn = 0
    rotate_left
    · have HR := Lib.hid (passHR_err (x := ⟨xa, xt, xq⟩) (tag := tag) hi hq hR hn)
      have hnb : (rn != 0) = true := by simpa using hn
      have hnb2 : (rn == 0) = false := by simpa using hn
      clear hi hR hn hlc
      rcases Classical.em (fa = ta) with h1 | h1
      · subst h1
        have h2b : (fc == tc) = false := by simpa using hq
        clear hq hqb
        go_enter Try.func75, Try.ntmps75
        go_wp2_with fail
        refine HIS.out.mono ?_
        rintro e w1 ⟨rfl, hb⟩
        have hB1 := since_step hB0 hb
        have hK1 := hK1.below hb
        have hK2 := hK2.below hb
        have hF1 : ∀ i, w1.frozen? ⟨w.heap.size + 2, i, none⟩ = false := fun i => (hb.frozen (p := ⟨w.heap.size + 2, i, none⟩) hK3.1).trans (hF0 i)
        have hK3 := hK3.below hb
        have ck := hK1.2; have k0 := ck 0; have k1 := ck 1; simp at k0 k1; clear ck
        have ck := hK2.2; have k2 := ck 0; have k3 := ck 1; simp at k2 k3; clear ck
        have ck := hK3.2; have k4 := ck 0; have k5 := ck 1; have k6 := ck 2; simp at k4 k5 k6; clear ck
        have hz1 : w.heap.size + 2 < w1.heap.size := hK3.1
        clear hb hF0
        go_wp2_with fail
        refine (HTK.out _ (HSL.out _ hB1) (HTB.out _ hB1)).mono ?_
        rintro e w2 ⟨⟨l2, A2, c2, rfl, hs2, ht2, hc2, hat2, hfa2⟩, hb⟩
        have hB2 := since_step hB1 hb
        go_wp2_with fail
        go_ret2
        rw [HR.out]
        exact ⟨HRes.nil _ _, hB2⟩
      · have h1b : (fa == ta) = false := by simpa using h1
        clear hq hqb h1
        go_enter Try.func75, Try.ntmps75
        go_wp2_with fail
        refine HIS.out.mono ?_
        rintro e w1 ⟨rfl, hb⟩
        have hB1 := since_step hB0 hb
        have hK1 := hK1.below hb
        have hK2 := hK2.below hb
        have hF1 : ∀ i, w1.frozen? ⟨w.heap.size + 2, i, none⟩ = false := fun i => (hb.frozen (p := ⟨w.heap.size + 2, i, none⟩) hK3.1).trans (hF0 i)
        have hK3 := hK3.below hb
        have ck := hK1.2; have k0 := ck 0; have k1 := ck 1; simp at k0 k1; clear ck
        have ck := hK2.2; have k2 := ck 0; have k3 := ck 1; simp at k2 k3; clear ck
        have ck := hK3.2; have k4 := ck 0; have k5 := ck 1; have k6 := ck 2; simp at k4 k5 k6; clear ck
        have hz1 : w.heap.size + 2 < w1.heap.size := hK3.1
        clear hb hF0
        go_wp2_with fail
        refine (HTK.out _ (HSL.out _ hB1) (HTB.out _ hB1)).mono ?_
        rintro e w2 ⟨⟨l2, A2, c2, rfl, hs2, ht2, hc2, hat2, hfa2⟩, hb⟩
        have hB2 := since_step hB1 hb
        go_wp2_with fail
        go_ret2
        rw [HR.out]
        exact ⟨HRes.nil _ _, hB2⟩
    · subst hn
      obtain ⟨hi1, h61, hl1⟩ := chg_take_is hR
      have h61 := h61 h6
      have hcl1 : ∀ g ∈ RL, g.L.length ≤ 900000 := fun g hg => Nat.le_trans (is_len hi1 g hg) (by omega)
      have HR : Hid (passHR cs fa fc ta tc ⟨xa, xt, xq⟩ tag = chgHR (fun m => putLR m ⟨xa, tag, xq⟩) RL ta tc) := Lib.hid (passHR_ok (x := ⟨xa, xt, xq⟩) (tag := tag) hi hq hR)
      have HPU := Lib.hid (fun A2 c2 l2 V hl2 h1 h2 => hput_any A2 c2 l2 RL ta tc xa tag xq V hl2 hcl1 hx h61 h1 h2)
      have HRL : Hid (RL.length ≤ 900000) := Lib.hid (by omega)
      generalize chgHR (fun m => putLR m ⟨xa, tag, xq⟩) RL ta tc = RR at *
      obtain ⟨pn, PL⟩ := RR
      unfold HRes at HPU
      simp only at HPU
      clear hi hR hlc hi1 h61 hl1 hcl1
      rcases Classical.em (fa = ta) with h1 | h1
      · subst h1
        have h2b : (fc == tc) = false := by simpa using hq
        clear hq hqb
        go_enter Try.func75, Try.ntmps75
        go_wp2_with fail
        refine HIS.out.mono ?_
        rintro e w1 ⟨rfl, hb⟩
        have hB1 := since_step hB0 hb
        have hK1 := hK1.below hb
        have hK2 := hK2.below hb
        have hF1 : ∀ i, w1.frozen? ⟨w.heap.size + 2, i, none⟩ = false := fun i => (hb.frozen (p := ⟨w.heap.size + 2, i, none⟩) hK3.1).trans (hF0 i)
        have hK3 := hK3.below hb
        have ck := hK1.2; have k0 := ck 0; have k1 := ck 1; simp at k0 k1; clear ck
        have ck := hK2.2; have k2 := ck 0; have k3 := ck 1; simp at k2 k3; clear ck
        have ck := hK3.2; have k4 := ck 0; have k5 := ck 1; have k6 := ck 2; simp at k4 k5 k6; clear ck
        have hz1 : w.heap.size + 2 < w1.heap.size := hK3.1
        clear hb hF0
        go_wp2_with fail
        refine (HTK.out _ (HSL.out _ hB1) (HTB.out _ hB1)).mono ?_
        rintro e w2 ⟨⟨l2, A2, c2, rfl, hs2, ht2, hc2, hat2, hfa2⟩, hb⟩
        have hB2 := since_step hB1 hb
        have hK2 := hK2.below hb
        have hF2 : ∀ i, w2.frozen? ⟨w.heap.size + 2, i, none⟩ = false := fun i => (hb.frozen (p := ⟨w.heap.size + 2, i, none⟩) hz1).trans (hF1 i)
        have hK3 := hK3.below hb
        have hl2 : l2.length ≤ 900000 := by have := ht2.1; have := HRL.out; omega
        have hsZ : Sl (w2.setCell ⟨w.heap.size + 2, 1, none⟩ (.int .i64 tag)) A2 (rc Hd.cells l2) := hat2.sl hs2 (by show w.heap.size + 2 < _; omega) _
        have htZ : HdTab (w2.setCell ⟨w.heap.size + 2, 1, none⟩ (.int .i64 tag)) l2 RL := HdTab.set1 HT0.out ht2 hfa2 (by show w.heap.size ≤ w.heap.size + 2; omega) (by show w.heap.size + 2 < _; omega) _
        have hBZ : Below w.heap.size w (w2.setCell ⟨w.heap.size + 2, 1, none⟩ (.int .i64 tag)) := Below.setCell hB2 (by show w.heap.size ≤ w.heap.size + 2; omega) _
        have hKZ := hK2.farH (p := ⟨w.heap.size + 2, 1, none⟩) (by show w.heap.size + 2 ≠ w.heap.size + 1; omega) (.int .i64 tag)
        have ck := hK3.2; have k4 := ck 0; have k5 := ck 1; have k6 := ck 2; simp at k4 k5 k6; clear ck
        have z4 : (w2.setCell ⟨w.heap.size + 2, 1, none⟩ (.int .i64 tag)).cell? ⟨w.heap.size + 2, 0, none⟩ = some (.int .i64 xa) := by rw [cell_set, if_neg (by simp)]; exact k4
        have z5 : (w2.setCell ⟨w.heap.size + 2, 1, none⟩ (.int .i64 tag)).cell? ⟨w.heap.size + 2, 1, none⟩ = some (.int .i64 tag) := by rw [cell_set, if_pos rfl, k5]; rfl
        have z6 : (w2.setCell ⟨w.heap.size + 2, 1, none⟩ (.int .i64 tag)).cell? ⟨w.heap.size + 2, 2, none⟩ = some (.int .i64 xq) := by rw [cell_set, if_neg (by simp)]; exact k6
        have HQQ := Lib.hid (And.intro hc2 (And.intro hsZ htZ))
        have hz2 : w.heap.size + 2 < w2.heap.size := hK3.1
        clear hs2 ht2 hat2 hfa2 hK2 hK3 hb hB1 hK1 k0 k1 k2 k3 hsZ htZ hc2 k4 k6
        have hf2 := hF2 1
        go_upto_region 9 with fail
        generalize hWW : w2.setCell ⟨w.heap.size + 2, 1, none⟩ (.int .i64 tag) = W3 at *
        clear hWW k5 hf2 hF1 hF2
        have ck := hKZ.2; have k2 := ck 0; have k3 := ck 1; simp at k2 k3; clear ck
        have HP3 := Lib.hid (HPU.out A2 c2 l2 _ hl2 HQQ.out.2.1 HQQ.out.2.2)
        clear HQQ HPU
        go_wp2_with fail
        refine HP3.out.mono ?_
        rintro e w4 ⟨⟨l3, A3, c3, rfl, hs3, ht3, hc3⟩, hb⟩
        have hB4 := since_step hBZ hb
        go_wp2_with fail
        go_ret2
        rw [HR.out]
        exact ⟨⟨l3, A3, c3, rfl, hs3, ht3, hc3⟩, hB4⟩
      · have h1b : (fa == ta) = false := by simpa using h1
        clear hq hqb h1
        go_enter Try.func75, Try.ntmps75
        go_wp2_with fail
        refine HIS.out.mono ?_
        rintro e w1 ⟨rfl, hb⟩
        have hB1 := since_step hB0 hb
        have hK1 := hK1.below hb
        have hK2 := hK2.below hb
        have hF1 : ∀ i, w1.frozen? ⟨w.heap.size + 2, i, none⟩ = false := fun i => (hb.frozen (p := ⟨w.heap.size + 2, i, none⟩) hK3.1).trans (hF0 i)
        have hK3 := hK3.below hb
        have ck := hK1.2; have k0 := ck 0; have k1 := ck 1; simp at k0 k1; clear ck
        have ck := hK2.2; have k2 := ck 0; have k3 := ck 1; simp at k2 k3; clear ck
        have ck := hK3.2; have k4 := ck 0; have k5 := ck 1; have k6 := ck 2; simp at k4 k5 k6; clear ck
        have hz1 : w.heap.size + 2 < w1.heap.size := hK3.1
        clear hb hF0
        go_wp2_with fail
        refine (HTK.out _ (HSL.out _ hB1) (HTB.out _ hB1)).mono ?_
        rintro e w2 ⟨⟨l2, A2, c2, rfl, hs2, ht2, hc2, hat2, hfa2⟩, hb⟩
        have hB2 := since_step hB1 hb
        have hK2 := hK2.below hb
        have hF2 : ∀ i, w2.frozen? ⟨w.heap.size + 2, i, none⟩ = false := fun i => (hb.frozen (p := ⟨w.heap.size + 2, i, none⟩) hz1).trans (hF1 i)
        have hK3 := hK3.below hb
        have hl2 : l2.length ≤ 900000 := by have := ht2.1; have := HRL.out; omega
        have hsZ : Sl (w2.setCell ⟨w.heap.size + 2, 1, none⟩ (.int .i64 tag)) A2 (rc Hd.cells l2) := hat2.sl hs2 (by show w.heap.size + 2 < _; omega) _
        have htZ : HdTab (w2.setCell ⟨w.heap.size + 2, 1, none⟩ (.int .i64 tag)) l2 RL := HdTab.set1 HT0.out ht2 hfa2 (by show w.heap.size ≤ w.heap.size + 2; omega) (by show w.heap.size + 2 < _; omega) _
        have hBZ : Below w.heap.size w (w2.setCell ⟨w.heap.size + 2, 1, none⟩ (.int .i64 tag)) := Below.setCell hB2 (by show w.heap.size ≤ w.heap.size + 2; omega) _
        have hKZ := hK2.farH (p := ⟨w.heap.size + 2, 1, none⟩) (by show w.heap.size + 2 ≠ w.heap.size + 1; omega) (.int .i64 tag)
        have ck := hK3.2; have k4 := ck 0; have k5 := ck 1; have k6 := ck 2; simp at k4 k5 k6; clear ck
        have z4 : (w2.setCell ⟨w.heap.size + 2, 1, none⟩ (.int .i64 tag)).cell? ⟨w.heap.size + 2, 0, none⟩ = some (.int .i64 xa) := by rw [cell_set, if_neg (by simp)]; exact k4
        have z5 : (w2.setCell ⟨w.heap.size + 2, 1, none⟩ (.int .i64 tag)).cell? ⟨w.heap.size + 2, 1, none⟩ = some (.int .i64 tag) := by rw [cell_set, if_pos rfl, k5]; rfl
        have z6 : (w2.setCell ⟨w.heap.size + 2, 1, none⟩ (.int .i64 tag)).cell? ⟨w.heap.size + 2, 2, none⟩ = some (.int .i64 xq) := by rw [cell_set, if_neg (by simp)]; exact k6
        have HQQ := Lib.hid (And.intro hc2 (And.intro hsZ htZ))
        have hz2 : w.heap.size + 2 < w2.heap.size := hK3.1
        clear hs2 ht2 hat2 hfa2 hK2 hK3 hb hB1 hK1 k0 k1 k2 k3 hsZ htZ hc2 k4 k6
        have hf2 := hF2 1
        go_upto_region 9 with fail
        generalize hWW : w2.setCell ⟨w.heap.size + 2, 1, none⟩ (.int .i64 tag) = W3 at *
        clear hWW k5 hf2 hF1 hF2
        have ck := hKZ.2; have k2 := ck 0; have k3 := ck 1; simp at k2 k3; clear ck
        have HP3 := Lib.hid (HPU.out A2 c2 l2 _ hl2 HQQ.out.2.1 HQQ.out.2.2)
        clear HQQ HPU
        go_wp2_with fail
        refine HP3.out.mono ?_
        rintro e w4 ⟨⟨l3, A3, c3, rfl, hs3, ht3, hc3⟩, hb⟩
        have hB4 := since_step hBZ hb
        go_wp2_with fail
        go_ret2
        rw [HR.out]
        exact ⟨⟨l3, A3, c3, rfl, hs3, ht3, hc3⟩, hB4⟩
end Go.Proofs.Ytldnponbkhgijaa
end
section
namespace Go.Proofs.Ytldnponbkhgijaa
open Go.ChangeShapes Go.WideShapes Go.ChangeAt Go.RowKit
set_option linter.unusedVariables false
set_option linter.unusedSimpArgs false

structure RowS (α : Type) where
  A : Option Addr
  c : Nat
  l : List α
section
variable {α : Type}
def RowS.cells (s : RowS α) : List Value := [.slice s.A s.l.length s.c]
def RowS.val (s : RowS α) : Value := .slice s.A s.l.length s.c
theorem RowS.len (s : RowS α) : s.cells.length = 1 := rfl
theorem RowS.one (s : RowS α) : ∀ u ∈ s.cells, u.oneCell' = true := by
  intro u hu
  simp only [RowS.cells, List.mem_cons, List.not_mem_nil, or_false] at hu
  subst hu; rfl
def RowS.all (S : List (RowS α)) : List α := (S.map RowS.l).flatten
def RowsOk (w : World) (f : α → List Value) (S : List (RowS α)) : Prop := ∀ s ∈ S, Sl w s.A (rc f s.l)
theorem RowsOk.below {w w' : World} {f : α → List Value} {S : List (RowS α)} (h : RowsOk w f S) (hb : Below w.heap.size w w') : RowsOk w' f S := fun s hs => (h s hs).below hb
theorem RowsOk.alloc {w : World} {f : α → List Value} {S : List (RowS α)} (h : RowsOk w f S) (o : Obj) : RowsOk (w.alloc o) f S := fun s hs => (h s hs).alloc o
theorem RowsOk.drew {w : World} {f : α → List Value} {S : List (RowS α)} (h : RowsOk w f S) : RowsOk w.drew f S := h
theorem rd_rowsP {w : World} {f : α → List Value} {p : α → Prop} {s : Shape} {A : Option Addr} {n c : Nat} (hf : ∀ r, Rd w s r → ∃ g, r = f g ∧ p g) (h : Rd w (.sl s) [.slice A n c]) :
    ∃ l : List α, l.length = n ∧ n ≤ c ∧ c ≤ maxLen ∧ Sl w A (rc f l) ∧ ∀ y ∈ l, p y := by
  obtain ⟨A', n', c', rows, e, h1, h2, h3, h4, h5⟩ := h
  simp only [List.cons.injEq, Value.slice.injEq, and_true] at e
  obtain ⟨rfl, rfl, rfl⟩ := e
  have key : ∀ rows : List (List Value), (∀ r ∈ rows, Rd w s r) → ∃ l : List α, l.length = rows.length ∧ rows.flatten = rc f l ∧ ∀ y ∈ l, p y := by
    intro rows
    induction rows with
    | nil => intro _; exact ⟨[], rfl, rfl, fun y hy => by cases hy⟩
    | cons r rows ih =>
      intro h
      obtain ⟨l, a1, a2, a3⟩ := ih (fun x hx => h x (by simp [hx]))
      obtain ⟨x, rfl, hx⟩ := hf r (h r (by simp))
      refine ⟨x :: l, by simp [a1], by simp [a2, rc], fun y hy => ?_⟩
      rcases List.mem_cons.1 hy with rfl | hy
      · exact hx
      · exact a3 y hy
  obtain ⟨l, a1, a2, a3⟩ := key rows h5
  rw [a2] at h4
  exact ⟨l, by omega, h1, h2, h4, a3⟩
end
end Go.Proofs.Ytldnponbkhgijaa
end
