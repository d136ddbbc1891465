import Derived.Test.YtldnponbkhgijaaHP08
import Derived.Test.YtldnponbkhgijaaHP12
section
namespace Go.Proofs.Ytldnponbkhgijaa
open Go.ChangeShapes Go.WideShapes Go.ChangeAt Go.RowKit
set_option linter.unusedVariables false
set_option linter.unusedSimpArgs false

set_option maxHeartbeats 8000000 in
set_option maxRecDepth 100000 in
theorem rhsame_self (A : Option Addr) (cap : Nat) (l : List Hd) (A2 : Option Addr) (cap2 : Nat) (m : List Hd) (cs : List Hc) (w : World) (hl : l.length ≤ 900000) (hcl : ∀ g ∈ cs, g.L.length ≤ 900000) (hs : Sl w A (rc Hd.cells l)) (ht : HdTab w l cs) (hs2 : Sl w A2 (rc Hd.cells m)) (ht2 : HdTab w m cs) :
    Calls Try.prog 71 #[.slice A l.length cap, .slice A2 m.length cap2] w fun e w' => e = .returned (.bool true) ∧ Below w.heap.size w w' := by
  have hml : m.length = l.length := ht2.1.trans ht.1.symm
  rw [hml]
  have HML := Lib.hid hml
  have HLC := Lib.hid ht.1
  clear hml
  go_enter Try.func71, Try.ntmps71
  go_wp2_with fail
  go_loopw [5] (fun i wr => ∃ k : Nat, k ≤ l.length ∧ i = .int .i64 k ∧ Below w.heap.size w wr) (fun i _ => l.length - (intOf i).toNat)
  case atStart => exact ⟨0, by omega, rfl, Below.refl _ _⟩
  case round =>
    obtain ⟨k, hk, rfl, hB⟩ := hrel
    by_cases hlt : k < l.length
    · have hlc : k < cs.length := HLC.out ▸ hlt
      have hlm : k < m.length := by rw [HML.out]; exact hlt
      obtain ⟨b, o, rfl, hbw, hg⟩ := (hs.below hB).hd hlt
      obtain ⟨b2, o2, rfl, hbw2, hg2⟩ := (hs2.below hB).hd hlm
      have hlk : (k : Int) < (l.length : Int) := by omega
      have hgk : (0 : Int) ≤ (k : Int) := by omega
      have hks : IntKind.i64.wrap ((k : Int) + 1) = (k : Int) + 1 := IntWalk.i64_in _ (by omega)
      have hI := (ht.below hB).2 k hlt hlc
      have hI2 := (ht2.below hB).2 k hlm hlc
      have hm := hcl _ (List.getElem_mem hlc)
      have HG : Hid (∀ V, Below wr.heap.size wr V → l[k].at V b (o + k * 3) ∧ m[k].at V b2 (o2 + k * 3)) := Lib.hid fun V hV => ⟨Hd.at_keep hg fun i => hV.cell (p := ⟨b, i, none⟩) hbw, Hd.at_keep hg2 fun i => hV.cell (p := ⟨b2, i, none⟩) hbw2⟩
      clear hg hg2
      generalize l[k] = v at *
      generalize m[k] = u at *
      generalize cs[k] = d at *
      obtain ⟨va, vc, vt, vL, vC⟩ := v
      obtain ⟨ua, uc, ut, uL, uC⟩ := u
      obtain ⟨da, dc, dL⟩ := d
      obtain ⟨i0, i1, i2, i3⟩ := hI
      obtain ⟨k0, k1, k2, k3⟩ := hI2
      simp only at i0 i1 i2 i3 k0 k1 k2 k3 hm
      subst i0; subst i1; subst i2; subst k0; subst k1; subst k2
      unfold Hd.at at HG
      simp only at HG
      have HSA : Hid (∀ V, Below wr.heap.size wr V → Calls Try.prog 61 #[.slice vt dL.length vC, .slice ut dL.length uC] V fun e w' => e = .returned (.bool true) ∧ Below V.heap.size V w') := Lib.hid fun V hV => rlsame_any_self vt ut vC uC dL V (by omega) (i3.below hV) (k3.below hV)
      clear i3 k3
      go_wp2_with fail
      refine wp_region_held_drew (S := (fun V => Below wr.heap.size wr V)) (by kernel_rfl) (by exact (Below.refl _ _).drew) (fun hHeld => ?_)
      refine wpAnyH_take (i := 0) (oi := { dst := some 17, op := _, type := _, pos := _, after := _, guard := _ }) (v := ?_) rfl (by kernel_rfl) (by kernel_rfl) (by kernel_rfl) (fun _ _ _ h => h) (Or.inl ⟨by rfl, ?_⟩) hHeld ?_
      rotate_left
      · (intro w hSw; obtain ⟨⟨g0, g1, g2⟩, h0, h1, h2⟩ := HG.out _ hSw; go_simp <;> with_reducible rfl)
      try simp only [Act.put, List.setIfInBounds_toArray, List.set_cons_zero, List.set_cons_succ]
      refine wpAnyH_take (i := 1) (oi := { dst := some 18, op := _, type := _, pos := _, after := _, guard := _ }) (v := ?_) rfl (by kernel_rfl) (by kernel_rfl) (by kernel_rfl) (fun _ _ _ h => h) (Or.inl ⟨by rfl, ?_⟩) hHeld ?_
      rotate_left
      · (intro w hSw; obtain ⟨⟨g0, g1, g2⟩, h0, h1, h2⟩ := HG.out _ hSw; go_simp <;> with_reducible rfl)
      try simp only [Act.put, List.setIfInBounds_toArray, List.set_cons_zero, List.set_cons_succ]
      refine wpAnyH_take (i := 2) (oi := { dst := some 19, op := _, type := _, pos := _, after := _, guard := _ }) (v := ?_) rfl (by kernel_rfl) (by kernel_rfl) (by kernel_rfl) (fun _ _ _ h => h) (Or.inl ⟨by rfl, ?_⟩) hHeld ?_
      rotate_left
      · (intro w hSw; obtain ⟨⟨g0, g1, g2⟩, h0, h1, h2⟩ := HG.out _ hSw; go_simp <;> with_reducible rfl)
      try simp only [Act.put, List.setIfInBounds_toArray, List.set_cons_zero, List.set_cons_succ]
      refine wpAnyH_take (i := 3) (oi := { dst := some 20, op := _, type := _, pos := _, after := _, guard := _ }) (v := ?_) rfl (by kernel_rfl) (by kernel_rfl) (by kernel_rfl) (fun _ _ _ h => h) (Or.inl ⟨by rfl, ?_⟩) hHeld ?_
      rotate_left
      · (intro w hSw; obtain ⟨⟨g0, g1, g2⟩, h0, h1, h2⟩ := HG.out _ hSw; go_simp <;> with_reducible rfl)
      try simp only [Act.put, List.setIfInBounds_toArray, List.set_cons_zero, List.set_cons_succ]
      refine wpAnyH_take (i := 4) (oi := { dst := some 21, op := _, type := _, pos := _, after := _, guard := _ }) (v := ?_) rfl (by kernel_rfl) (by kernel_rfl) (by kernel_rfl) (fun _ _ _ h => h) (Or.inl ⟨by rfl, ?_⟩) hHeld ?_
      rotate_left
      · (intro w hSw; obtain ⟨⟨g0, g1, g2⟩, h0, h1, h2⟩ := HG.out _ hSw; go_simp <;> with_reducible rfl)
      try simp only [Act.put, List.setIfInBounds_toArray, List.set_cons_zero, List.set_cons_succ]
      refine wpAnyH_take (i := 5) (oi := { dst := some 22, op := _, type := _, pos := _, after := _, guard := _ }) (v := ?_) rfl (by kernel_rfl) (by kernel_rfl) (by kernel_rfl) (fun _ _ _ h => h) (Or.inl ⟨by rfl, ?_⟩) hHeld ?_
      rotate_left
      · (intro w hSw; obtain ⟨⟨g0, g1, g2⟩, h0, h1, h2⟩ := HG.out _ hSw; go_simp <;> with_reducible rfl)
      try simp only [Act.put, List.setIfInBounds_toArray, List.set_cons_zero, List.set_cons_succ]
      refine wpAnyH_take (i := 6) (oi := { dst := some 23, op := _, type := _, pos := _, after := _, guard := _ }) (v := ?_) rfl (by kernel_rfl) (by kernel_rfl) (by kernel_rfl) (fun _ _ _ h => h) (Or.inl ⟨by rfl, ?_⟩) hHeld ?_
      rotate_left
      · (intro w hSw; obtain ⟨⟨g0, g1, g2⟩, h0, h1, h2⟩ := HG.out _ hSw; go_simp <;> with_reducible rfl)
      try simp only [Act.put, List.setIfInBounds_toArray, List.set_cons_zero, List.set_cons_succ]
      refine wpAnyH_take (i := 7) (oi := { dst := some 24, op := _, type := _, pos := _, after := _, guard := _ }) (v := ?_) rfl (by kernel_rfl) (by kernel_rfl) (by kernel_rfl) (fun _ _ _ h => h) (Or.inl ⟨by rfl, ?_⟩) hHeld ?_
      rotate_left
      · (intro w hSw; obtain ⟨⟨g0, g1, g2⟩, h0, h1, h2⟩ := HG.out _ hSw; go_simp <;> with_reducible rfl)
      try simp only [Act.put, List.setIfInBounds_toArray, List.set_cons_zero, List.set_cons_succ]
      refine wpAnyH_take (i := 8) (oi := { dst := some 25, op := _, type := _, pos := _, after := _, guard := _ }) (v := ?_) rfl (by kernel_rfl) (by kernel_rfl) (by kernel_rfl) (fun _ _ _ h => h) (Or.inl ⟨by rfl, ?_⟩) hHeld ?_
      rotate_left
      · (intro w hSw; obtain ⟨⟨g0, g1, g2⟩, h0, h1, h2⟩ := HG.out _ hSw; go_simp <;> with_reducible rfl)
      try simp only [Act.put, List.setIfInBounds_toArray, List.set_cons_zero, List.set_cons_succ]
      refine wpAnyH_take (i := 9) (oi := { dst := some 26, op := _, type := _, pos := _, after := _, guard := _ }) (v := ?_) rfl (by kernel_rfl) (by kernel_rfl) (by kernel_rfl) (fun _ _ _ h => h) (Or.inl ⟨by rfl, ?_⟩) hHeld ?_
      rotate_left
      · (intro w hSw; obtain ⟨⟨g0, g1, g2⟩, h0, h1, h2⟩ := HG.out _ hSw; go_simp <;> with_reducible rfl)
      try simp only [Act.put, List.setIfInBounds_toArray, List.set_cons_zero, List.set_cons_succ]
      refine wpAnyH_take (i := 10) (oi := { dst := some 27, op := _, type := _, pos := _, after := _, guard := _ }) (v := ?_) rfl (by kernel_rfl) (by kernel_rfl) (by kernel_rfl) (fun _ _ _ h => h) (Or.inl ⟨by rfl, ?_⟩) hHeld ?_
      rotate_left
      · (intro w hSw; obtain ⟨⟨g0, g1, g2⟩, h0, h1, h2⟩ := HG.out _ hSw; go_simp <;> with_reducible rfl)
      try simp only [Act.put, List.setIfInBounds_toArray, List.set_cons_zero, List.set_cons_succ]
      refine wpAnyH_take (i := 11) (oi := { dst := some 28, op := _, type := _, pos := _, after := _, guard := _ }) (v := ?_) rfl (by kernel_rfl) (by kernel_rfl) (by kernel_rfl) (fun _ _ _ h => h) (Or.inl ⟨by rfl, ?_⟩) hHeld ?_
      rotate_left
      · (intro w hSw; obtain ⟨⟨g0, g1, g2⟩, h0, h1, h2⟩ := HG.out _ hSw; go_simp <;> with_reducible rfl)
      try simp only [Act.put, List.setIfInBounds_toArray, List.set_cons_zero, List.set_cons_succ]
      refine wpAnyH_take (i := 12) (oi := { dst := some 29, op := _, type := _, pos := _, after := _, guard := _ }) (v := ?_) rfl (by kernel_rfl) (by kernel_rfl) (by kernel_rfl) (fun _ _ _ h => h) (Or.inl ⟨by rfl, ?_⟩) hHeld ?_
      rotate_left
      · (intro w hSw; obtain ⟨⟨g0, g1, g2⟩, h0, h1, h2⟩ := HG.out _ hSw; go_simp <;> with_reducible rfl)
      try simp only [Act.put, List.setIfInBounds_toArray, List.set_cons_zero, List.set_cons_succ]
      refine wpAnyH_take (i := 13) (oi := { dst := some 30, op := _, type := _, pos := _, after := _, guard := _ }) (v := ?_) rfl (by kernel_rfl) (by kernel_rfl) (by kernel_rfl) (fun _ _ _ h => h) (Or.inl ⟨by rfl, ?_⟩) hHeld ?_
      rotate_left
      · (intro w hSw; obtain ⟨⟨g0, g1, g2⟩, h0, h1, h2⟩ := HG.out _ hSw; go_simp <;> with_reducible rfl)
      try simp only [Act.put, List.setIfInBounds_toArray, List.set_cons_zero, List.set_cons_succ]
      refine wpAnyH_take (i := 14) (oi := { dst := some 31, op := _, type := _, pos := _, after := _, guard := _ }) (v := ?_) rfl (by kernel_rfl) (by kernel_rfl) (by kernel_rfl) (fun _ _ _ h => h) (Or.inl ⟨by rfl, ?_⟩) hHeld ?_
      rotate_left
      · (intro w hSw; obtain ⟨⟨g0, g1, g2⟩, h0, h1, h2⟩ := HG.out _ hSw; go_simp <;> with_reducible rfl)
      try simp only [Act.put, List.setIfInBounds_toArray, List.set_cons_zero, List.set_cons_succ]
      refine wpAnyH_take (i := 15) (oi := { dst := some 32, op := _, type := _, pos := _, after := _, guard := _ }) (v := ?_) rfl (by kernel_rfl) (by kernel_rfl) (by kernel_rfl) (fun _ _ _ h => h) (Or.inl ⟨by rfl, ?_⟩) hHeld ?_
      rotate_left
      · (intro w hSw; obtain ⟨⟨g0, g1, g2⟩, h0, h1, h2⟩ := HG.out _ hSw; go_simp <;> with_reducible rfl)
      try simp only [Act.put, List.setIfInBounds_toArray, List.set_cons_zero, List.set_cons_succ]
      refine wpAnyH_take (i := 16) (oi := { dst := some 33, op := _, type := _, pos := _, after := _, guard := _ }) (v := ?_) rfl (by kernel_rfl) (by kernel_rfl) (by kernel_rfl) (fun _ _ _ h => h) (Or.inl ⟨by rfl, ?_⟩) hHeld ?_
      rotate_left
      · (intro w hSw; obtain ⟨⟨g0, g1, g2⟩, h0, h1, h2⟩ := HG.out _ hSw; go_simp <;> with_reducible rfl)
      try simp only [Act.put, List.setIfInBounds_toArray, List.set_cons_zero, List.set_cons_succ]
      refine wpAnyH_take (i := 17) (oi := { dst := some 34, op := _, type := _, pos := _, after := _, guard := _ }) (v := ?_) rfl (by kernel_rfl) (by kernel_rfl) (by kernel_rfl) (fun _ _ _ h => h) (Or.inl ⟨by rfl, ?_⟩) hHeld ?_
      rotate_left
      · (intro w hSw; obtain ⟨⟨g0, g1, g2⟩, h0, h1, h2⟩ := HG.out _ hSw; go_simp <;> with_reducible rfl)
      try simp only [Act.put, List.setIfInBounds_toArray, List.set_cons_zero, List.set_cons_succ]
      refine wpAnyH_take (i := 18) (oi := { dst := some 35, op := _, type := _, pos := _, after := _, guard := _ }) (v := ?_) rfl (by kernel_rfl) (by kernel_rfl) (by kernel_rfl) (fun _ _ _ h => h) (Or.inl ⟨by rfl, ?_⟩) hHeld ?_
      rotate_left
      · (intro w hSw; obtain ⟨⟨g0, g1, g2⟩, h0, h1, h2⟩ := HG.out _ hSw; go_simp <;> with_reducible rfl)
      try simp only [Act.put, List.setIfInBounds_toArray, List.set_cons_zero, List.set_cons_succ]
      refine wpAnyH_take (i := 19) (oi := { dst := some 36, op := _, type := _, pos := _, after := _, guard := _ }) (v := ?_) rfl (by kernel_rfl) (by kernel_rfl) (by kernel_rfl) (fun _ _ _ h => h) (Or.inl ⟨by rfl, ?_⟩) hHeld ?_
      rotate_left
      · (intro w hSw; obtain ⟨⟨g0, g1, g2⟩, h0, h1, h2⟩ := HG.out _ hSw; go_simp <;> with_reducible rfl)
      try simp only [Act.put, List.setIfInBounds_toArray, List.set_cons_zero, List.set_cons_succ]
      refine wpAnyH_take (i := 20) (oi := { dst := some 37, op := _, type := _, pos := _, after := _, guard := _ }) (v := ?_) rfl (by kernel_rfl) (by kernel_rfl) (by kernel_rfl) (fun _ _ _ h => h) (Or.inl ⟨by rfl, ?_⟩) hHeld ?_
      rotate_left
      · (intro w hSw; obtain ⟨⟨g0, g1, g2⟩, h0, h1, h2⟩ := HG.out _ hSw; go_simp <;> with_reducible rfl)
      try simp only [Act.put, List.setIfInBounds_toArray, List.set_cons_zero, List.set_cons_succ]
      refine wpAnyH_take (i := 21) (oi := { dst := some 38, op := _, type := _, pos := _, after := _, guard := _ }) (v := ?_) rfl (by kernel_rfl) (by kernel_rfl) (by kernel_rfl) (fun _ _ _ h => h) (Or.inl ⟨by rfl, ?_⟩) hHeld ?_
      rotate_left
      · (intro w hSw; obtain ⟨⟨g0, g1, g2⟩, h0, h1, h2⟩ := HG.out _ hSw; go_simp <;> with_reducible rfl)
      try simp only [Act.put, List.setIfInBounds_toArray, List.set_cons_zero, List.set_cons_succ]
      refine wpAnyH_ready (rs := [22]) (by kernel_rfl) (by simp) ?_
      refine AllReadyH.cons (o := { dst := some 39, op := _, type := _, pos := _, after := _, guard := _ }) rfl (fun K hK => ?_) AllReadyH.nil
      go_simp
      refine (HSA.out _ hHeld).mono ?_
      rintro e u1 ⟨rfl, hk1⟩
      have hKeep := since_step hHeld hk1
      go_wp2_with fail
      refine hK.out _ _ (by (try dsimp only); exact hKeep) (fun hHeld => ?_)
      clear hK K hKeep
      try simp only [Act.put, List.setIfInBounds_toArray, List.set_cons_zero, List.set_cons_succ]
      refine wpAnyH_take (i := 23) (oi := { dst := some 40, op := _, type := _, pos := _, after := _, guard := _ }) (v := ?_) rfl (by kernel_rfl) (by kernel_rfl) (by kernel_rfl) (fun _ _ _ h => h) (Or.inl ⟨by rfl, ?_⟩) hHeld ?_
      rotate_left
      · (intro w hSw; obtain ⟨⟨g0, g1, g2⟩, h0, h1, h2⟩ := HG.out _ hSw; go_simp <;> with_reducible rfl)
      try simp only [Act.put, List.setIfInBounds_toArray, List.set_cons_zero, List.set_cons_succ]
      refine wpAnyH_take (i := 24) (oi := { dst := some 41, op := _, type := _, pos := _, after := _, guard := _ }) (v := ?_) rfl (by kernel_rfl) (by kernel_rfl) (by kernel_rfl) (fun _ _ _ h => h) (Or.inl ⟨by rfl, ?_⟩) hHeld ?_
      rotate_left
      · (intro w hSw; obtain ⟨⟨g0, g1, g2⟩, h0, h1, h2⟩ := HG.out _ hSw; go_simp <;> with_reducible rfl)
      try simp only [Act.put, List.setIfInBounds_toArray, List.set_cons_zero, List.set_cons_succ]
      refine wpAnyH_done (by kernel_rfl) ?_ _
      have hB2 := hB.trans (hHeld.mono hB.size)
      go_wp2_with fail
      go_roundw
      case rel => exact ⟨k + 1, by omega, by go_num, hB2⟩
      case measure => simp [intOf]; omega
    · obtain rfl : k = l.length := by omega
      go_wp2_with fail
      go_ret
      exact ⟨rfl, hB⟩
theorem moveHR_form {cs : List Hc} {fa fc ta tc : Int} (h : isH cs = false) : moveHR cs fa fc ta tc = (3, []) := if_pos h
theorem moveHR_same {cs : List Hc} {fa fc : Int} (h : isH cs = true) : moveHR cs fa fc fa fc = (24, []) := by
  unfold moveHR; rw [if_neg (by simp [h]), if_pos ⟨rfl, rfl⟩]
theorem moveHR_busy {cs : List Hc} {fa fc ta tc : Int} (h : isH cs = true) (h1 : ¬ (fa = ta ∧ fc = tc)) (h2 : lotsH cs ta tc ≠ []) : moveHR cs fa fc ta tc = (21, []) := by
  unfold moveHR; rw [if_neg (by simp [h]), if_neg h1, if_pos h2]
theorem moveHR_ok {cs : List Hc} {fa fc ta tc : Int} (h : isH cs = true) (h1 : ¬ (fa = ta ∧ fc = tc)) (h2 : lotsH cs ta tc = []) : moveHR cs fa fc ta tc = (0, withH (withH cs ta tc (lotsH cs fa fc)) fa fc []) := by
  unfold moveHR; rw [if_neg (by simp [h]), if_neg h1, if_neg (by simp [h2]), with_swap (isH_sorted h) h1]
set_option maxHeartbeats 8000000 in
set_option maxRecDepth 100000 in
theorem hmove_any (A : Option Addr) (cap : Nat) (l : List Hd) (cs : List Hc) (fa fc ta tc : Int) (w : World) (hl : l.length ≤ 800000) (hcl : ∀ g ∈ cs, g.L.length ≤ 900000) (hs : Sl w A (rc Hd.cells l)) (ht : HdTab w l cs) :
    Calls Try.prog 73 #[.slice A l.length cap, .agg #[.int .i64 fa, .int .i64 fc], .agg #[.int .i64 ta, .int .i64 tc]] w fun e w' => HRes w' e (moveHR cs fa fc ta tc) ∧ Below w.heap.size w w' := by
  have hB0 := since_alloc (since_alloc (Below.refl _ w) (.cells #[.int .i64 fa, .int .i64 fc] 24)) (.cells #[.int .i64 ta, .int .i64 tc] 24)
  have hK1 := (Bk.new w #[.int .i64 fa, .int .i64 fc] 24).alloc (.cells #[.int .i64 ta, .int .i64 tc] 24)
  have hK2 := Bk.new (w.alloc (.cells #[.int .i64 fa, .int .i64 fc] 24)) #[.int .i64 ta, .int .i64 tc] 24
  rw [World.size_alloc] at hK2
  have HIS := Lib.hid (his_any A cap l cs _ (by omega) hcl ((hs.alloc (.cells #[.int .i64 fa, .int .i64 fc] 24)).alloc (.cells #[.int .i64 ta, .int .i64 tc] 24)) (ht.below hB0))
  have HSL : Hid (∀ V, Below w.heap.size w V → Sl V A (rc Hd.cells l)) := Lib.hid fun V hV => hs.below hV
  have HTB : Hid (∀ V, Below w.heap.size w V → HdTab V l cs) := Lib.hid fun V hV => ht.below hV
  have HLT := Lib.hid (fun V h1 h2 => hlots_any A cap l cs ta tc V (by omega) hcl h1 h2)
  have HLO := Lib.hid (fun V h1 h2 => hlots_any A cap l cs fa fc V (by omega) hcl h1 h2)
  have HLC := Lib.hid ht.1
  have hll : l.length ≤ 900000 := by omega
  clear hs ht
  cases hi : isH cs with
  | false =>
      have HR := Lib.hid (moveHR_form (fa := fa) (fc := fc) (ta := ta) (tc := tc) hi)
      rw [hi] at HIS
      clear hi
      go_enter Try.func73, Try.ntmps73
      go_wp2_with fail
      refine HIS.out.mono ?_
      rintro e w1 ⟨rfl, hb⟩
      have hB1 := since_step hB0 hb
      have hK1 := hK1.below hb
      have hK2 := hK2.below hb
      have ck := hK1.2; have k0 := ck 0; have k1 := ck 1; simp at k0 k1; clear ck
      have ck := hK2.2; have k2 := ck 0; have k3 := ck 1; simp at k2 k3; clear ck
      clear hb
      go_wp2_with fail
      go_ret2
      rw [HR.out]
      exact ⟨HRes.nil _ _, hB1⟩
  | true =>
    rw [hi] at HIS
    by_cases hq : fa = ta ∧ fc = tc
    · obtain ⟨rfl, rfl⟩ := hq
      have HR := Lib.hid (moveHR_same (fa := fa) (fc := fc) hi)
      clear hi
      go_enter Try.func73, Try.ntmps73
      go_wp2_with fail
      refine HIS.out.mono ?_
      rintro e w1 ⟨rfl, hb⟩
      have hB1 := since_step hB0 hb
      have hK1 := hK1.below hb
      have hK2 := hK2.below hb
      have ck := hK1.2; have k0 := ck 0; have k1 := ck 1; simp at k0 k1; clear ck
      have ck := hK2.2; have k2 := ck 0; have k3 := ck 1; simp at k2 k3; clear ck
      clear hb
      go_wp2_with fail
      go_ret2
      rw [HR.out]
      exact ⟨HRes.nil _ _, hB1⟩
    have hqb : (fa == ta && fc == tc) = false := by
      rw [← Bool.not_eq_true]; simpa using hq
    by_cases hz : lotsH cs ta tc = []
    rotate_left
    · have HR := Lib.hid (moveHR_busy hi hq hz)
      have hpos : 0 < (lotsH cs ta tc).length := List.length_pos_iff.2 hz
      have hposi : (0 : Int) < ((lotsH cs ta tc).length : Int) := by omega
      generalize lotsH cs ta tc = L0 at *
      clear hi
      go_enter Try.func73, Try.ntmps73
      go_wp2_with fail
      refine HIS.out.mono ?_
      rintro e w1 ⟨rfl, hb⟩
      have hB1 := since_step hB0 hb
      have hK1 := hK1.below hb
      have hK2 := hK2.below hb
      have ck := hK1.2; have k0 := ck 0; have k1 := ck 1; simp at k0 k1; clear ck
      have ck := hK2.2; have k2 := ck 0; have k3 := ck 1; simp at k2 k3; clear ck
      clear hb
      rcases Classical.em (fa = ta) with h1 | h1
      · subst h1
        have h2b : (fc == tc) = false := by simpa using hq
        clear hq hqb
        go_wp2_with fail
        refine (HLT.out _ (HSL.out _ hB1) (HTB.out _ hB1)).mono ?_
        rintro e w2 ⟨⟨A1, c1, rfl, ho1⟩, hb⟩
        have hB2 := since_step hB1 hb
        go_wp2_with fail
        go_ret2
        rw [HR.out]
        exact ⟨HRes.nil _ _, hB2⟩
      · have h1b : (fa == ta) = false := by simpa using h1
        clear hq hqb h1
        go_wp2_with fail
        refine (HLT.out _ (HSL.out _ hB1) (HTB.out _ hB1)).mono ?_
        rintro e w2 ⟨⟨A1, c1, rfl, ho1⟩, hb⟩
        have hB2 := since_step hB1 hb
        go_wp2_with fail
        go_ret2
        rw [HR.out]
        exact ⟨HRes.nil _ _, hB2⟩
    · have HR := Lib.hid (moveHR_ok hi hq hz)
      rw [hz] at HLT
      have hLl := lotsH_len hcl fa fc
      have hso := isH_sorted hi
      have hwi := with_is hi (lots_is hi fa fc) ta tc
      have hwl : (withH cs ta tc (lotsH cs fa fc)).length ≤ 900000 := by have := with_len (cs := cs) ta tc (lotsH cs fa fc); have := HLC.out; omega
      have hwc : ∀ g ∈ withH cs ta tc (lotsH cs fa fc), g.L.length ≤ 900000 := by
        intro g hg
        rcases (mem_with hso ta tc _ g).1 hg with ⟨_, rfl⟩ | ⟨h, _⟩
        · exact hLl
        · exact hcl g h
      have HSE := Lib.hid (fun A1 c1 V h1 h2 h3 => hset_any A cap l cs ta tc A1 c1 (lotsH cs fa fc) V hll hcl hLl h1 h2 h3)
      rw [setHR_ok hi (lots_is hi fa fc)] at HSE
      have HSF := Lib.hid (fun A2 c2 l2 V hl2 h1 h2 => hset_any A2 c2 l2 (withH cs ta tc (lotsH cs fa fc)) fa fc none 0 [] V hl2 hwc (by simp) h1 h2 Sl.nil)
      rw [setHR_ok hwi isLs_nil] at HSF
      have HWL := Lib.hid hwl
      generalize withH (withH cs ta tc (lotsH cs fa fc)) fa fc [] = R2 at *
      generalize withH cs ta tc (lotsH cs fa fc) = R1 at *
      generalize lotsH cs fa fc = L0 at *
      unfold HRes at HSE HSF
      simp only [List.length_nil] at HSE HSF HLT
      clear hi hz hwi hwl hwc hLl hso
      rcases Classical.em (fa = ta) with h1 | h1
      · subst h1
        have h2b : (fc == tc) = false := by simpa using hq
        clear hq hqb
        go_enter Try.func73, Try.ntmps73
        go_wp2_with fail
        refine HIS.out.mono ?_
        rintro e w1 ⟨rfl, hb⟩
        have hB1 := since_step hB0 hb
        have hK1 := hK1.below hb
        have hK2 := hK2.below hb
        have ck := hK1.2; have k0 := ck 0; have k1 := ck 1; simp at k0 k1; clear ck
        have ck := hK2.2; have k2 := ck 0; have k3 := ck 1; simp at k2 k3; clear ck
        clear hb
        go_wp2_with fail
        refine (HLT.out _ (HSL.out _ hB1) (HTB.out _ hB1)).mono ?_
        rintro e w2 ⟨⟨A0, c0, rfl, ho0⟩, hb⟩
        have hB2 := since_step hB1 hb
        have hK1 := hK1.below hb
        have hK2 := hK2.below hb
        have HK : Hid (∀ V, Below w2.heap.size w2 V → Bk V w.heap.size #[.int .i64 fa, .int .i64 fc] ∧ Bk V (w.heap.size + 1) #[.int .i64 fa, .int .i64 tc]) := Lib.hid fun V hV => ⟨hK1.below hV, hK2.below hV⟩
        clear hb k0 k1 k2 k3 hK1 hK2 ho0
        go_wp2_with fail
        refine wp_region_held_drew (S := (fun V => Below w.heap.size w V ∧ Below w2.heap.size w2 V)) (by kernel_rfl) (by exact ⟨hB2.drew, (Below.refl _ _).drew⟩) (fun hHeld => ?_)
        refine wpAnyH_take (i := 0) (oi := { dst := some 25, op := _, type := _, pos := _, after := _, guard := _ }) (v := ?_) rfl (by kernel_rfl) (by kernel_rfl) (by kernel_rfl) (fun _ _ _ h => h) (Or.inl ⟨by rfl, ?_⟩) hHeld ?_
        rotate_left
        · (intro w hSw; obtain ⟨K1, K2⟩ := HK.out _ (hSw).2; have ck := K1.2; have k0 := ck 0; have k1 := ck 1; simp at k0 k1; clear ck; have cq := K2.2; have k2 := cq 0; have k3 := cq 1; simp at k2 k3; clear cq K1 K2; go_simp <;> with_reducible rfl)
        try simp only [Act.put, List.setIfInBounds_toArray, List.set_cons_zero, List.set_cons_succ]
        refine wpAnyH_take (i := 1) (oi := { dst := some 26, op := _, type := _, pos := _, after := _, guard := _ }) (v := ?_) rfl (by kernel_rfl) (by kernel_rfl) (by kernel_rfl) (fun _ _ _ h => h) (Or.inl ⟨by rfl, ?_⟩) hHeld ?_
        rotate_left
        · (intro w hSw; obtain ⟨K1, K2⟩ := HK.out _ (hSw).2; have ck := K1.2; have k0 := ck 0; have k1 := ck 1; simp at k0 k1; clear ck; have cq := K2.2; have k2 := cq 0; have k3 := cq 1; simp at k2 k3; clear cq K1 K2; go_simp <;> with_reducible rfl)
        try simp only [Act.put, List.setIfInBounds_toArray, List.set_cons_zero, List.set_cons_succ]
        refine wpAnyH_take (i := 2) (oi := { dst := some 27, op := _, type := _, pos := _, after := _, guard := _ }) (v := ?_) rfl (by kernel_rfl) (by kernel_rfl) (by kernel_rfl) (fun _ _ _ h => h) (Or.inl ⟨by rfl, ?_⟩) hHeld ?_
        rotate_left
        · (intro w hSw; obtain ⟨K1, K2⟩ := HK.out _ (hSw).2; have ck := K1.2; have k0 := ck 0; have k1 := ck 1; simp at k0 k1; clear ck; have cq := K2.2; have k2 := cq 0; have k3 := cq 1; simp at k2 k3; clear cq K1 K2; go_simp <;> with_reducible rfl)
        try simp only [Act.put, List.setIfInBounds_toArray, List.set_cons_zero, List.set_cons_succ]
        refine wpAnyH_take (i := 3) (oi := { dst := some 28, op := _, type := _, pos := _, after := _, guard := _ }) (v := ?_) rfl (by kernel_rfl) (by kernel_rfl) (by kernel_rfl) (fun _ _ _ h => h) (Or.inl ⟨by rfl, ?_⟩) hHeld ?_
        rotate_left
        · (intro w hSw; obtain ⟨K1, K2⟩ := HK.out _ (hSw).2; have ck := K1.2; have k0 := ck 0; have k1 := ck 1; simp at k0 k1; clear ck; have cq := K2.2; have k2 := cq 0; have k3 := cq 1; simp at k2 k3; clear cq K1 K2; go_simp <;> with_reducible rfl)
        try simp only [Act.put, List.setIfInBounds_toArray, List.set_cons_zero, List.set_cons_succ]
        refine wpAnyH_ready (rs := [4]) (by kernel_rfl) (by simp) ?_
        refine AllReadyH.cons (o := { dst := some 29, op := _, type := _, pos := _, after := _, guard := _ }) rfl (fun K hK => ?_) AllReadyH.nil
        go_simp
        refine (HLO.out _ (HSL.out _ hHeld.1) (HTB.out _ hHeld.1)).mono ?_
        rintro e u1 ⟨⟨A1, c1, rfl, ho1⟩, hk1⟩
        have hKeep := And.intro (since_step hHeld.1 hk1) (since_step hHeld.2 hk1)
        have hs1 := Sl.of_own ho1
        clear ho1
        go_wp2_with fail
        refine hK.out _ _ (by (try dsimp only); exact hKeep) (fun hHeld => ?_)
        clear hK K hKeep
        try simp only [Act.put, List.setIfInBounds_toArray, List.set_cons_zero, List.set_cons_succ]
        refine wpAnyH_ready (rs := [5]) (by kernel_rfl) (by simp) ?_
        refine AllReadyH.cons (o := { dst := some 30, op := _, type := _, pos := _, after := _, guard := _ }) rfl (fun K hK => ?_) AllReadyH.nil
        go_simp
        refine (HSE.out A1 c1 _ (HSL.out _ hHeld.1) (HTB.out _ hHeld.1) hs1).mono ?_
        rintro e u2 ⟨⟨l2, A2, c2, rfl, hs2, ht2, hc2⟩, hk2⟩
        have hKeep := And.intro (since_step hHeld.1 hk2) (since_step hHeld.2 hk2)
        have HQQ := Lib.hid (And.intro hs2 (And.intro ht2 hc2))
        clear hs2 ht2 hc2
        go_wp2_with fail
        refine hK.out _ _ (by (try dsimp only); exact hKeep) (fun hHeld => ?_)
        clear hK K hKeep
        try simp only [Act.put, List.setIfInBounds_toArray, List.set_cons_zero, List.set_cons_succ]
        refine wpAnyH_take (i := 6) (oi := { dst := some 24, op := _, type := _, pos := _, after := _, guard := _ }) (v := ?_) rfl (by kernel_rfl) (by kernel_rfl) (by kernel_rfl) (fun _ _ _ h => h) (Or.inl ⟨by rfl, ?_⟩) hHeld ?_
        rotate_left
        · (intro w hSw; obtain ⟨K1, K2⟩ := HK.out _ (hSw).2; have ck := K1.2; have k0 := ck 0; have k1 := ck 1; simp at k0 k1; clear ck; have cq := K2.2; have k2 := cq 0; have k3 := cq 1; simp at k2 k3; clear cq K1 K2; go_simp <;> with_reducible rfl)
        try simp only [Act.put, List.setIfInBounds_toArray, List.set_cons_zero, List.set_cons_succ]
        refine wpAnyH_take (i := 7) (oi := { dst := some 31, op := _, type := _, pos := _, after := _, guard := _ }) (v := ?_) rfl (by kernel_rfl) (by kernel_rfl) (by kernel_rfl) (fun _ _ _ h => h) (Or.inl ⟨by rfl, ?_⟩) hHeld ?_
        rotate_left
        · (intro w hSw; obtain ⟨K1, K2⟩ := HK.out _ (hSw).2; have ck := K1.2; have k0 := ck 0; have k1 := ck 1; simp at k0 k1; clear ck; have cq := K2.2; have k2 := cq 0; have k3 := cq 1; simp at k2 k3; clear cq K1 K2; go_simp <;> with_reducible rfl)
        try simp only [Act.put, List.setIfInBounds_toArray, List.set_cons_zero, List.set_cons_succ]
        refine wpAnyH_take (i := 8) (oi := { dst := some 32, op := _, type := _, pos := _, after := _, guard := _ }) (v := ?_) rfl (by kernel_rfl) (by kernel_rfl) (by kernel_rfl) (fun _ _ _ h => h) (Or.inl ⟨by rfl, ?_⟩) hHeld ?_
        rotate_left
        · (intro w hSw; obtain ⟨K1, K2⟩ := HK.out _ (hSw).2; have ck := K1.2; have k0 := ck 0; have k1 := ck 1; simp at k0 k1; clear ck; have cq := K2.2; have k2 := cq 0; have k3 := cq 1; simp at k2 k3; clear cq K1 K2; go_simp <;> with_reducible rfl)
        try simp only [Act.put, List.setIfInBounds_toArray, List.set_cons_zero, List.set_cons_succ]
        refine wpAnyH_take (i := 9) (oi := { dst := some 8, op := _, type := _, pos := _, after := _, guard := _ }) (v := ?_) rfl (by kernel_rfl) (by kernel_rfl) (by kernel_rfl) (fun _ _ _ h => h) (Or.inl ⟨by rfl, ?_⟩) hHeld ?_
        rotate_left
        · (intro w hSw; obtain ⟨K1, K2⟩ := HK.out _ (hSw).2; have ck := K1.2; have k0 := ck 0; have k1 := ck 1; simp at k0 k1; clear ck; have cq := K2.2; have k2 := cq 0; have k3 := cq 1; simp at k2 k3; clear cq K1 K2; go_simp <;> with_reducible rfl)
        try simp only [Act.put, List.setIfInBounds_toArray, List.set_cons_zero, List.set_cons_succ]
        refine wpAnyH_take (i := 10) (oi := { dst := some 9, op := _, type := _, pos := _, after := _, guard := _ }) (v := ?_) rfl (by kernel_rfl) (by kernel_rfl) (by kernel_rfl) (fun _ _ _ h => h) (Or.inl ⟨by rfl, ?_⟩) hHeld ?_
        rotate_left
        · (intro w hSw; obtain ⟨K1, K2⟩ := HK.out _ (hSw).2; have ck := K1.2; have k0 := ck 0; have k1 := ck 1; simp at k0 k1; clear ck; have cq := K2.2; have k2 := cq 0; have k3 := cq 1; simp at k2 k3; clear cq K1 K2; go_simp <;> with_reducible rfl)
        try simp only [Act.put, List.setIfInBounds_toArray, List.set_cons_zero, List.set_cons_succ]
        refine wpAnyH_done (by kernel_rfl) ?_ _
        have hBz := hHeld.1
        obtain ⟨hs2, ht2, hc2⟩ := HQQ.out
        have ck := (HK.out _ hHeld.2).1.2
        have k0 := ck 0
        have k1 := ck 1
        simp at k0 k1
        clear ck
        have hl2 : l2.length ≤ 900000 := by have := ht2.1; have := HWL.out; omega
        have HS2 := Lib.hid (HSF.out A2 c2 l2 _ hl2 hs2 ht2)
        go_wp2_with fail
        refine HS2.out.mono ?_
        rintro e u3 ⟨⟨l3, A3, c3, rfl, hs3, ht3, hc3⟩, hk3⟩
        have hBz := since_step hBz hk3
        go_wp2_with fail
        go_ret2
        rw [HR.out]
        exact ⟨⟨l3, A3, c3, rfl, hs3, ht3, hc3⟩, hBz⟩
      · have h1b : (fa == ta) = false := by simpa using h1
        clear hq hqb h1
        go_enter Try.func73, Try.ntmps73
        go_wp2_with fail
        refine HIS.out.mono ?_
        rintro e w1 ⟨rfl, hb⟩
        have hB1 := since_step hB0 hb
        have hK1 := hK1.below hb
        have hK2 := hK2.below hb
        have ck := hK1.2; have k0 := ck 0; have k1 := ck 1; simp at k0 k1; clear ck
        have ck := hK2.2; have k2 := ck 0; have k3 := ck 1; simp at k2 k3; clear ck
        clear hb
        go_wp2_with fail
        refine (HLT.out _ (HSL.out _ hB1) (HTB.out _ hB1)).mono ?_
        rintro e w2 ⟨⟨A0, c0, rfl, ho0⟩, hb⟩
        have hB2 := since_step hB1 hb
        have hK1 := hK1.below hb
        have hK2 := hK2.below hb
        have HK : Hid (∀ V, Below w2.heap.size w2 V → Bk V w.heap.size #[.int .i64 fa, .int .i64 fc] ∧ Bk V (w.heap.size + 1) #[.int .i64 ta, .int .i64 tc]) := Lib.hid fun V hV => ⟨hK1.below hV, hK2.below hV⟩
        clear hb k0 k1 k2 k3 hK1 hK2 ho0
        go_wp2_with fail
        refine wp_region_held_drew (S := (fun V => Below w.heap.size w V ∧ Below w2.heap.size w2 V)) (by kernel_rfl) (by exact ⟨hB2.drew, (Below.refl _ _).drew⟩) (fun hHeld => ?_)
        refine wpAnyH_take (i := 0) (oi := { dst := some 25, op := _, type := _, pos := _, after := _, guard := _ }) (v := ?_) rfl (by kernel_rfl) (by kernel_rfl) (by kernel_rfl) (fun _ _ _ h => h) (Or.inl ⟨by rfl, ?_⟩) hHeld ?_
        rotate_left
        · (intro w hSw; obtain ⟨K1, K2⟩ := HK.out _ (hSw).2; have ck := K1.2; have k0 := ck 0; have k1 := ck 1; simp at k0 k1; clear ck; have cq := K2.2; have k2 := cq 0; have k3 := cq 1; simp at k2 k3; clear cq K1 K2; go_simp <;> with_reducible rfl)
        try simp only [Act.put, List.setIfInBounds_toArray, List.set_cons_zero, List.set_cons_succ]
        refine wpAnyH_take (i := 1) (oi := { dst := some 26, op := _, type := _, pos := _, after := _, guard := _ }) (v := ?_) rfl (by kernel_rfl) (by kernel_rfl) (by kernel_rfl) (fun _ _ _ h => h) (Or.inl ⟨by rfl, ?_⟩) hHeld ?_
        rotate_left
        · (intro w hSw; obtain ⟨K1, K2⟩ := HK.out _ (hSw).2; have ck := K1.2; have k0 := ck 0; have k1 := ck 1; simp at k0 k1; clear ck; have cq := K2.2; have k2 := cq 0; have k3 := cq 1; simp at k2 k3; clear cq K1 K2; go_simp <;> with_reducible rfl)
        try simp only [Act.put, List.setIfInBounds_toArray, List.set_cons_zero, List.set_cons_succ]
        refine wpAnyH_take (i := 2) (oi := { dst := some 27, op := _, type := _, pos := _, after := _, guard := _ }) (v := ?_) rfl (by kernel_rfl) (by kernel_rfl) (by kernel_rfl) (fun _ _ _ h => h) (Or.inl ⟨by rfl, ?_⟩) hHeld ?_
        rotate_left
        · (intro w hSw; obtain ⟨K1, K2⟩ := HK.out _ (hSw).2; have ck := K1.2; have k0 := ck 0; have k1 := ck 1; simp at k0 k1; clear ck; have cq := K2.2; have k2 := cq 0; have k3 := cq 1; simp at k2 k3; clear cq K1 K2; go_simp <;> with_reducible rfl)
        try simp only [Act.put, List.setIfInBounds_toArray, List.set_cons_zero, List.set_cons_succ]
        refine wpAnyH_take (i := 3) (oi := { dst := some 28, op := _, type := _, pos := _, after := _, guard := _ }) (v := ?_) rfl (by kernel_rfl) (by kernel_rfl) (by kernel_rfl) (fun _ _ _ h => h) (Or.inl ⟨by rfl, ?_⟩) hHeld ?_
        rotate_left
        · (intro w hSw; obtain ⟨K1, K2⟩ := HK.out _ (hSw).2; have ck := K1.2; have k0 := ck 0; have k1 := ck 1; simp at k0 k1; clear ck; have cq := K2.2; have k2 := cq 0; have k3 := cq 1; simp at k2 k3; clear cq K1 K2; go_simp <;> with_reducible rfl)
        try simp only [Act.put, List.setIfInBounds_toArray, List.set_cons_zero, List.set_cons_succ]
        refine wpAnyH_ready (rs := [4]) (by kernel_rfl) (by simp) ?_
        refine AllReadyH.cons (o := { dst := some 29, op := _, type := _, pos := _, after := _, guard := _ }) rfl (fun K hK => ?_) AllReadyH.nil
        go_simp
        refine (HLO.out _ (HSL.out _ hHeld.1) (HTB.out _ hHeld.1)).mono ?_
        rintro e u1 ⟨⟨A1, c1, rfl, ho1⟩, hk1⟩
        have hKeep := And.intro (since_step hHeld.1 hk1) (since_step hHeld.2 hk1)
        have hs1 := Sl.of_own ho1
        clear ho1
        go_wp2_with fail
        refine hK.out _ _ (by (try dsimp only); exact hKeep) (fun hHeld => ?_)
        clear hK K hKeep
        try simp only [Act.put, List.setIfInBounds_toArray, List.set_cons_zero, List.set_cons_succ]
        refine wpAnyH_ready (rs := [5]) (by kernel_rfl) (by simp) ?_
        refine AllReadyH.cons (o := { dst := some 30, op := _, type := _, pos := _, after := _, guard := _ }) rfl (fun K hK => ?_) AllReadyH.nil
        go_simp
        refine (HSE.out A1 c1 _ (HSL.out _ hHeld.1) (HTB.out _ hHeld.1) hs1).mono ?_
        rintro e u2 ⟨⟨l2, A2, c2, rfl, hs2, ht2, hc2⟩, hk2⟩
        have hKeep := And.intro (since_step hHeld.1 hk2) (since_step hHeld.2 hk2)
        have HQQ := Lib.hid (And.intro hs2 (And.intro ht2 hc2))
        clear hs2 ht2 hc2
        go_wp2_with fail
        refine hK.out _ _ (by (try dsimp only); exact hKeep) (fun hHeld => ?_)
        clear hK K hKeep
        try simp only [Act.put, List.setIfInBounds_toArray, List.set_cons_zero, List.set_cons_succ]
        refine wpAnyH_take (i := 6) (oi := { dst := some 24, op := _, type := _, pos := _, after := _, guard := _ }) (v := ?_) rfl (by kernel_rfl) (by kernel_rfl) (by kernel_rfl) (fun _ _ _ h => h) (Or.inl ⟨by rfl, ?_⟩) hHeld ?_
        rotate_left
        · (intro w hSw; obtain ⟨K1, K2⟩ := HK.out _ (hSw).2; have ck := K1.2; have k0 := ck 0; have k1 := ck 1; simp at k0 k1; clear ck; have cq := K2.2; have k2 := cq 0; have k3 := cq 1; simp at k2 k3; clear cq K1 K2; go_simp <;> with_reducible rfl)
        try simp only [Act.put, List.setIfInBounds_toArray, List.set_cons_zero, List.set_cons_succ]
        refine wpAnyH_take (i := 7) (oi := { dst := some 31, op := _, type := _, pos := _, after := _, guard := _ }) (v := ?_) rfl (by kernel_rfl) (by kernel_rfl) (by kernel_rfl) (fun _ _ _ h => h) (Or.inl ⟨by rfl, ?_⟩) hHeld ?_
        rotate_left
        · (intro w hSw; obtain ⟨K1, K2⟩ := HK.out _ (hSw).2; have ck := K1.2; have k0 := ck 0; have k1 := ck 1; simp at k0 k1; clear ck; have cq := K2.2; have k2 := cq 0; have k3 := cq 1; simp at k2 k3; clear cq K1 K2; go_simp <;> with_reducible rfl)
        try simp only [Act.put, List.setIfInBounds_toArray, List.set_cons_zero, List.set_cons_succ]
        refine wpAnyH_take (i := 8) (oi := { dst := some 32, op := _, type := _, pos := _, after := _, guard := _ }) (v := ?_) rfl (by kernel_rfl) (by kernel_rfl) (by kernel_rfl) (fun _ _ _ h => h) (Or.inl ⟨by rfl, ?_⟩) hHeld ?_
        rotate_left
        · (intro w hSw; obtain ⟨K1, K2⟩ := HK.out _ (hSw).2; have ck := K1.2; have k0 := ck 0; have k1 := ck 1; simp at k0 k1; clear ck; have cq := K2.2; have k2 := cq 0; have k3 := cq 1; simp at k2 k3; clear cq K1 K2; go_simp <;> with_reducible rfl)
        try simp only [Act.put, List.setIfInBounds_toArray, List.set_cons_zero, List.set_cons_succ]
        refine wpAnyH_take (i := 9) (oi := { dst := some 8, op := _, type := _, pos := _, after := _, guard := _ }) (v := ?_) rfl (by kernel_rfl) (by kernel_rfl) (by kernel_rfl) (fun _ _ _ h => h) (Or.inl ⟨by rfl, ?_⟩) hHeld ?_
        rotate_left
        · (intro w hSw; obtain ⟨K1, K2⟩ := HK.out _ (hSw).2; have ck := K1.2; have k0 := ck 0; have k1 := ck 1; simp at k0 k1; clear ck; have cq := K2.2; have k2 := cq 0; have k3 := cq 1; simp at k2 k3; clear cq K1 K2; go_simp <;> with_reducible rfl)
        try simp only [Act.put, List.setIfInBounds_toArray, List.set_cons_zero, List.set_cons_succ]
        refine wpAnyH_take (i := 10) (oi := { dst := some 9, op := _, type := _, pos := _, after := _, guard := _ }) (v := ?_) rfl (by kernel_rfl) (by kernel_rfl) (by kernel_rfl) (fun _ _ _ h => h) (Or.inl ⟨by rfl, ?_⟩) hHeld ?_
        rotate_left
        · (intro w hSw; obtain ⟨K1, K2⟩ := HK.out _ (hSw).2; have ck := K1.2; have k0 := ck 0; have k1 := ck 1; simp at k0 k1; clear ck; have cq := K2.2; have k2 := cq 0; have k3 := cq 1; simp at k2 k3; clear cq K1 K2; go_simp <;> with_reducible rfl)
        try simp only [Act.put, List.setIfInBounds_toArray, List.set_cons_zero, List.set_cons_succ]
        refine wpAnyH_done (by kernel_rfl) ?_ _
        have hBz := hHeld.1
        obtain ⟨hs2, ht2, hc2⟩ := HQQ.out
        have ck := (HK.out _ hHeld.2).1.2
        have k0 := ck 0
        have k1 := ck 1
        simp at k0 k1
        clear ck
        have hl2 : l2.length ≤ 900000 := by have := ht2.1; have := HWL.out; omega
        have HS2 := Lib.hid (HSF.out A2 c2 l2 _ hl2 hs2 ht2)
        go_wp2_with fail
        refine HS2.out.mono ?_
        rintro e u3 ⟨⟨l3, A3, c3, rfl, hs3, ht3, hc3⟩, hk3⟩
        have hBz := since_step hBz hk3
        go_wp2_with fail
        go_ret2
        rw [HR.out]
        exact ⟨⟨l3, A3, c3, rfl, hs3, ht3, hc3⟩, hBz⟩
end Go.Proofs.Ytldnponbkhgijaa
end
section
namespace Go.Proofs.Ytldnponbkhgijaa
open Go.ChangeShapes Go.WideShapes Go.ChangeAt Go.RowKit
set_option linter.unusedVariables false
set_option linter.unusedSimpArgs false

theorem is_len {cs : List Hc} (h : isH cs = true) : ∀ g ∈ cs, g.L.length ≤ 16 := fun g hg => ((isLs_iff g.L).1 ((okH_iff g).1 (((isH_iff cs).1 h).1 g hg)).2).2.1
theorem chg_facts {how : List Lt → Int × List Lt} {cs R : List Hc} {a c : Int} (h : chgHR how cs a c = (0, R)) : isH cs = true ∧ ∃ L, how (lotsH cs a c) = (0, L) ∧ R = withH cs a c L := by
  unfold chgHR at h
  split at h
  · injection h with h1; cases h1
  · rename_i hi
    split at h
    · rename_i hn
      injection h with h1; exact absurd h1 hn
    · rename_i hn
      injection h with _ e
      refine ⟨by simpa using hi, _, Prod.ext (by simpa using hn) rfl, e.symm⟩
theorem chg_take_is {cs R : List Hc} {a c : Int} {x : Lt} (h : chgHR (fun l => takeLR l x) cs a c = (0, R)) : isH R = true ∧ ((∀ g ∈ cs, ∀ y ∈ g.L, In64 y.qty) → ∀ g ∈ R, ∀ y ∈ g.L, In64 y.qty) ∧ R.length ≤ cs.length + 1 := by
  obtain ⟨hi, L, hL, rfl⟩ := chg_facts h
  exact ⟨with_is hi (take_is hL).1 a c, fun h6 => with_in6 (isH_sorted hi) h6 ((take_is hL).2 (lots_in6 h6 a c)) a c, with_len a c L⟩
theorem putLR_lenH (l : List Lt) (x : Lt) : (putLR l x).2.length ≤ l.length + 1 := by
  unfold putLR
  split
  · simp
  · split
    · simp
    · split
      · simp
      · exact length_putR _ _
theorem takeLR_lenH (l : List Lt) (x : Lt) : (takeLR l x).2.length ≤ l.length + 1 := by
  unfold takeLR
  split
  · simp
  · split
    · simp
    · split
      · exact Nat.le_trans (List.length_filter_le _ _) (Nat.le_succ _)
      · exact length_putR _ _
theorem with_bd {cs : List Hc} (hs : SoH cs) {n : Nat} (h : ∀ g ∈ cs, g.L.length ≤ n) (a c : Int) {L : List Lt} (hL : L.length ≤ n) : ∀ g ∈ withH cs a c L, g.L.length ≤ n := by
  intro g hg
  rcases (mem_with hs a c L g).1 hg with ⟨_, rfl⟩ | ⟨h1, _⟩
  · exact hL
  · exact h g h1
theorem chg_bd {how : List Lt → Int × List Lt} (hh : ∀ l, (how l).2.length ≤ l.length + 1) {cs : List Hc} {n : Nat} (h : ∀ g ∈ cs, g.L.length ≤ n) (a c : Int) : (chgHR how cs a c).2.length ≤ cs.length + 1 ∧ ∀ g ∈ (chgHR how cs a c).2, g.L.length ≤ n + 1 := by
  unfold chgHR
  split
  · exact ⟨by simp, fun g hg => by cases hg⟩
  · rename_i hi
    have hi : isH cs = true := by simpa using hi
    split
    · exact ⟨by simp, fun g hg => by cases hg⟩
    · refine ⟨with_len _ _ _, with_bd (isH_sorted hi) (fun g hg => Nat.le_succ_of_le (h g hg)) a c ?_⟩
      have h1 := hh (lotsH cs a c)
      have h2 := lotsH_len h a c
      omega
theorem set_bd {cs : List Hc} {n : Nat} (h : ∀ g ∈ cs, g.L.length ≤ n) (a c : Int) {L : List Lt} (hL : L.length ≤ n) : (setHR cs a c L).2.length ≤ cs.length + 1 ∧ ∀ g ∈ (setHR cs a c L).2, g.L.length ≤ n := by
  unfold setHR
  split
  · exact ⟨by simp, fun g hg => by cases hg⟩
  · rename_i hi
    have hi : isH cs = true := by
      cases h : isH cs with
      | true => rfl
      | false => exact absurd (.inl h) hi
    exact ⟨with_len _ _ _, with_bd (isH_sorted hi) h a c hL⟩
theorem move_bd {cs : List Hc} {n : Nat} (h : ∀ g ∈ cs, g.L.length ≤ n) (fa fc ta tc : Int) : (moveHR cs fa fc ta tc).2.length ≤ cs.length + 2 ∧ ∀ g ∈ (moveHR cs fa fc ta tc).2, g.L.length ≤ n := by
  unfold moveHR
  split
  · exact ⟨by simp, fun g hg => by cases hg⟩
  · rename_i hi
    have hs := isH_sorted (by simpa using hi)
    split
    · exact ⟨by simp, fun g hg => by cases hg⟩
    · split
      · exact ⟨by simp, fun g hg => by cases hg⟩
      · refine ⟨?_, with_bd (with_sorted hs _ _ _) (with_bd hs h fa fc (by simp)) ta tc (lotsH_len h fa fc)⟩
        have h1 := with_len (cs := cs) fa fc []
        have h2 := with_len (cs := withH cs fa fc []) ta tc (lotsH cs fa fc)
        simp only
        omega
theorem pass_bd {cs : List Hc} {n : Nat} (h : ∀ g ∈ cs, g.L.length ≤ n) (fa fc ta tc : Int) (x : Lt) (tag : Int) : (passHR cs fa fc ta tc x tag).2.length ≤ cs.length + 2 ∧ ∀ g ∈ (passHR cs fa fc ta tc x tag).2, g.L.length ≤ n + 2 := by
  unfold passHR
  split
  · exact ⟨by simp, fun g hg => by cases hg⟩
  · split
    · exact ⟨by simp, fun g hg => by cases hg⟩
    · split
      · exact ⟨by simp, fun g hg => by cases hg⟩
      · obtain ⟨h1, h2⟩ := chg_bd (how := fun l => takeLR l x) (fun l => takeLR_lenH l x) h fa fc
        obtain ⟨h3, h4⟩ := chg_bd (how := fun l => putLR l ⟨x.ast, tag, x.qty⟩) (fun l => putLR_lenH l _) h2 ta tc
        exact ⟨by omega, fun g hg => h4 g hg⟩
theorem passHR_form {cs : List Hc} {fa fc ta tc tag : Int} {x : Lt} (h : isH cs = false) : passHR cs fa fc ta tc x tag = (3, []) := if_pos h
theorem passHR_same {cs : List Hc} {fa fc tag : Int} {x : Lt} (h : isH cs = true) : passHR cs fa fc fa fc x tag = (24, []) := by
  unfold passHR; rw [if_neg (by simp [h]), if_pos ⟨rfl, rfl⟩]
theorem passHR_err {cs R : List Hc} {fa fc ta tc tag n : Int} {x : Lt} (h : isH cs = true) (h1 : ¬ (fa = ta ∧ fc = tc)) (h2 : chgHR (fun l => takeLR l x) cs fa fc = (n, R)) (hn : n ≠ 0) : passHR cs fa fc ta tc x tag = (n, []) := by
  unfold passHR; rw [if_neg (by simp [h]), if_neg h1, h2, if_pos hn]
theorem passHR_ok {cs R : List Hc} {fa fc ta tc tag : Int} {x : Lt} (h : isH cs = true) (h1 : ¬ (fa = ta ∧ fc = tc)) (h2 : chgHR (fun l => takeLR l x) cs fa fc = (0, R)) : passHR cs fa fc ta tc x tag = chgHR (fun l => putLR l ⟨x.ast, tag, x.qty⟩) R ta tc := by
  unfold passHR; rw [if_neg (by simp [h]), if_neg h1, h2, if_neg (by simp)]
end Go.Proofs.Ytldnponbkhgijaa
end
