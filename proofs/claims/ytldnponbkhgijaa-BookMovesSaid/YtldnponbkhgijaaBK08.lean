import Derived.Test.YtldnponbkhgijaaBK02
import Derived.Test.YtldnponbkhgijaaBK07
section
namespace Go.Proofs.Ytldnponbkhgijaa
open Go.ChangeShapes Go.WideShapes Go.ChangeAt Go.RowKit
set_option linter.unusedVariables false
set_option linter.unusedSimpArgs false

set_option maxHeartbeats 8000000 in
set_option maxRecDepth 100000 in
theorem rhsame_self (A : Option Addr) (cap : Nat) (l : List Po) (A2 : Option Addr) (cap2 : Nat) (m : List Po) (cs : List Pc) (w : World) (hl : l.length ≤ 900000) (hcl : ∀ g ∈ cs, g.L.length ≤ 900000) (hs : Sl w A (rc Po.cells l)) (ht : PoTab w l cs) (hs2 : Sl w A2 (rc Po.cells m)) (ht2 : PoTab w m cs) :
    Calls Try.prog 39 #[.slice A l.length cap, .slice A2 m.length cap2] w fun e w' => e = .returned (.bool true) ∧ Below w.heap.size w w' := by
  have hml : m.length = l.length := ht2.1.trans ht.1.symm
  rw [hml]
  have HML := Lib.hid hml
  have HLC := Lib.hid ht.1
  clear hml
  go_enter Try.func39, Try.ntmps39
  go_wp2_with fail
  go_loopw [5] (fun i wr => ∃ k : Nat, k ≤ l.length ∧ i = .int .i64 k ∧ Below w.heap.size w wr) (fun i _ => l.length - (intOf i).toNat)
  case atStart => exact ⟨0, by omega, rfl, Below.refl _ _⟩
  case round =>
    obtain ⟨k, hk, rfl, hB⟩ := hrel
    by_cases hlt : k < l.length
    · have hlc : k < cs.length := HLC.out ▸ hlt
      have hlm : k < m.length := by rw [HML.out]; exact hlt
      obtain ⟨b, o, rfl, hbw, hg⟩ := (hs.below hB).po hlt
      obtain ⟨b2, o2, rfl, hbw2, hg2⟩ := (hs2.below hB).po hlm
      have hlk : (k : Int) < (l.length : Int) := by omega
      have hgk : (0 : Int) ≤ (k : Int) := by omega
      have hks : IntKind.i64.wrap ((k : Int) + 1) = (k : Int) + 1 := IntWalk.i64_in _ (by omega)
      have hI := (ht.below hB).2 k hlt hlc
      have hI2 := (ht2.below hB).2 k hlm hlc
      have hm := hcl _ (List.getElem_mem hlc)
      have HG : Hid (∀ V, Below wr.heap.size wr V → l[k].at V b (o + k * 3) ∧ m[k].at V b2 (o2 + k * 3)) := Lib.hid fun V hV => ⟨Po.at_keep hg fun i => hV.cell (p := ⟨b, i, none⟩) hbw, Po.at_keep hg2 fun i => hV.cell (p := ⟨b2, i, none⟩) hbw2⟩
      clear hg hg2
      generalize l[k] = v at *
      generalize m[k] = u at *
      generalize cs[k] = d at *
      obtain ⟨va, vc, vt, vL, vC⟩ := v
      obtain ⟨ua, uc, ut, uL, uC⟩ := u
      obtain ⟨da, dc, dL⟩ := d
      obtain ⟨i0, i1, i2, i3⟩ := hI
      obtain ⟨k0, k1, k2, k3⟩ := hI2
      simp only at i0 i1 i2 i3 k0 k1 k2 k3 hm
      subst i0; subst i1; subst i2; subst k0; subst k1; subst k2
      unfold Po.at at HG
      simp only at HG
      have HSA : Hid (∀ V, Below wr.heap.size wr V → Calls Try.prog 32 #[.slice vt dL.length vC, .slice ut dL.length uC] V fun e w' => e = .returned (.bool true) ∧ Below V.heap.size V w') := Lib.hid fun V hV => rvsame_any_self vt ut vC uC dL V (by omega) (i3.below hV) (k3.below hV)
      clear i3 k3
      go_wp2_with fail
      refine wp_region_held_drew (S := (fun V => Below wr.heap.size wr V)) (by kernel_rfl) (by exact (Below.refl _ _).drew) (fun hHeld => ?_)
      refine wpAnyH_take (i := 0) (oi := { dst := some 17, op := _, type := _, pos := _, after := _, guard := _ }) (v := ?_) rfl (by kernel_rfl) (by kernel_rfl) (by kernel_rfl) (fun _ _ _ h => h) (Or.inl ⟨by rfl, ?_⟩) hHeld ?_
      rotate_left
      · (intro w hSw; obtain ⟨⟨g0, g1, g2⟩, h0, h1, h2⟩ := HG.out _ hSw; go_simp <;> with_reducible rfl)
      try simp only [Act.put, List.setIfInBounds_toArray, List.set_cons_zero, List.set_cons_succ]
      refine wpAnyH_take (i := 1) (oi := { dst := some 18, op := _, type := _, pos := _, after := _, guard := _ }) (v := ?_) rfl (by kernel_rfl) (by kernel_rfl) (by kernel_rfl) (fun _ _ _ h => h) (Or.inl ⟨by rfl, ?_⟩) hHeld ?_
      rotate_left
      · (intro w hSw; obtain ⟨⟨g0, g1, g2⟩, h0, h1, h2⟩ := HG.out _ hSw; go_simp <;> with_reducible rfl)
      try simp only [Act.put, List.setIfInBounds_toArray, List.set_cons_zero, List.set_cons_succ]
      refine wpAnyH_take (i := 2) (oi := { dst := some 19, op := _, type := _, pos := _, after := _, guard := _ }) (v := ?_) rfl (by kernel_rfl) (by kernel_rfl) (by kernel_rfl) (fun _ _ _ h => h) (Or.inl ⟨by rfl, ?_⟩) hHeld ?_
      rotate_left
      · (intro w hSw; obtain ⟨⟨g0, g1, g2⟩, h0, h1, h2⟩ := HG.out _ hSw; go_simp <;> with_reducible rfl)
      try simp only [Act.put, List.setIfInBounds_toArray, List.set_cons_zero, List.set_cons_succ]
      refine wpAnyH_take (i := 3) (oi := { dst := some 20, op := _, type := _, pos := _, after := _, guard := _ }) (v := ?_) rfl (by kernel_rfl) (by kernel_rfl) (by kernel_rfl) (fun _ _ _ h => h) (Or.inl ⟨by rfl, ?_⟩) hHeld ?_
      rotate_left
      · (intro w hSw; obtain ⟨⟨g0, g1, g2⟩, h0, h1, h2⟩ := HG.out _ hSw; go_simp <;> with_reducible rfl)
      try simp only [Act.put, List.setIfInBounds_toArray, List.set_cons_zero, List.set_cons_succ]
      refine wpAnyH_take (i := 4) (oi := { dst := some 21, op := _, type := _, pos := _, after := _, guard := _ }) (v := ?_) rfl (by kernel_rfl) (by kernel_rfl) (by kernel_rfl) (fun _ _ _ h => h) (Or.inl ⟨by rfl, ?_⟩) hHeld ?_
      rotate_left
      · (intro w hSw; obtain ⟨⟨g0, g1, g2⟩, h0, h1, h2⟩ := HG.out _ hSw; go_simp <;> with_reducible rfl)
      try simp only [Act.put, List.setIfInBounds_toArray, List.set_cons_zero, List.set_cons_succ]
      refine wpAnyH_take (i := 5) (oi := { dst := some 22, op := _, type := _, pos := _, after := _, guard := _ }) (v := ?_) rfl (by kernel_rfl) (by kernel_rfl) (by kernel_rfl) (fun _ _ _ h => h) (Or.inl ⟨by rfl, ?_⟩) hHeld ?_
      rotate_left
      · (intro w hSw; obtain ⟨⟨g0, g1, g2⟩, h0, h1, h2⟩ := HG.out _ hSw; go_simp <;> with_reducible rfl)
      try simp only [Act.put, List.setIfInBounds_toArray, List.set_cons_zero, List.set_cons_succ]
      refine wpAnyH_take (i := 6) (oi := { dst := some 23, op := _, type := _, pos := _, after := _, guard := _ }) (v := ?_) rfl (by kernel_rfl) (by kernel_rfl) (by kernel_rfl) (fun _ _ _ h => h) (Or.inl ⟨by rfl, ?_⟩) hHeld ?_
      rotate_left
      · (intro w hSw; obtain ⟨⟨g0, g1, g2⟩, h0, h1, h2⟩ := HG.out _ hSw; go_simp <;> with_reducible rfl)
      try simp only [Act.put, List.setIfInBounds_toArray, List.set_cons_zero, List.set_cons_succ]
      refine wpAnyH_take (i := 7) (oi := { dst := some 24, op := _, type := _, pos := _, after := _, guard := _ }) (v := ?_) rfl (by kernel_rfl) (by kernel_rfl) (by kernel_rfl) (fun _ _ _ h => h) (Or.inl ⟨by rfl, ?_⟩) hHeld ?_
      rotate_left
      · (intro w hSw; obtain ⟨⟨g0, g1, g2⟩, h0, h1, h2⟩ := HG.out _ hSw; go_simp <;> with_reducible rfl)
      try simp only [Act.put, List.setIfInBounds_toArray, List.set_cons_zero, List.set_cons_succ]
      refine wpAnyH_take (i := 8) (oi := { dst := some 25, op := _, type := _, pos := _, after := _, guard := _ }) (v := ?_) rfl (by kernel_rfl) (by kernel_rfl) (by kernel_rfl) (fun _ _ _ h => h) (Or.inl ⟨by rfl, ?_⟩) hHeld ?_
      rotate_left
      · (intro w hSw; obtain ⟨⟨g0, g1, g2⟩, h0, h1, h2⟩ := HG.out _ hSw; go_simp <;> with_reducible rfl)
      try simp only [Act.put, List.setIfInBounds_toArray, List.set_cons_zero, List.set_cons_succ]
      refine wpAnyH_take (i := 9) (oi := { dst := some 26, op := _, type := _, pos := _, after := _, guard := _ }) (v := ?_) rfl (by kernel_rfl) (by kernel_rfl) (by kernel_rfl) (fun _ _ _ h => h) (Or.inl ⟨by rfl, ?_⟩) hHeld ?_
      rotate_left
      · (intro w hSw; obtain ⟨⟨g0, g1, g2⟩, h0, h1, h2⟩ := HG.out _ hSw; go_simp <;> with_reducible rfl)
      try simp only [Act.put, List.setIfInBounds_toArray, List.set_cons_zero, List.set_cons_succ]
      refine wpAnyH_take (i := 10) (oi := { dst := some 27, op := _, type := _, pos := _, after := _, guard := _ }) (v := ?_) rfl (by kernel_rfl) (by kernel_rfl) (by kernel_rfl) (fun _ _ _ h => h) (Or.inl ⟨by rfl, ?_⟩) hHeld ?_
      rotate_left
      · (intro w hSw; obtain ⟨⟨g0, g1, g2⟩, h0, h1, h2⟩ := HG.out _ hSw; go_simp <;> with_reducible rfl)
      try simp only [Act.put, List.setIfInBounds_toArray, List.set_cons_zero, List.set_cons_succ]
      refine wpAnyH_take (i := 11) (oi := { dst := some 28, op := _, type := _, pos := _, after := _, guard := _ }) (v := ?_) rfl (by kernel_rfl) (by kernel_rfl) (by kernel_rfl) (fun _ _ _ h => h) (Or.inl ⟨by rfl, ?_⟩) hHeld ?_
      rotate_left
      · (intro w hSw; obtain ⟨⟨g0, g1, g2⟩, h0, h1, h2⟩ := HG.out _ hSw; go_simp <;> with_reducible rfl)
      try simp only [Act.put, List.setIfInBounds_toArray, List.set_cons_zero, List.set_cons_succ]
      refine wpAnyH_take (i := 12) (oi := { dst := some 29, op := _, type := _, pos := _, after := _, guard := _ }) (v := ?_) rfl (by kernel_rfl) (by kernel_rfl) (by kernel_rfl) (fun _ _ _ h => h) (Or.inl ⟨by rfl, ?_⟩) hHeld ?_
      rotate_left
      · (intro w hSw; obtain ⟨⟨g0, g1, g2⟩, h0, h1, h2⟩ := HG.out _ hSw; go_simp <;> with_reducible rfl)
      try simp only [Act.put, List.setIfInBounds_toArray, List.set_cons_zero, List.set_cons_succ]
      refine wpAnyH_take (i := 13) (oi := { dst := some 30, op := _, type := _, pos := _, after := _, guard := _ }) (v := ?_) rfl (by kernel_rfl) (by kernel_rfl) (by kernel_rfl) (fun _ _ _ h => h) (Or.inl ⟨by rfl, ?_⟩) hHeld ?_
      rotate_left
      · (intro w hSw; obtain ⟨⟨g0, g1, g2⟩, h0, h1, h2⟩ := HG.out _ hSw; go_simp <;> with_reducible rfl)
      try simp only [Act.put, List.setIfInBounds_toArray, List.set_cons_zero, List.set_cons_succ]
      refine wpAnyH_take (i := 14) (oi := { dst := some 31, op := _, type := _, pos := _, after := _, guard := _ }) (v := ?_) rfl (by kernel_rfl) (by kernel_rfl) (by kernel_rfl) (fun _ _ _ h => h) (Or.inl ⟨by rfl, ?_⟩) hHeld ?_
      rotate_left
      · (intro w hSw; obtain ⟨⟨g0, g1, g2⟩, h0, h1, h2⟩ := HG.out _ hSw; go_simp <;> with_reducible rfl)
      try simp only [Act.put, List.setIfInBounds_toArray, List.set_cons_zero, List.set_cons_succ]
      refine wpAnyH_take (i := 15) (oi := { dst := some 32, op := _, type := _, pos := _, after := _, guard := _ }) (v := ?_) rfl (by kernel_rfl) (by kernel_rfl) (by kernel_rfl) (fun _ _ _ h => h) (Or.inl ⟨by rfl, ?_⟩) hHeld ?_
      rotate_left
      · (intro w hSw; obtain ⟨⟨g0, g1, g2⟩, h0, h1, h2⟩ := HG.out _ hSw; go_simp <;> with_reducible rfl)
      try simp only [Act.put, List.setIfInBounds_toArray, List.set_cons_zero, List.set_cons_succ]
      refine wpAnyH_take (i := 16) (oi := { dst := some 33, op := _, type := _, pos := _, after := _, guard := _ }) (v := ?_) rfl (by kernel_rfl) (by kernel_rfl) (by kernel_rfl) (fun _ _ _ h => h) (Or.inl ⟨by rfl, ?_⟩) hHeld ?_
      rotate_left
      · (intro w hSw; obtain ⟨⟨g0, g1, g2⟩, h0, h1, h2⟩ := HG.out _ hSw; go_simp <;> with_reducible rfl)
      try simp only [Act.put, List.setIfInBounds_toArray, List.set_cons_zero, List.set_cons_succ]
      refine wpAnyH_take (i := 17) (oi := { dst := some 34, op := _, type := _, pos := _, after := _, guard := _ }) (v := ?_) rfl (by kernel_rfl) (by kernel_rfl) (by kernel_rfl) (fun _ _ _ h => h) (Or.inl ⟨by rfl, ?_⟩) hHeld ?_
      rotate_left
      · (intro w hSw; obtain ⟨⟨g0, g1, g2⟩, h0, h1, h2⟩ := HG.out _ hSw; go_simp <;> with_reducible rfl)
      try simp only [Act.put, List.setIfInBounds_toArray, List.set_cons_zero, List.set_cons_succ]
      refine wpAnyH_take (i := 18) (oi := { dst := some 35, op := _, type := _, pos := _, after := _, guard := _ }) (v := ?_) rfl (by kernel_rfl) (by kernel_rfl) (by kernel_rfl) (fun _ _ _ h => h) (Or.inl ⟨by rfl, ?_⟩) hHeld ?_
      rotate_left
      · (intro w hSw; obtain ⟨⟨g0, g1, g2⟩, h0, h1, h2⟩ := HG.out _ hSw; go_simp <;> with_reducible rfl)
      try simp only [Act.put, List.setIfInBounds_toArray, List.set_cons_zero, List.set_cons_succ]
      refine wpAnyH_take (i := 19) (oi := { dst := some 36, op := _, type := _, pos := _, after := _, guard := _ }) (v := ?_) rfl (by kernel_rfl) (by kernel_rfl) (by kernel_rfl) (fun _ _ _ h => h) (Or.inl ⟨by rfl, ?_⟩) hHeld ?_
      rotate_left
      · (intro w hSw; obtain ⟨⟨g0, g1, g2⟩, h0, h1, h2⟩ := HG.out _ hSw; go_simp <;> with_reducible rfl)
      try simp only [Act.put, List.setIfInBounds_toArray, List.set_cons_zero, List.set_cons_succ]
      refine wpAnyH_take (i := 20) (oi := { dst := some 37, op := _, type := _, pos := _, after := _, guard := _ }) (v := ?_) rfl (by kernel_rfl) (by kernel_rfl) (by kernel_rfl) (fun _ _ _ h => h) (Or.inl ⟨by rfl, ?_⟩) hHeld ?_
      rotate_left
      · (intro w hSw; obtain ⟨⟨g0, g1, g2⟩, h0, h1, h2⟩ := HG.out _ hSw; go_simp <;> with_reducible rfl)
      try simp only [Act.put, List.setIfInBounds_toArray, List.set_cons_zero, List.set_cons_succ]
      refine wpAnyH_take (i := 21) (oi := { dst := some 38, op := _, type := _, pos := _, after := _, guard := _ }) (v := ?_) rfl (by kernel_rfl) (by kernel_rfl) (by kernel_rfl) (fun _ _ _ h => h) (Or.inl ⟨by rfl, ?_⟩) hHeld ?_
      rotate_left
      · (intro w hSw; obtain ⟨⟨g0, g1, g2⟩, h0, h1, h2⟩ := HG.out _ hSw; go_simp <;> with_reducible rfl)
      try simp only [Act.put, List.setIfInBounds_toArray, List.set_cons_zero, List.set_cons_succ]
      refine wpAnyH_ready (rs := [22]) (by kernel_rfl) (by simp) ?_
      refine AllReadyH.cons (o := { dst := some 39, op := _, type := _, pos := _, after := _, guard := _ }) rfl (fun K hK => ?_) AllReadyH.nil
      go_simp
      refine (HSA.out _ hHeld).mono ?_
      rintro e u1 ⟨rfl, hk1⟩
      have hKeep := since_step hHeld hk1
      go_wp2_with fail
      refine hK.out _ _ (by (try dsimp only); exact hKeep) (fun hHeld => ?_)
      clear hK K hKeep
      try simp only [Act.put, List.setIfInBounds_toArray, List.set_cons_zero, List.set_cons_succ]
      refine wpAnyH_take (i := 23) (oi := { dst := some 40, op := _, type := _, pos := _, after := _, guard := _ }) (v := ?_) rfl (by kernel_rfl) (by kernel_rfl) (by kernel_rfl) (fun _ _ _ h => h) (Or.inl ⟨by rfl, ?_⟩) hHeld ?_
      rotate_left
      · (intro w hSw; obtain ⟨⟨g0, g1, g2⟩, h0, h1, h2⟩ := HG.out _ hSw; go_simp <;> with_reducible rfl)
      try simp only [Act.put, List.setIfInBounds_toArray, List.set_cons_zero, List.set_cons_succ]
      refine wpAnyH_take (i := 24) (oi := { dst := some 41, op := _, type := _, pos := _, after := _, guard := _ }) (v := ?_) rfl (by kernel_rfl) (by kernel_rfl) (by kernel_rfl) (fun _ _ _ h => h) (Or.inl ⟨by rfl, ?_⟩) hHeld ?_
      rotate_left
      · (intro w hSw; obtain ⟨⟨g0, g1, g2⟩, h0, h1, h2⟩ := HG.out _ hSw; go_simp <;> with_reducible rfl)
      try simp only [Act.put, List.setIfInBounds_toArray, List.set_cons_zero, List.set_cons_succ]
      refine wpAnyH_done (by kernel_rfl) ?_ _
      have hB2 := hB.trans (hHeld.mono hB.size)
      go_wp2_with fail
      go_roundw
      case rel => exact ⟨k + 1, by omega, by go_num, hB2⟩
      case measure => simp [intOf]; omega
    · obtain rfl : k = l.length := by omega
      go_wp2_with fail
      go_ret
      exact ⟨rfl, hB⟩
theorem rd_ltrowH {w : World} {r : List Value} (h : Rd w (.cat (.int .i64) (.cat (.int .i64) .nil)) r) : ∃ g : Lg, r = g.cells ∧ In64 g.qty := by
  obtain ⟨p, q, rfl, ⟨a, rfl, _⟩, ⟨p2, q2, rfl, ⟨b, rfl, hb⟩, rfl⟩⟩ := h
  exact ⟨⟨a, b⟩, rfl, bd_i64 hb⟩
def InH (w : World) (g : Po) : Prop := ∃ L : List Lg, g.lgL = L.length ∧ L.length ≤ g.lgC ∧ g.lgC ≤ maxLen ∧ Sl w g.lg (rc Lg.cells L) ∧ ∀ y ∈ L, In64 y.qty
theorem rd_hold {w : World} {r : List Value} (h : Rd w (.cat (.cat (.int .i64) (.cat (.int .i64) .nil)) (.cat (.sl (.cat (.int .i64) (.cat (.int .i64) .nil))) .nil)) r) : ∃ g : Po, r = g.cells ∧ InH w g := by
  obtain ⟨p, q, rfl, ⟨p1, q1, rfl, ⟨a, rfl, _⟩, ⟨p2, q2, rfl, ⟨c, rfl, _⟩, rfl⟩⟩, ⟨p3, q3, rfl, h4, rfl⟩⟩ := h
  obtain ⟨A, n, k, rows, rfl, h1, h2, h3, h5, h6⟩ := _root_.id h4
  obtain ⟨L, rfl, _, _, hs, hq⟩ := rd_rowsP (f := Lg.cells) (fun r => rd_ltrowH) h4
  exact ⟨⟨a, c, A, L.length, k⟩, rfl, L, rfl, h1, h2, hs, hq⟩
def GoodH (cs : List Pc) : Prop := (∀ g ∈ cs, g.L.length ≤ 12) ∧ ∀ g ∈ cs, ∀ y ∈ g.L, In64 y.qty
def FewH (w' : World) (e : Ending) : Prop :=
  ∃ (R : List Po) (cs : List Pc) (A' : Option Addr) (c' : Nat), e = .returned (.slice A' R.length c') ∧ Sl w' A' (rc Po.cells R) ∧ PoTab w' R cs ∧ CapH A' R.length c' ∧ R.length ≤ 12 ∧ GoodH cs
def FRel19 (n : Nat) (w : World) (out i : Value) (wr : World) : Prop :=
  ∃ (k : Nat) (R : List Po) (cs : List Pc) (A' : Option Addr) (c' : Nat), k ≤ n ∧ k ≤ 12 ∧ i = .int .i64 k ∧ out = .slice A' R.length c' ∧ R.length ≤ k ∧ wr.ownsRow w.heap.size 133 3 (.slice A' R.length c') R.length (rc Po.cells R) ∧ PoTab w R cs ∧ GoodH cs ∧ Below w.heap.size w wr
set_option maxHeartbeats 4000000 in
set_option maxRecDepth 100000 in
theorem few19_any (A : Option Addr) (cap : Nat) (l : List Po) (w : World) (hs : Sl w A (rc Po.cells l)) (hd : ∀ g ∈ l, InH w g) :
    Calls Try.prog 28 #[.slice A l.length cap] w fun e w' => FewH w' e ∧ Below w.heap.size w w' := by
  go_enter Try.func28, Try.ntmps28
  go_wp2_with fail
  go_loopw [3, 4] (fun out i wr => FRel19 l.length w out i wr) (fun _ i _ => l.length - (intOf i).toNat)
  case atStart => exact ⟨0, [], [], none, 0, by omega, by omega, rfl, rfl, by simp, own_nil _ _ _, PoTab.nil _, ⟨(fun g h => by cases h), (fun g h => by cases h)⟩, Below.refl _ _⟩
  case round =>
    obtain ⟨k, R, cs, A', c', hk, hk10, rfl, rfl, hRk, hown, htb, hgd, hB⟩ := hrel
    by_cases hgo : k < l.length ∧ k < 12
    · obtain ⟨hlt, hlt10⟩ := hgo
      obtain ⟨b, o, rfl, hbw, hg⟩ := hs.po hlt
      obtain ⟨L, e1, e2, e3, e4, e5⟩ := hd l[k] (List.getElem_mem hlt)
      have hlk : (k : Int) < (l.length : Int) := by omega
      have hlk10 : (k : Int) < 12 := by omega
      have hge : (0 : Int) ≤ (k : Int) := by omega
      have HG : Hid (∀ V, Below w.heap.size w V → l[k].at V b (o + k * 3)) := Lib.hid fun V hV => Po.at_keep hg fun i => hV.cell (p := ⟨b, i, none⟩) hbw
      clear hg
      generalize l[k] = v at *
      obtain ⟨va, vc, vt, vL, vC⟩ := v
      simp only at e1 e2 e3 e4
      subst e1
      unfold Po.at at HG
      simp only at HG
      have HFW := Lib.hid (fun V h => few11_any vt vC L V e2 e3 h)
      have HSG : Hid (∀ V, Below w.heap.size w V → Sl V vt (rc Lg.cells L)) := Lib.hid fun V hV => e4.below hV
      have hT : Sl w vt (rc Lg.cells (L.take 12)) := by
        have h := e4.take (12 * 2)
        rw [rc_take Lg.len] at h
        exact h
      have ht20 : (L.take 12).length ≤ 12 := by simp; omega
      have hq20 : ∀ y ∈ L.take 12, In64 y.qty := fun y hy => e5 y (List.mem_of_mem_take hy)
      have HTN : Hid (PoTab w (R ++ [⟨va, vc, vt, (L.take 12).length, vC⟩]) (cs ++ [⟨va, vc, L.take 12⟩])) := Lib.hid (htb.app ⟨rfl, rfl, rfl, hT⟩)
      have HGN : Hid (GoodH (cs ++ [⟨va, vc, L.take 12⟩])) := Lib.hid ⟨fun g hg => by
        rcases List.mem_append.1 hg with hg | hg
        · exact hgd.1 g hg
        · rw [List.mem_singleton.1 hg]; exact ht20, fun g hg => by
        rcases List.mem_append.1 hg with hg | hg
        · exact hgd.2 g hg
        · rw [List.mem_singleton.1 hg]; exact hq20⟩
      clear hd hs e2 e3 e4 e5 hT ht20 hq20 htb hgd
      generalize L.take 12 = M at *
      go_wp2_with fail
      refine wp_region_held_drew (S := (fun V => Below w.heap.size w V)) (by kernel_rfl) (by exact hB.drew) (fun hHeld => ?_)
      refine wpAnyH_take (i := 0) (oi := { dst := some 15, op := _, type := _, pos := _, after := _, guard := _ }) (v := ?_) rfl (by kernel_rfl) (by kernel_rfl) (by kernel_rfl) (fun _ _ _ h => h) (Or.inl ⟨by rfl, ?_⟩) hHeld ?_
      rotate_left
      · (intro w hSw; obtain ⟨g0, g1, g2⟩ := HG.out _ hSw; go_simp <;> with_reducible rfl)
      try simp only [Act.put, List.setIfInBounds_toArray, List.set_cons_zero, List.set_cons_succ]
      refine wpAnyH_take (i := 1) (oi := { dst := some 16, op := _, type := _, pos := _, after := _, guard := _ }) (v := ?_) rfl (by kernel_rfl) (by kernel_rfl) (by kernel_rfl) (fun _ _ _ h => h) (Or.inl ⟨by rfl, ?_⟩) hHeld ?_
      rotate_left
      · (intro w hSw; obtain ⟨g0, g1, g2⟩ := HG.out _ hSw; go_simp <;> with_reducible rfl)
      try simp only [Act.put, List.setIfInBounds_toArray, List.set_cons_zero, List.set_cons_succ]
      refine wpAnyH_take (i := 2) (oi := { dst := some 17, op := _, type := _, pos := _, after := _, guard := _ }) (v := ?_) rfl (by kernel_rfl) (by kernel_rfl) (by kernel_rfl) (fun _ _ _ h => h) (Or.inl ⟨by rfl, ?_⟩) hHeld ?_
      rotate_left
      · (intro w hSw; obtain ⟨g0, g1, g2⟩ := HG.out _ hSw; go_simp <;> with_reducible rfl)
      try simp only [Act.put, List.setIfInBounds_toArray, List.set_cons_zero, List.set_cons_succ]
      refine wpAnyH_take (i := 3) (oi := { dst := some 18, op := _, type := _, pos := _, after := _, guard := _ }) (v := ?_) rfl (by kernel_rfl) (by kernel_rfl) (by kernel_rfl) (fun _ _ _ h => h) (Or.inl ⟨by rfl, ?_⟩) hHeld ?_
      rotate_left
      · (intro w hSw; obtain ⟨g0, g1, g2⟩ := HG.out _ hSw; go_simp <;> with_reducible rfl)
      try simp only [Act.put, List.setIfInBounds_toArray, List.set_cons_zero, List.set_cons_succ]
      refine wpAnyH_take (i := 4) (oi := { dst := some 19, op := _, type := _, pos := _, after := _, guard := _ }) (v := ?_) rfl (by kernel_rfl) (by kernel_rfl) (by kernel_rfl) (fun _ _ _ h => h) (Or.inl ⟨by rfl, ?_⟩) hHeld ?_
      rotate_left
      · (intro w hSw; obtain ⟨g0, g1, g2⟩ := HG.out _ hSw; go_simp <;> with_reducible rfl)
      try simp only [Act.put, List.setIfInBounds_toArray, List.set_cons_zero, List.set_cons_succ]
      refine wpAnyH_take (i := 5) (oi := { dst := some 20, op := _, type := _, pos := _, after := _, guard := _ }) (v := ?_) rfl (by kernel_rfl) (by kernel_rfl) (by kernel_rfl) (fun _ _ _ h => h) (Or.inl ⟨by rfl, ?_⟩) hHeld ?_
      rotate_left
      · (intro w hSw; obtain ⟨g0, g1, g2⟩ := HG.out _ hSw; go_simp <;> with_reducible rfl)
      try simp only [Act.put, List.setIfInBounds_toArray, List.set_cons_zero, List.set_cons_succ]
      refine wpAnyH_take (i := 6) (oi := { dst := some 21, op := _, type := _, pos := _, after := _, guard := _ }) (v := ?_) rfl (by kernel_rfl) (by kernel_rfl) (by kernel_rfl) (fun _ _ _ h => h) (Or.inl ⟨by rfl, ?_⟩) hHeld ?_
      rotate_left
      · (intro w hSw; obtain ⟨g0, g1, g2⟩ := HG.out _ hSw; go_simp <;> with_reducible rfl)
      try simp only [Act.put, List.setIfInBounds_toArray, List.set_cons_zero, List.set_cons_succ]
      refine wpAnyH_take (i := 7) (oi := { dst := some 22, op := _, type := _, pos := _, after := _, guard := _ }) (v := ?_) rfl (by kernel_rfl) (by kernel_rfl) (by kernel_rfl) (fun _ _ _ h => h) (Or.inl ⟨by rfl, ?_⟩) hHeld ?_
      rotate_left
      · (intro w hSw; obtain ⟨g0, g1, g2⟩ := HG.out _ hSw; go_simp <;> with_reducible rfl)
      try simp only [Act.put, List.setIfInBounds_toArray, List.set_cons_zero, List.set_cons_succ]
      refine wpAnyH_take (i := 8) (oi := { dst := some 23, op := _, type := _, pos := _, after := _, guard := _ }) (v := ?_) rfl (by kernel_rfl) (by kernel_rfl) (by kernel_rfl) (fun _ _ _ h => h) (Or.inl ⟨by rfl, ?_⟩) hHeld ?_
      rotate_left
      · (intro w hSw; obtain ⟨g0, g1, g2⟩ := HG.out _ hSw; go_simp <;> with_reducible rfl)
      try simp only [Act.put, List.setIfInBounds_toArray, List.set_cons_zero, List.set_cons_succ]
      refine wpAnyH_take (i := 9) (oi := { dst := some 24, op := _, type := _, pos := _, after := _, guard := _ }) (v := ?_) rfl (by kernel_rfl) (by kernel_rfl) (by kernel_rfl) (fun _ _ _ h => h) (Or.inl ⟨by rfl, ?_⟩) hHeld ?_
      rotate_left
      · (intro w hSw; obtain ⟨g0, g1, g2⟩ := HG.out _ hSw; go_simp <;> with_reducible rfl)
      try simp only [Act.put, List.setIfInBounds_toArray, List.set_cons_zero, List.set_cons_succ]
      refine wpAnyH_take (i := 10) (oi := { dst := some 25, op := _, type := _, pos := _, after := _, guard := _ }) (v := ?_) rfl (by kernel_rfl) (by kernel_rfl) (by kernel_rfl) (fun _ _ _ h => h) (Or.inl ⟨by rfl, ?_⟩) hHeld ?_
      rotate_left
      · (intro w hSw; obtain ⟨g0, g1, g2⟩ := HG.out _ hSw; go_simp <;> with_reducible rfl)
      try simp only [Act.put, List.setIfInBounds_toArray, List.set_cons_zero, List.set_cons_succ]
      refine wpAnyH_ready (rs := [11]) (by kernel_rfl) (by simp) ?_
      refine AllReadyH.cons (o := { dst := some 26, op := _, type := _, pos := _, after := _, guard := _ }) rfl (fun K hK => ?_) AllReadyH.nil
      go_simp
      refine (HFW.out _ (HSG.out _ hHeld)).mono ?_
      rintro e u1 ⟨rfl, hk1⟩
      have hKeep := since_step hHeld hk1
      have ho1 := own_below (own_below hown ((Below.refl _ _).drew)) hk1
      go_wp2_with fail
      refine hK.out _ _ (by (try dsimp only); exact hKeep) (fun hHeld => ?_)
      clear hK K hKeep
      try simp only [Act.put, List.setIfInBounds_toArray, List.set_cons_zero, List.set_cons_succ]
      refine wpAnyH_take (i := 12) (oi := { dst := some 27, op := _, type := _, pos := _, after := _, guard := _ }) (v := ?_) rfl (by kernel_rfl) (by kernel_rfl) (by kernel_rfl) (fun _ _ _ h => h) (Or.inl ⟨by rfl, ?_⟩) hHeld ?_
      rotate_left
      · (intro w hSw; obtain ⟨g0, g1, g2⟩ := HG.out _ hSw; go_simp <;> with_reducible rfl)
      try simp only [Act.put, List.setIfInBounds_toArray, List.set_cons_zero, List.set_cons_succ]
      refine wpAnyH_ready (rs := [13]) (by kernel_rfl) (by simp) ?_
      refine AllReadyH.cons (o := { dst := some 28, op := _, type := _, pos := _, after := _, guard := _ }) rfl (fun K hK => ?_) AllReadyH.nil
      have hHd := hHeld
      obtain ⟨g0, g1, g2⟩ := HG.out _ hHd
      have hKeep := since_alloc hHd (.cells (⟨va, vc, vt, M.length, vC⟩ : Po).cells.toArray 133)
      have HU := Po.Bx.new u1 ⟨va, vc, vt, M.length, vC⟩
      have hown1 := World.ownsRow.alloc (w := u1) ho1 (.cells (⟨va, vc, vt, M.length, vC⟩ : Po).cells.toArray 133)
      skip
      go_simp
      refine hK.out _ _ (by (try dsimp only); exact hKeep) (fun hHeld => ?_)
      clear hK K hKeep
      try simp only [Act.put, List.setIfInBounds_toArray, List.set_cons_zero, List.set_cons_succ]
      refine wpAnyH_ready (rs := [14]) (by kernel_rfl) (by simp) ?_
      refine AllReadyH.cons (o := { dst := some 29, op := _, type := _, pos := _, after := _, guard := _ }) rfl (fun K hK => ?_) AllReadyH.nil
      refine step_app rfl (.tmp 15) (.tmp 28) rfl EPo (n := R.length) (m := 1) (c := c') (d := 1) (A := A') (B := some ⟨u1.heap.size, 0, none⟩) (by simp [Act.eval, Act.put]; done) (by simp [Act.eval, Act.put]; done) hown1 (by rw [Po.len]) HU.sl (Po.one _) (by unfold maxLen; omega) (by omega) hHeld.size ?_
      intro A2 c2 u2 hown2 hg2 hb2
      have hKeep := hHeld.trans hb2
      refine hK.out _ _ (by (try dsimp only); exact hKeep) (fun hHeld => ?_)
      clear hK K hKeep
      try simp only [Act.put, List.setIfInBounds_toArray, List.set_cons_zero, List.set_cons_succ]
      refine wpAnyH_take (i := 15) (oi := { dst := some 3, op := _, type := _, pos := _, after := _, guard := _ }) (v := ?_) rfl (by kernel_rfl) (by kernel_rfl) (by kernel_rfl) (fun _ _ _ h => h) (Or.inl ⟨by rfl, ?_⟩) hHeld ?_
      rotate_left
      · (intro w hSw; obtain ⟨g0, g1, g2⟩ := HG.out _ hSw; go_simp <;> with_reducible rfl)
      try simp only [Act.put, List.setIfInBounds_toArray, List.set_cons_zero, List.set_cons_succ]
      refine wpAnyH_done (by kernel_rfl) ?_ _
      have hB2 := hHeld
      go_wp2_with fail
      go_roundw
      case rel =>
        refine ⟨k + 1, R ++ [⟨va, vc, vt, M.length, vC⟩], cs ++ [⟨va, vc, M⟩], A2, c2, by omega, by omega, by go_num, by simp, by simp; omega, ?_, HTN.out, HGN.out, hB2⟩
        rw [rc_append]; simpa [rc] using hown2
      case measure => simp [intOf]; omega
    · have hend : ¬ ((k : Int) < (l.length : Int)) ∨ ((k : Int) < (l.length : Int) ∧ ¬ ((k : Int) < 12)) := by omega
      clear hgo
      rcases hend with h1 | ⟨h1, h2⟩
      all_goals
        go_wp2_with fail
        go_ret
        exact ⟨⟨R, cs, A', c', rfl, Sl.of_own hown, htb.below hB, CapH.of_own hown, by omega, hgd⟩, hB⟩
end Go.Proofs.Ytldnponbkhgijaa
end
section
namespace Go.Proofs.Ytldnponbkhgijaa
open Go.ChangeShapes Go.WideShapes Go.ChangeAt Go.RowKit
set_option linter.unusedVariables false
set_option linter.unusedSimpArgs false

theorem chgHR_form {how : List Lg → Int × List Lg} {cs : List Pc} {a c : Int} (h : isH cs = false) : chgHR how cs a c = (3, []) := if_pos h
theorem chgHR_err {how : List Lg → Int × List Lg} {cs : List Pc} {a c n : Int} {L : List Lg} (h : isH cs = true) (h2 : how (lotsH cs a c) = (n, L)) (h3 : n ≠ 0) : chgHR how cs a c = (n, []) := by
  unfold chgHR; rw [if_neg (by simp [h]), h2, if_pos h3]
theorem chgHR_ok {how : List Lg → Int × List Lg} {cs : List Pc} {a c : Int} {L : List Lg} (h : isH cs = true) (h2 : how (lotsH cs a c) = (0, L)) : chgHR how cs a c = (0, withH cs a c L) := by
  unfold chgHR; rw [if_neg (by simp [h]), h2, if_neg (by simp)]
theorem withH_nil (cs : List Pc) (a c : Int) : withH cs a c [] = cs.filter (fun g => !unH a c g) := if_pos rfl
theorem withH_some (cs : List Pc) (a c : Int) {L : List Lg} (h : L ≠ []) : withH cs a c L = putR ahH cs ⟨a, c, L⟩ := if_neg h
set_option maxHeartbeats 8000000 in
set_option maxRecDepth 100000 in
theorem bshift_any (A : Option Addr) (cap : Nat) (l : List Po) (cs : List Pc) (a c : Int) (LA : Option Addr) (LC : Nat) (M : List Lg) (w : World) (hl : l.length ≤ 900000) (hcl : ∀ g ∈ cs, g.L.length ≤ 400000) (h6 : ∀ g ∈ cs, ∀ y ∈ g.L, In64 y.qty) (hMl : M.length ≤ 400000) (hM6 : ∀ y ∈ M, In64 y.qty) (hs : Sl w A (rc Po.cells l)) (ht : PoTab w l cs) (hM : Sl w LA (rc Lg.cells M)) :
    Calls Try.prog 35 #[.slice A l.length cap, .agg #[.int .i64 a, .int .i64 c], .slice LA M.length LC] w fun e w' => HRes w' e (chgHR (fun m => addL [m, M]) cs a c) ∧ Below w.heap.size w w' := by
  have hB0 := since_alloc (Below.refl _ w) (.cells #[.int .i64 a, .int .i64 c] 24)
  have hK := Bk.new w #[.int .i64 a, .int .i64 c] 24
  have hcl9 : ∀ g ∈ cs, g.L.length ≤ 900000 := fun g hg => Nat.le_trans (hcl g hg) (by omega)
  have HLL : Hid (cs.length ≤ 1000000) := Lib.hid (by have := ht.1; omega)
  have HLC := Lib.hid ht.1
  have HIS := Lib.hid (his_any A cap l cs _ hl hcl9 (hs.alloc (.cells #[.int .i64 a, .int .i64 c] 24)) (ht.below hB0))
  have HSL : Hid (∀ V, Below w.heap.size w V → Sl V A (rc Po.cells l)) := Lib.hid fun V hV => hs.below hV
  have HTB : Hid (∀ V, Below w.heap.size w V → PoTab V l cs) := Lib.hid fun V hV => ht.below hV
  have HSM : Hid (∀ V, Below w.heap.size w V → Sl V LA (rc Lg.cells M)) := Lib.hid fun V hV => hM.below hV
  have HLO := Lib.hid (fun V h1 h2 => hlots_any A cap l cs a c V hl hcl9 h1 h2)
  have hlen := lotsH_len hcl a c
  have hl6 := lots_in6 h6 a c
  have HAD := Lib.hid (fun A0 A1 c1 V h h1 h2 => vadd_2 (lotsH cs a c) M hlen hMl hl6 hM6 A0 A1 LA c1 LC V h h1 h2)
  obtain ⟨rn, RL, hR⟩ : ∃ rn RL, addL [lotsH cs a c, M] = (rn, RL) := ⟨_, _, rfl⟩
  rw [hR] at HAD
  unfold GRes at HAD
  simp only at HAD
  have HD := Lib.hid (fun V h1 h2 => dups_po A cap l cs V hl hcl9 h1 h2)
  have HDR := Lib.hid (fun A1 c1 l1 b V hl1 h1 (h2 : Bk V b #[.int .i64 a, .int .i64 c]) => drop_po A1 c1 l1 151 #[.pointer (some ⟨b, 0, none⟩)] (unHd a c) V hl1 h1 ent_hof1 (tells_hof1 a c b _ _ h2 rfl))
  have HPU := Lib.hid (fun A1 c1 l1 A2 c2 V hl1 h1 => put_po A1 c1 l1 ⟨a, c, A2, RL.length, c2⟩ 92 #[] ahHd V hl1 h1 ent_hahead (tells_hahead _ _))
  unfold Po.val at HPU
  simp only at HPU
  clear hs ht hM
  cases hi : isH cs with
  | false =>
    have HR := Lib.hid (chgHR_form (how := fun m => addL [m, M]) (a := a) (c := c) hi)
    rw [hi] at HIS
    clear hi hR
    go_enter Try.func35, Try.ntmps35
    go_wp2_with fail
    refine HIS.out.mono ?_
    rintro e w1 ⟨rfl, hb⟩
    have hB1 := since_step hB0 hb
    have hK := hK.below hb
    clear hb
    go_wp2_with fail
    go_ret2
    rw [HR.out]
    exact ⟨HRes.nil _ _, hB1⟩
  | true =>
    rw [hi] at HIS
    by_cases hn : rn = 0
    rotate_left
    · have HR := Lib.hid (chgHR_err (how := fun m => addL [m, M]) hi hR hn)
      have hnb : (rn != 0) = true := by simpa using hn
      have hnb2 : (rn == 0) = false := by simpa using hn
      generalize lotsH cs a c = L0 at *
      clear hi hR hn
      go_enter Try.func35, Try.ntmps35
      go_wp2_with fail
      refine HIS.out.mono ?_
      rintro e w1 ⟨rfl, hb⟩
      have hB1 := since_step hB0 hb
      have hK := hK.below hb
      clear hb
      have ck := hK.2; have k0 := ck 0; have k1 := ck 1; simp at k0 k1; clear ck
      go_wp2_with fail
      refine (HLO.out _ (HSL.out _ hB1) (HTB.out _ hB1)).mono ?_
      rintro e w2 ⟨⟨A1, c1, rfl, o1⟩, hb⟩
      have hB2 := since_step hB1 hb
      have hK := hK.below hb
      have h1 := Sl.of_own o1
      clear o1
      clear hb k0 k1
      go_wp2_with fail
      refine (HAD.out _ A1 c1 _ (Sl.new_ w2 (rc RowS.cells [(⟨A1, c1, L0⟩ : RowS Lg), ⟨LA, LC, M⟩]) 51) (h1.alloc _) ((HSM.out _ hB2).alloc _)).mono ?_
      rintro e w3 ⟨⟨A2, c2, rfl, o2⟩, hb⟩
      have hA := (Below.refl w2.heap.size w2).alloc (Nat.le_refl _) (.cells #[.slice A1 L0.length c1, .slice LA M.length LC] 51)
      have hB3 := since_step hB2 (since_step hA hb)
      have hK := (hK.below hA).below hb
      have h2 := Sl.of_own o2
      clear hb hA o2 h1
      go_wp2_with fail
      go_ret2
      rw [HR.out]
      exact ⟨HRes.nil _ _, hB3⟩
    · subst hn
      have hR2 := chgHR_ok (how := fun m => addL [m, M]) hi hR
      generalize lotsH cs a c = L0 at *
      clear hi hR
      cases RL with
      | nil =>
        rw [withH_nil] at hR2
        have HR := Lib.hid hR2
        clear hR2
        go_enter Try.func35, Try.ntmps35
        go_wp2_with fail
        refine HIS.out.mono ?_
        rintro e w1 ⟨rfl, hb⟩
        have hB1 := since_step hB0 hb
        have hK := hK.below hb
        clear hb
        have ck := hK.2; have k0 := ck 0; have k1 := ck 1; simp at k0 k1; clear ck
        go_wp2_with fail
        refine (HLO.out _ (HSL.out _ hB1) (HTB.out _ hB1)).mono ?_
        rintro e w2 ⟨⟨A1, c1, rfl, o1⟩, hb⟩
        have hB2 := since_step hB1 hb
        have hK := hK.below hb
        have h1 := Sl.of_own o1
        clear o1
        clear hb k0 k1
        go_wp2_with fail
        refine (HAD.out _ A1 c1 _ (Sl.new_ w2 (rc RowS.cells [(⟨A1, c1, L0⟩ : RowS Lg), ⟨LA, LC, M⟩]) 51) (h1.alloc _) ((HSM.out _ hB2).alloc _)).mono ?_
        rintro e w3 ⟨⟨A2, c2, rfl, o2⟩, hb⟩
        have hA := (Below.refl w2.heap.size w2).alloc (Nat.le_refl _) (.cells #[.slice A1 L0.length c1, .slice LA M.length LC] 51)
        have hB3 := since_step hB2 (since_step hA hb)
        have hK := (hK.below hA).below hb
        have h2 := Sl.of_own o2
        clear hb hA o2 h1
        have HN2 : Hid (∀ V, Below w3.heap.size w3 V → Bk V w.heap.size #[.int .i64 a, .int .i64 c] ∧ True) := Lib.hid fun V hV => ⟨hK.below hV, trivial⟩
        clear hK h2
        go_wp2_with fail
        refine wp_region_held_drew (S := (fun V => Below w.heap.size w V ∧ Below w3.heap.size w3 V)) (by kernel_rfl) (by exact ⟨hB3.drew, (Below.refl _ _).drew⟩) (fun hHeld => ?_)
        refine wpAnyH_take (i := 0) (oi := { dst := some 28, op := _, type := _, pos := _, after := _, guard := _ }) (v := ?_) rfl (by kernel_rfl) (by kernel_rfl) (by kernel_rfl) (fun _ _ _ h => h) (Or.inl ⟨by rfl, ?_⟩) hHeld ?_
        rotate_left
        · (intro w hSw; have ck := (HN2.out _ (hSw).2).1.2; have k0 := ck 0; have k1 := ck 1; simp at k0 k1; clear ck; go_simp <;> with_reducible rfl)
        try simp only [Act.put, List.setIfInBounds_toArray, List.set_cons_zero, List.set_cons_succ]
        refine wpAnyH_take (i := 2) (oi := { dst := some 30, op := _, type := _, pos := _, after := _, guard := _ }) (v := ?_) rfl (by kernel_rfl) (by kernel_rfl) (by kernel_rfl) (fun _ _ _ h => h) (Or.inl ⟨by rfl, ?_⟩) hHeld ?_
        rotate_left
        · (intro w hSw; have ck := (HN2.out _ (hSw).2).1.2; have k0 := ck 0; have k1 := ck 1; simp at k0 k1; clear ck; go_simp <;> with_reducible rfl)
        try simp only [Act.put, List.setIfInBounds_toArray, List.set_cons_zero, List.set_cons_succ]
        refine wpAnyH_ready (rs := [1]) (by kernel_rfl) (by simp) ?_
        refine AllReadyH.cons (o := { dst := some 29, op := _, type := _, pos := _, after := _, guard := _ }) rfl (fun K hK => ?_) AllReadyH.nil
        go_simp
        refine (HD.out _ (HSL.out _ hHeld.1) (HTB.out _ hHeld.1)).mono ?_
        rintro e u1 ⟨⟨l1, A1, c1, rfl, ho1, hot1⟩, hk1⟩
        have hKeep := And.intro (since_step hHeld.1 hk1) (since_step hHeld.2 hk1)
        have hs1 := Sl.of_own ho1
        have ht1 := hot1.tab
        have hl1 : l1.length ≤ 1000000 := by rw [ht1.1]; exact HLL.out
        clear ho1 hot1
        go_wp2_with fail
        refine hK.out _ _ (by (try dsimp only); exact hKeep) (fun hHeld => ?_)
        clear hK K hKeep
        try simp only [Act.put, List.setIfInBounds_toArray, List.set_cons_zero, List.set_cons_succ]
        refine wpAnyH_ready (rs := [3]) (by kernel_rfl) (by simp) ?_
        refine AllReadyH.cons (o := { dst := some 31, op := _, type := _, pos := _, after := _, guard := _ }) rfl (fun K hK => ?_) AllReadyH.nil
        go_simp
        refine (hof_any a c _).mono ?_
        rintro e u2 ⟨⟨b2, rfl, hK2⟩, hk2⟩
        have hKeep := And.intro (since_step hHeld.1 hk2) (since_step hHeld.2 hk2)
        have hs1 := hs1.below hk2
        have ht1 := ht1.below hk2
        go_wp2_with fail
        refine hK.out _ _ (by (try dsimp only); exact hKeep) (fun hHeld => ?_)
        clear hK K hKeep
        try simp only [Act.put, List.setIfInBounds_toArray, List.set_cons_zero, List.set_cons_succ]
        refine wpAnyH_ready (rs := [4]) (by kernel_rfl) (by simp) ?_
        refine AllReadyH.cons (o := { dst := some 32, op := _, type := _, pos := _, after := _, guard := _ }) rfl (fun K hK => ?_) AllReadyH.nil
        go_simp
        refine (HDR.out A1 c1 l1 b2 _ hl1 hs1 hK2).mono ?_
        rintro e u3 ⟨⟨A3, c3, rfl, ho3⟩, hk3⟩
        have hKeep := And.intro (since_step hHeld.1 hk3) (since_step hHeld.2 hk3)
        have ht1 := ht1.below hk3
        go_wp2_with fail
        refine hK.out _ _ (by (try dsimp only); exact hKeep) (fun hHeld => ?_)
        clear hK K hKeep
        try simp only [Act.put, List.setIfInBounds_toArray, List.set_cons_zero, List.set_cons_succ]
        refine wpAnyH_take (i := 5) (oi := { dst := some 6, op := _, type := _, pos := _, after := _, guard := _ }) (v := ?_) rfl (by kernel_rfl) (by kernel_rfl) (by kernel_rfl) (fun _ _ _ h => h) (Or.inl ⟨by rfl, ?_⟩) hHeld ?_
        rotate_left
        · (intro w hSw; have ck := (HN2.out _ (hSw).2).1.2; have k0 := ck 0; have k1 := ck 1; simp at k0 k1; clear ck; go_simp <;> with_reducible rfl)
        try simp only [Act.put, List.setIfInBounds_toArray, List.set_cons_zero, List.set_cons_succ]
        refine wpAnyH_take (i := 6) (oi := { dst := some 7, op := _, type := _, pos := _, after := _, guard := _ }) (v := ?_) rfl (by kernel_rfl) (by kernel_rfl) (by kernel_rfl) (fun _ _ _ h => h) (Or.inl ⟨by rfl, ?_⟩) hHeld ?_
        rotate_left
        · (intro w hSw; have ck := (HN2.out _ (hSw).2).1.2; have k0 := ck 0; have k1 := ck 1; simp at k0 k1; clear ck; go_simp <;> with_reducible rfl)
        try simp only [Act.put, List.setIfInBounds_toArray, List.set_cons_zero, List.set_cons_succ]
        refine wpAnyH_done (by kernel_rfl) ?_ _
        have hBz := hHeld.1
        have hcap := CapH.of_own ho3
        have hsz := Sl.of_own ho3
        have htz := PoTab.filter (p := fun g => !unHd a c g) (q := fun g => !unH a c g) (fun g d h => by rw [un_is a c g d h]) ht1
        go_wp2_with fail
        go_ret2
        rw [HR.out]
        exact ⟨⟨_, A3, c3, rfl, hsz, htz, hcap⟩, hBz⟩
      | cons x r =>
        rw [withH_some _ _ _ (by simp)] at hR2
        have HR := Lib.hid hR2
        have hpos : (0 : Int) < (((x :: r).length : Nat) : Int) := by simp only [List.length_cons]; omega
        have hqb : ((((x :: r).length : Nat) : Int) == 0) = false := by simp only [List.length_cons]; simp; omega
        clear hR2
        go_enter Try.func35, Try.ntmps35
        go_wp2_with fail
        refine HIS.out.mono ?_
        rintro e w1 ⟨rfl, hb⟩
        have hB1 := since_step hB0 hb
        have hK := hK.below hb
        clear hb
        have ck := hK.2; have k0 := ck 0; have k1 := ck 1; simp at k0 k1; clear ck
        go_wp2_with fail
        refine (HLO.out _ (HSL.out _ hB1) (HTB.out _ hB1)).mono ?_
        rintro e w2 ⟨⟨A1, c1, rfl, o1⟩, hb⟩
        have hB2 := since_step hB1 hb
        have hK := hK.below hb
        have h1 := Sl.of_own o1
        clear o1
        clear hb k0 k1
        go_wp2_with fail
        refine (HAD.out _ A1 c1 _ (Sl.new_ w2 (rc RowS.cells [(⟨A1, c1, L0⟩ : RowS Lg), ⟨LA, LC, M⟩]) 51) (h1.alloc _) ((HSM.out _ hB2).alloc _)).mono ?_
        rintro e w3 ⟨⟨A2, c2, rfl, o2⟩, hb⟩
        have hA := (Below.refl w2.heap.size w2).alloc (Nat.le_refl _) (.cells #[.slice A1 L0.length c1, .slice LA M.length LC] 51)
        have hB3 := since_step hB2 (since_step hA hb)
        have hK := (hK.below hA).below hb
        have h2 := Sl.of_own o2
        clear hb hA o2 h1
        have HN2 : Hid (∀ V, Below w3.heap.size w3 V → Bk V w.heap.size #[.int .i64 a, .int .i64 c] ∧ Sl V A2 (rc Lg.cells (x :: r))) := Lib.hid fun V hV => ⟨hK.below hV, h2.below hV⟩
        clear hK h2
        go_wp2_with fail
        refine wp_region_held_drew (S := (fun V => Below w.heap.size w V ∧ Below w3.heap.size w3 V)) (by kernel_rfl) (by exact ⟨hB3.drew, (Below.refl _ _).drew⟩) (fun hHeld => ?_)
        refine wpAnyH_take (i := 0) (oi := { dst := some 33, op := _, type := _, pos := _, after := _, guard := _ }) (v := ?_) rfl (by kernel_rfl) (by kernel_rfl) (by kernel_rfl) (fun _ _ _ h => h) (Or.inl ⟨by rfl, ?_⟩) hHeld ?_
        rotate_left
        · (intro w hSw; have ck := (HN2.out _ (hSw).2).1.2; have k0 := ck 0; have k1 := ck 1; simp at k0 k1; clear ck; go_simp <;> with_reducible rfl)
        try simp only [Act.put, List.setIfInBounds_toArray, List.set_cons_zero, List.set_cons_succ]
        refine wpAnyH_take (i := 2) (oi := { dst := some 35, op := _, type := _, pos := _, after := _, guard := _ }) (v := ?_) rfl (by kernel_rfl) (by kernel_rfl) (by kernel_rfl) (fun _ _ _ h => h) (Or.inl ⟨by rfl, ?_⟩) hHeld ?_
        rotate_left
        · (intro w hSw; have ck := (HN2.out _ (hSw).2).1.2; have k0 := ck 0; have k1 := ck 1; simp at k0 k1; clear ck; go_simp <;> with_reducible rfl)
        try simp only [Act.put, List.setIfInBounds_toArray, List.set_cons_zero, List.set_cons_succ]
        refine wpAnyH_take (i := 3) (oi := { dst := some 36, op := _, type := _, pos := _, after := _, guard := _ }) (v := ?_) rfl (by kernel_rfl) (by kernel_rfl) (by kernel_rfl) (fun _ _ _ h => h) (Or.inl ⟨by rfl, ?_⟩) hHeld ?_
        rotate_left
        · (intro w hSw; have ck := (HN2.out _ (hSw).2).1.2; have k0 := ck 0; have k1 := ck 1; simp at k0 k1; clear ck; go_simp <;> with_reducible rfl)
        try simp only [Act.put, List.setIfInBounds_toArray, List.set_cons_zero, List.set_cons_succ]
        refine wpAnyH_take (i := 4) (oi := { dst := some 37, op := _, type := _, pos := _, after := _, guard := _ }) (v := ?_) rfl (by kernel_rfl) (by kernel_rfl) (by kernel_rfl) (fun _ _ _ h => h) (Or.inl ⟨by rfl, ?_⟩) hHeld ?_
        rotate_left
        · (intro w hSw; have ck := (HN2.out _ (hSw).2).1.2; have k0 := ck 0; have k1 := ck 1; simp at k0 k1; clear ck; go_simp <;> with_reducible rfl)
        try simp only [Act.put, List.setIfInBounds_toArray, List.set_cons_zero, List.set_cons_succ]
        refine wpAnyH_ready (rs := [1]) (by kernel_rfl) (by simp) ?_
        refine AllReadyH.cons (o := { dst := some 34, op := _, type := _, pos := _, after := _, guard := _ }) rfl (fun K hK => ?_) AllReadyH.nil
        go_simp
        refine (HD.out _ (HSL.out _ hHeld.1) (HTB.out _ hHeld.1)).mono ?_
        rintro e u1 ⟨⟨l1, A1, c1, rfl, ho1, hot1⟩, hk1⟩
        have hKeep := And.intro (since_step hHeld.1 hk1) (since_step hHeld.2 hk1)
        have hs1 := Sl.of_own ho1
        have ht1 := hot1.tab
        have hl1 : l1.length ≤ 1000000 := by rw [ht1.1]; exact HLL.out
        clear ho1 hot1
        go_wp2_with fail
        refine hK.out _ _ (by (try dsimp only); exact hKeep) (fun hHeld => ?_)
        clear hK K hKeep
        try simp only [Act.put, List.setIfInBounds_toArray, List.set_cons_zero, List.set_cons_succ]
        refine wpAnyH_ready (rs := [5]) (by kernel_rfl) (by simp) ?_
        refine AllReadyH.cons (o := { dst := some 38, op := _, type := _, pos := _, after := _, guard := _ }) rfl (fun K hK => ?_) AllReadyH.nil
        go_simp
        refine (HPU.out A1 c1 l1 A2 c2 _ hl1 hs1).mono ?_
        rintro e u3 ⟨⟨A3, c3, rfl, ho3⟩, hk3⟩
        have hKeep := And.intro (since_step hHeld.1 hk3) (since_step hHeld.2 hk3)
        have ht1 := ht1.below hk3
        go_wp2_with fail
        refine hK.out _ _ (by (try dsimp only); exact hKeep) (fun hHeld => ?_)
        clear hK K hKeep
        try simp only [Act.put, List.setIfInBounds_toArray, List.set_cons_zero, List.set_cons_succ]
        refine wpAnyH_take (i := 6) (oi := { dst := some 6, op := _, type := _, pos := _, after := _, guard := _ }) (v := ?_) rfl (by kernel_rfl) (by kernel_rfl) (by kernel_rfl) (fun _ _ _ h => h) (Or.inl ⟨by rfl, ?_⟩) hHeld ?_
        rotate_left
        · (intro w hSw; have ck := (HN2.out _ (hSw).2).1.2; have k0 := ck 0; have k1 := ck 1; simp at k0 k1; clear ck; go_simp <;> with_reducible rfl)
        try simp only [Act.put, List.setIfInBounds_toArray, List.set_cons_zero, List.set_cons_succ]
        refine wpAnyH_take (i := 7) (oi := { dst := some 7, op := _, type := _, pos := _, after := _, guard := _ }) (v := ?_) rfl (by kernel_rfl) (by kernel_rfl) (by kernel_rfl) (fun _ _ _ h => h) (Or.inl ⟨by rfl, ?_⟩) hHeld ?_
        rotate_left
        · (intro w hSw; have ck := (HN2.out _ (hSw).2).1.2; have k0 := ck 0; have k1 := ck 1; simp at k0 k1; clear ck; go_simp <;> with_reducible rfl)
        try simp only [Act.put, List.setIfInBounds_toArray, List.set_cons_zero, List.set_cons_succ]
        refine wpAnyH_done (by kernel_rfl) ?_ _
        have hBz := hHeld.1
        have hs2 := (HN2.out _ hHeld.2).2
        have hcap := CapH.of_own ho3
        have hsz := Sl.of_own ho3
        have htz := PoTab.put (w := u3) (g := ⟨a, c, A2, (x :: r).length, c2⟩) (c := ⟨a, c, x :: r⟩) ah_is ⟨rfl, rfl, rfl, hs2⟩ ht1
        rw [← putL_eq] at htz
        go_wp2_with fail
        go_ret2
        rw [HR.out]
        exact ⟨⟨_, A3, c3, rfl, hsz, htz, hcap⟩, hBz⟩
end Go.Proofs.Ytldnponbkhgijaa
end
