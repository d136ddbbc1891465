/-
  Layer 11, eighth part: the laws VecAdds, VecTurns, VecBack (laid by gen_vec8.py).
-/
import Derived.Test.YtfagpdnckmaomaaVec7
namespace Go.Proofs.Ytfagpdnckmaomaa
open Go.ChangeShapes Go.WideShapes Go.ChangeAt Go.RowKit
set_option linter.unusedVariables false
set_option linter.unusedSimpArgs false

theorem rd_lgrow {w : World} {r : List Value} (h : Rd w (.cat (.int .i64) (.cat (.int .i64) .nil)) r) : ∃ g : Lg, r = g.cells ∧ In64 g.qty := by
  obtain ⟨p, q, rfl, ⟨a, rfl, _⟩, ⟨p2, q2, rfl, ⟨b, rfl, hb⟩, rfl⟩⟩ := h
  exact ⟨⟨a, b⟩, rfl, bd_i64 hb⟩
theorem rd_lgv {w : World} {a : Array Value} (h : Rd w (.cat (.int .i64) (.cat (.int .i64) .nil)) a.toList) : ∃ v : Lg, .agg a = v.val ∧ In64 v.qty := by
  obtain ⟨v, hv, hq⟩ := rd_lgrow h
  refine ⟨v, ?_, hq⟩
  cases a
  simp at hv
  subst hv
  rfl
theorem negR_in (l : List Lg) : ∀ y ∈ (negR l).2, In64 y.qty := by
  by_cases h : (negR l).1 = 0
  · obtain ⟨_, h2, h3⟩ := negR_ok h
    rw [h2]
    intro y hy
    obtain ⟨x, hx, rfl⟩ := List.mem_map.1 hy
    exact h3 x hx
  · rw [negR_err h]
    intro y hy
    cases hy
theorem all_12 {α : Type} : ∀ {T : List (RowS α)}, (∀ s ∈ T, s.l.length ≤ 12) → (RowS.all T).length ≤ T.length * 12
  | [], _ => by simp [RowS.all]
  | s :: T, h => by
    have h1 := h s (by simp)
    have h2 := all_12 (T := T) fun r hr => h r (by simp [hr])
    rw [RowS.all_cons, List.length_append, List.length_cons]
    omega

set_option maxHeartbeats 16000000 in
set_option maxRecDepth 100000 in
theorem walk_VecAdds (a0 : Option Addr) (n0 c0 : Nat) (a1 : Int) (w : World) (w0 : Rd w (.sl (.sl (.cat (.int .i64) (.cat (.int .i64) .nil)))) [.slice a0 n0 c0]) (w1 : (Lit.int .i64 a1).wf = true) :
    Calls Try.prog 3 #[.slice a0 n0 c0, .int .i64 a1] w fun e w' => e = .returned (.bool true) ∧ Below w.heap.size w w' := by
  obtain ⟨S, rfl, hsc, hscm, hS, hok⟩ := rd_rows2 (f := Lg.cells) (fun r => rd_lgrow) w0
  clear w0 w1
  have HSV := Lib.hid (several_any a0 c0 S w (by omega) hS (fun r hr => ⟨(hok r hr).1, (hok r hr).2.1, (hok r hr).2.2.1⟩))
  obtain ⟨TT, hTT⟩ : ∃ TT, (S.take 10).map few12 = TT := ⟨_, rfl⟩
  have hTl : TT.length ≤ 10 := by rw [← hTT]; simp; omega
  have hT12 : ∀ s ∈ TT, s.l.length ≤ 12 := fun s hs => by
    rw [← hTT] at hs
    obtain ⟨r, _, rfl⟩ := List.mem_map.1 hs
    simp [few12]; omega
  have hTq2 : ∀ s ∈ TT, ∀ y ∈ s.l, In64 y.qty := fun s hs y hy => by
    rw [← hTT] at hs
    obtain ⟨r, hr, rfl⟩ := List.mem_map.1 hs
    exact (hok r (List.mem_of_mem_take hr)).2.2.2 y (List.mem_of_mem_take hy)
  have hTq : ∀ y ∈ RowS.all TT, In64 y.qty := fun y hy => by
    rw [RowS.all, List.mem_flatten] at hy
    obtain ⟨m, hm, hy⟩ := hy
    obtain ⟨s, hs, rfl⟩ := List.mem_map.1 hm
    exact hTq2 s hs y hy
  have hTa := all_12 hT12
  have HTS : Hid (∀ V, Below w.heap.size w V → RowsOk V Lg.cells TT) := Lib.hid fun V hV s hs => by
    rw [← hTT] at hs
    obtain ⟨r, hr, rfl⟩ := List.mem_map.1 hs
    show Sl V r.A (rc Lg.cells (r.l.take 12))
    rw [← rc_take Lg.len]
    exact ((hok r (List.mem_of_mem_take hr)).2.2.1.below hV).take _
  have HA := Lib.hid (fun A c V h1 h2 => vadd_any A c TT V (by omega) (by omega) hTq h1 h2)
  have HRA := Lib.hid (fun A c V h1 h2 => radd_any A c TT V (by omega) (fun s hs => by have := hT12 s hs; omega) hTq2 h1 h2)
  have hal := addR_len TT
  obtain ⟨an, AL, hAL⟩ : ∃ n R, addR TT = (n, R) := ⟨_, _, rfl⟩
  rw [hAL] at HA HRA hal
  have HSS := Lib.hid (fun A A2 c c2 V h1 h2 => rvsame_any_self A A2 c c2 AL V (by simp only at hal; omega) h1 h2)
  unfold GRes at HA HRA
  simp only at HA HRA
  have han : (an == an) = true := by simp
  have HT12 := Lib.hid hT12
  rw [hTT] at HSV
  clear hsc hscm hS hok hTT hT12 hTq2 hTq hTa hal hAL
  go_enter Try.func3, Try.ntmps3
  go_wp2_with fail
  refine HSV.out.mono ?_
  rintro e z1 ⟨⟨AT, cT, rfl, ownT⟩, hB0⟩
  have hT := Sl.of_own ownT
  have hz1 := hB0.size
  clear ownT HSV
  go_wp2_with fail
  go_loopw [5] (fun i wr => ∃ k : Nat, k ≤ TT.length ∧ i = .int .i64 k ∧ Below w.heap.size w wr ∧ Below z1.heap.size z1 wr) (fun i _ => TT.length - (intOf i).toNat)
  case atStart => exact ⟨0, by omega, rfl, hB0, Below.refl _ _⟩
  case round =>
    obtain ⟨k, hk, rfl, hB, hBz⟩ := hrel
    by_cases hlt : k < TT.length
    · have hlk : (k : Int) < (TT.length : Int) := by omega
      have hgk : (0 : Int) ≤ (k : Int) := by omega
      obtain ⟨b, o, rfl, hbw, hg⟩ := hT.rowS hlt
      have hin := HTS.out _ hB TT[k] (List.getElem_mem hlt)
      have hl12 := HT12.out _ (List.getElem_mem hlt)
      obtain ⟨s, hs1⟩ : ∃ s, TT[k] = s := ⟨_, rfl⟩
      rw [hs1] at hg hin hl12
      have hg2 := (hBz.cell (p := ⟨b, o + k, none⟩) hbw).trans hg
      have hbr := World.block_lt_of_cell? _ _ hg2
      have HG : Hid (∀ V, Below wr.heap.size wr V → V.cell? ⟨b, o + k, none⟩ = some (.slice s.A s.l.length s.c)) := Lib.hid fun V hV => (hV.cell (p := ⟨b, o + k, none⟩) hbr).trans hg2
      have HIN : Hid (∀ V, Below wr.heap.size wr V → Sl V s.A (rc Lg.cells s.l)) := Lib.hid fun V hV => hin.below hV
      have HIS := Lib.hid (fun V h => vis_any s.A s.c s.l V (by omega) h)
      have HRI := Lib.hid (fun V h => rvis_any s.A s.c s.l V (by omega) h)
      have HGT := Lib.hid (fun V h => vget_any s.A s.c s.l a1 V (by omega) h)
      have HRG := Lib.hid (fun V h => rvget_any s.A s.c s.l a1 V (by omega) h)
      generalize isG s.l = bi at *
      generalize getG s.l a1 = gt at *
      have hgt : (gt == gt) = true := by simp
      have hgt2 : (gt != gt) = false := by simp
      have hbi : (bi == bi) = true := by simp
      have hbi2 : (bi != bi) = false := by simp
      have hszr := hB.size
      have hszz := hBz.size
      clear hs1 hg hin hl12 hg2 hbr hbw
      go_wp2_with fail
      refine wp_region_held_drew (S := (fun V => Below wr.heap.size wr V)) (by kernel_rfl) (by exact (Below.refl _ _).drew) (fun hHeld => ?_)
      refine wpAnyH_take (i := 0) (oi := { dst := some 18, op := _, type := _, pos := _, after := _, guard := _ }) (v := ?_) rfl (by kernel_rfl) (by kernel_rfl) (by kernel_rfl) (fun _ _ _ h => h) (Or.inl ⟨by rfl, ?_⟩) hHeld ?_
      rotate_left
      · (intro w hSw; have g0 := HG.out _ hSw; go_simp <;> with_reducible rfl)
      try simp only [Act.put, List.setIfInBounds_toArray, List.set_cons_zero, List.set_cons_succ]
      refine wpAnyH_take (i := 1) (oi := { dst := some 19, op := _, type := _, pos := _, after := _, guard := _ }) (v := ?_) rfl (by kernel_rfl) (by kernel_rfl) (by kernel_rfl) (fun _ _ _ h => h) (Or.inl ⟨by rfl, ?_⟩) hHeld ?_
      rotate_left
      · (intro w hSw; have g0 := HG.out _ hSw; go_simp <;> with_reducible rfl)
      try simp only [Act.put, List.setIfInBounds_toArray, List.set_cons_zero, List.set_cons_succ]
      refine wpAnyH_take (i := 2) (oi := { dst := some 20, op := _, type := _, pos := _, after := _, guard := _ }) (v := ?_) rfl (by kernel_rfl) (by kernel_rfl) (by kernel_rfl) (fun _ _ _ h => h) (Or.inl ⟨by rfl, ?_⟩) hHeld ?_
      rotate_left
      · (intro w hSw; have g0 := HG.out _ hSw; go_simp <;> with_reducible rfl)
      try simp only [Act.put, List.setIfInBounds_toArray, List.set_cons_zero, List.set_cons_succ]
      refine wpAnyH_take (i := 3) (oi := { dst := some 21, op := _, type := _, pos := _, after := _, guard := _ }) (v := ?_) rfl (by kernel_rfl) (by kernel_rfl) (by kernel_rfl) (fun _ _ _ h => h) (Or.inl ⟨by rfl, ?_⟩) hHeld ?_
      rotate_left
      · (intro w hSw; have g0 := HG.out _ hSw; go_simp <;> with_reducible rfl)
      try simp only [Act.put, List.setIfInBounds_toArray, List.set_cons_zero, List.set_cons_succ]
      refine wpAnyH_take (i := 5) (oi := { dst := some 23, op := _, type := _, pos := _, after := _, guard := _ }) (v := ?_) rfl (by kernel_rfl) (by kernel_rfl) (by kernel_rfl) (fun _ _ _ h => h) (Or.inl ⟨by rfl, ?_⟩) hHeld ?_
      rotate_left
      · (intro w hSw; have g0 := HG.out _ hSw; go_simp <;> with_reducible rfl)
      try simp only [Act.put, List.setIfInBounds_toArray, List.set_cons_zero, List.set_cons_succ]
      refine wpAnyH_take (i := 6) (oi := { dst := some 24, op := _, type := _, pos := _, after := _, guard := _ }) (v := ?_) rfl (by kernel_rfl) (by kernel_rfl) (by kernel_rfl) (fun _ _ _ h => h) (Or.inl ⟨by rfl, ?_⟩) hHeld ?_
      rotate_left
      · (intro w hSw; have g0 := HG.out _ hSw; go_simp <;> with_reducible rfl)
      try simp only [Act.put, List.setIfInBounds_toArray, List.set_cons_zero, List.set_cons_succ]
      refine wpAnyH_take (i := 7) (oi := { dst := some 25, op := _, type := _, pos := _, after := _, guard := _ }) (v := ?_) rfl (by kernel_rfl) (by kernel_rfl) (by kernel_rfl) (fun _ _ _ h => h) (Or.inl ⟨by rfl, ?_⟩) hHeld ?_
      rotate_left
      · (intro w hSw; have g0 := HG.out _ hSw; go_simp <;> with_reducible rfl)
      try simp only [Act.put, List.setIfInBounds_toArray, List.set_cons_zero, List.set_cons_succ]
      refine wpAnyH_take (i := 8) (oi := { dst := some 26, op := _, type := _, pos := _, after := _, guard := _ }) (v := ?_) rfl (by kernel_rfl) (by kernel_rfl) (by kernel_rfl) (fun _ _ _ h => h) (Or.inl ⟨by rfl, ?_⟩) hHeld ?_
      rotate_left
      · (intro w hSw; have g0 := HG.out _ hSw; go_simp <;> with_reducible rfl)
      try simp only [Act.put, List.setIfInBounds_toArray, List.set_cons_zero, List.set_cons_succ]
      refine wpAnyH_ready (rs := [4]) (by kernel_rfl) (by simp) ?_
      refine AllReadyH.cons (o := { dst := some 22, op := _, type := _, pos := _, after := _, guard := _ }) rfl (fun K hK => ?_) AllReadyH.nil
      go_simp
      refine (HIS.out _ (HIN.out _ hHeld)).mono ?_
      rintro e u1 ⟨rfl, hk1⟩
      have hKeep := since_step hHeld hk1
      go_wp2_with fail
      refine hK.out _ _ (by (try dsimp only); exact hKeep) (fun hHeld => ?_)
      clear hK K hKeep
      try simp only [Act.put, List.setIfInBounds_toArray, List.set_cons_zero, List.set_cons_succ]
      refine wpAnyH_ready (rs := [9]) (by kernel_rfl) (by simp) ?_
      refine AllReadyH.cons (o := { dst := some 27, op := _, type := _, pos := _, after := _, guard := _ }) rfl (fun K hK => ?_) AllReadyH.nil
      go_simp
      refine (HRI.out _ (HIN.out _ hHeld)).mono ?_
      rintro e u2 ⟨rfl, hk2⟩
      have hKeep := since_step hHeld hk2
      go_wp2_with fail
      refine hK.out _ _ (by (try dsimp only); exact hKeep) (fun hHeld => ?_)
      clear hK K hKeep
      try simp only [Act.put, List.setIfInBounds_toArray, List.set_cons_zero, List.set_cons_succ]
      refine wpAnyH_take (i := 10) (oi := { dst := some 28, op := _, type := _, pos := _, after := _, guard := _ }) (v := ?_) rfl (by kernel_rfl) (by kernel_rfl) (by kernel_rfl) (fun _ _ _ h => h) (Or.inl ⟨by rfl, ?_⟩) hHeld ?_
      rotate_left
      · (intro w hSw; have g0 := HG.out _ hSw; go_simp <;> with_reducible rfl)
      try simp only [Act.put, List.setIfInBounds_toArray, List.set_cons_zero, List.set_cons_succ]
      refine wpAnyH_take (i := 11) (oi := { dst := some 29, op := _, type := _, pos := _, after := _, guard := _ }) (v := ?_) rfl (by kernel_rfl) (by kernel_rfl) (by kernel_rfl) (fun _ _ _ h => h) (Or.inl ⟨by rfl, ?_⟩) hHeld ?_
      rotate_left
      · (intro w hSw; have g0 := HG.out _ hSw; go_simp <;> with_reducible rfl)
      try simp only [Act.put, List.setIfInBounds_toArray, List.set_cons_zero, List.set_cons_succ]
      refine wpAnyH_take (i := 12) (oi := { dst := some 30, op := _, type := _, pos := _, after := _, guard := _ }) (v := ?_) rfl (by kernel_rfl) (by kernel_rfl) (by kernel_rfl) (fun _ _ _ h => h) (Or.inl ⟨by rfl, ?_⟩) hHeld ?_
      rotate_left
      · (intro w hSw; have g0 := HG.out _ hSw; go_simp <;> with_reducible rfl)
      try simp only [Act.put, List.setIfInBounds_toArray, List.set_cons_zero, List.set_cons_succ]
      refine wpAnyH_take (i := 13) (oi := { dst := some 31, op := _, type := _, pos := _, after := _, guard := _ }) (v := ?_) rfl (by kernel_rfl) (by kernel_rfl) (by kernel_rfl) (fun _ _ _ h => h) (Or.inl ⟨by rfl, ?_⟩) hHeld ?_
      rotate_left
      · (intro w hSw; have g0 := HG.out _ hSw; go_simp <;> with_reducible rfl)
      try simp only [Act.put, List.setIfInBounds_toArray, List.set_cons_zero, List.set_cons_succ]
      refine wpAnyH_take (i := 14) (oi := { dst := some 32, op := _, type := _, pos := _, after := _, guard := _ }) (v := ?_) rfl (by kernel_rfl) (by kernel_rfl) (by kernel_rfl) (fun _ _ _ h => h) (Or.inl ⟨by rfl, ?_⟩) hHeld ?_
      rotate_left
      · (intro w hSw; have g0 := HG.out _ hSw; go_simp <;> with_reducible rfl)
      try simp only [Act.put, List.setIfInBounds_toArray, List.set_cons_zero, List.set_cons_succ]
      refine wpAnyH_take (i := 15) (oi := { dst := some 33, op := _, type := _, pos := _, after := _, guard := _ }) (v := ?_) rfl (by kernel_rfl) (by kernel_rfl) (by kernel_rfl) (fun _ _ _ h => h) (Or.inl ⟨by rfl, ?_⟩) hHeld ?_
      rotate_left
      · (intro w hSw; have g0 := HG.out _ hSw; go_simp <;> with_reducible rfl)
      try simp only [Act.put, List.setIfInBounds_toArray, List.set_cons_zero, List.set_cons_succ]
      refine wpAnyH_take (i := 16) (oi := { dst := some 34, op := _, type := _, pos := _, after := _, guard := _ }) (v := ?_) rfl (by kernel_rfl) (by kernel_rfl) (by kernel_rfl) (fun _ _ _ h => h) (Or.inl ⟨by rfl, ?_⟩) hHeld ?_
      rotate_left
      · (intro w hSw; have g0 := HG.out _ hSw; go_simp <;> with_reducible rfl)
      try simp only [Act.put, List.setIfInBounds_toArray, List.set_cons_zero, List.set_cons_succ]
      refine wpAnyH_take (i := 18) (oi := { dst := some 36, op := _, type := _, pos := _, after := _, guard := _ }) (v := ?_) rfl (by kernel_rfl) (by kernel_rfl) (by kernel_rfl) (fun _ _ _ h => h) (Or.inl ⟨by rfl, ?_⟩) hHeld ?_
      rotate_left
      · (intro w hSw; have g0 := HG.out _ hSw; go_simp <;> with_reducible rfl)
      try simp only [Act.put, List.setIfInBounds_toArray, List.set_cons_zero, List.set_cons_succ]
      refine wpAnyH_take (i := 19) (oi := { dst := some 37, op := _, type := _, pos := _, after := _, guard := _ }) (v := ?_) rfl (by kernel_rfl) (by kernel_rfl) (by kernel_rfl) (fun _ _ _ h => h) (Or.inl ⟨by rfl, ?_⟩) hHeld ?_
      rotate_left
      · (intro w hSw; have g0 := HG.out _ hSw; go_simp <;> with_reducible rfl)
      try simp only [Act.put, List.setIfInBounds_toArray, List.set_cons_zero, List.set_cons_succ]
      refine wpAnyH_take (i := 20) (oi := { dst := some 38, op := _, type := _, pos := _, after := _, guard := _ }) (v := ?_) rfl (by kernel_rfl) (by kernel_rfl) (by kernel_rfl) (fun _ _ _ h => h) (Or.inl ⟨by rfl, ?_⟩) hHeld ?_
      rotate_left
      · (intro w hSw; have g0 := HG.out _ hSw; go_simp <;> with_reducible rfl)
      try simp only [Act.put, List.setIfInBounds_toArray, List.set_cons_zero, List.set_cons_succ]
      refine wpAnyH_take (i := 21) (oi := { dst := some 39, op := _, type := _, pos := _, after := _, guard := _ }) (v := ?_) rfl (by kernel_rfl) (by kernel_rfl) (by kernel_rfl) (fun _ _ _ h => h) (Or.inl ⟨by rfl, ?_⟩) hHeld ?_
      rotate_left
      · (intro w hSw; have g0 := HG.out _ hSw; go_simp <;> with_reducible rfl)
      try simp only [Act.put, List.setIfInBounds_toArray, List.set_cons_zero, List.set_cons_succ]
      refine wpAnyH_take (i := 22) (oi := { dst := some 40, op := _, type := _, pos := _, after := _, guard := _ }) (v := ?_) rfl (by kernel_rfl) (by kernel_rfl) (by kernel_rfl) (fun _ _ _ h => h) (Or.inl ⟨by rfl, ?_⟩) hHeld ?_
      rotate_left
      · (intro w hSw; have g0 := HG.out _ hSw; go_simp <;> with_reducible rfl)
      try simp only [Act.put, List.setIfInBounds_toArray, List.set_cons_zero, List.set_cons_succ]
      refine wpAnyH_ready (rs := [17]) (by kernel_rfl) (by simp) ?_
      refine AllReadyH.cons (o := { dst := some 35, op := _, type := _, pos := _, after := _, guard := _ }) rfl (fun K hK => ?_) AllReadyH.nil
      go_simp
      refine (HGT.out _ (HIN.out _ hHeld)).mono ?_
      rintro e u3 ⟨rfl, hk3⟩
      have hKeep := since_step hHeld hk3
      go_wp2_with fail
      refine hK.out _ _ (by (try dsimp only); exact hKeep) (fun hHeld => ?_)
      clear hK K hKeep
      try simp only [Act.put, List.setIfInBounds_toArray, List.set_cons_zero, List.set_cons_succ]
      refine wpAnyH_ready (rs := [23]) (by kernel_rfl) (by simp) ?_
      refine AllReadyH.cons (o := { dst := some 41, op := _, type := _, pos := _, after := _, guard := _ }) rfl (fun K hK => ?_) AllReadyH.nil
      go_simp
      refine (HRG.out _ (HIN.out _ hHeld)).mono ?_
      rintro e u4 ⟨rfl, hk4⟩
      have hKeep := since_step hHeld hk4
      go_wp2_with fail
      refine hK.out _ _ (by (try dsimp only); exact hKeep) (fun hHeld => ?_)
      clear hK K hKeep
      try simp only [Act.put, List.setIfInBounds_toArray, List.set_cons_zero, List.set_cons_succ]
      refine wpAnyH_take (i := 24) (oi := { dst := some 42, op := _, type := _, pos := _, after := _, guard := _ }) (v := ?_) rfl (by kernel_rfl) (by kernel_rfl) (by kernel_rfl) (fun _ _ _ h => h) (Or.inl ⟨by rfl, ?_⟩) hHeld ?_
      rotate_left
      · (intro w hSw; have g0 := HG.out _ hSw; go_simp <;> with_reducible rfl)
      try simp only [Act.put, List.setIfInBounds_toArray, List.set_cons_zero, List.set_cons_succ]
      refine wpAnyH_take (i := 25) (oi := { dst := some 43, op := _, type := _, pos := _, after := _, guard := _ }) (v := ?_) rfl (by kernel_rfl) (by kernel_rfl) (by kernel_rfl) (fun _ _ _ h => h) (Or.inl ⟨by rfl, ?_⟩) hHeld ?_
      rotate_left
      · (intro w hSw; have g0 := HG.out _ hSw; go_simp <;> with_reducible rfl)
      try simp only [Act.put, List.setIfInBounds_toArray, List.set_cons_zero, List.set_cons_succ]
      refine wpAnyH_done (by kernel_rfl) ?_ _
      have hB2 := hB.trans (hHeld.mono hszr)
      have hBz2 := hBz.trans (hHeld.mono hszz)
      go_wp2_with fail
      go_roundw
      case rel => exact ⟨k + 1, by omega, by go_num, hB2, hBz2⟩
      case measure => simp [intOf]; omega
    · obtain rfl : k = TT.length := by omega
      have hTS := HTS.out _ hB
      have hT2 := hT.below hBz
      clear hT
      go_wp2_with fail
      refine (HA.out _ _ _ hT2 hTS).mono ?_
      rintro e v1 ⟨⟨A3x, c3x, rfl, own3x⟩, hb⟩
      have hB := since_step hB hb
      have hT2 := hT2.below hb
      have hTS := hTS.below hb
      clear hb
      have h3x := Sl.of_own own3x
      clear own3x
      go_wp2_with fail
      refine (HRA.out _ _ _ hT2 hTS).mono ?_
      rintro e v2 ⟨⟨A4x, c4x, rfl, own4x⟩, hb⟩
      have hB := since_step hB hb
      have hT2 := hT2.below hb
      have hTS := hTS.below hb
      have h3x := h3x.below hb
      clear hb
      have h4x := Sl.of_own own4x
      clear own4x
      clear hT2 hTS
      go_wp2_with fail
      refine (HSS.out _ _ _ _ _ h3x h4x).mono ?_
      rintro e v3 ⟨rfl, hb⟩
      have hB := since_step hB hb
      have h3x := h3x.below hb
      have h4x := h4x.below hb
      clear hb
      go_wp2_with fail
      refine (lives11_any _).mono ?_
      rintro e v4 ⟨rfl, hb⟩
      have hB := since_step hB hb
      have h3x := h3x.below hb
      have h4x := h4x.below hb
      clear hb
      go_wp2_with fail
      go_ret
      exact ⟨rfl, hB⟩

set_option maxHeartbeats 16000000 in
set_option maxRecDepth 100000 in
theorem walk_VecTurns (a0 : Option Addr) (n0 c0 : Nat) (a1 : Array Value) (w : World) (w0 : Rd w (.sl (.cat (.int .i64) (.cat (.int .i64) .nil))) [.slice a0 n0 c0]) (w1 : Rd w (.cat (.int .i64) (.cat (.int .i64) .nil)) a1.toList) :
    Calls Try.prog 4 #[.slice a0 n0 c0, .agg a1] w fun e w' => e = .returned (.bool true) ∧ Below w.heap.size w w' := by
  obtain ⟨l, rfl, hlc, hcm, hs, hq⟩ := rd_rowsP (f := Lg.cells) (fun r => rd_lgrow) w0
  obtain ⟨v, hv, hv6⟩ := rd_lgv w1
  rw [hv]
  clear hv w0 w1
  obtain ⟨L, hL⟩ : ∃ L, l.take 12 = L := ⟨_, rfl⟩
  have hL12 : L.length ≤ 12 := by rw [← hL]; simp; omega
  have hLq : ∀ y ∈ L, In64 y.qty := fun y hy => hq y (by rw [← hL] at hy; exact List.mem_of_mem_take hy)
  have hsL : Sl w a0 (rc Lg.cells L) := by rw [← hL, ← rc_take Lg.len]; exact hs.take _
  have HFW := few11_any a0 c0 l
  rw [hL] at HFW
  have HFW := Lib.hid (fun V h => HFW V hlc hcm h)
  have hB := since_alloc (Below.refl _ w) (.cells v.cells.toArray 36)
  have hV := Bk.new w v.cells.toArray 36
  have hs := hs.alloc (.cells v.cells.toArray 36)
  have hsL := hsL.alloc (.cells v.cells.toArray 36)
  have HN := Lib.hid (fun V h => vneg_any a0 c0 L V (by omega) hLq h)
  have HRN := Lib.hid (fun V h => rvneg_any a0 c0 L V (by omega) hLq h)
  have HGR := Lib.hid (fun V h => vgross_any a0 c0 L V (by omega) hLq h)
  have HRG := Lib.hid (fun V h => rvgross_any a0 c0 L V (by omega) hLq h)
  have HW := Lib.hid (fun V h => vwith_any a0 c0 L v V (by omega) hLq hv6 h)
  have HA1 := Lib.hid (fun A V h h1 => radd_1 L (by omega) hLq A a0 c0 V h h1)
  have HA2 := Lib.hid (fun A A2 V h h1 h2 => radd_2 L [v] (by omega) (by simp) hLq (by intro y hy; simp only [List.mem_singleton] at hy; subst hy; exact hv6) A a0 A2 c0 1 V h h1 h2)
  have hnl := negR_len L
  have hwl : (withR L v).2.length ≤ 8 := by
    unfold withR
    split
    · simp
    · split
      · exact addR_len _
      · exact addR_len _
  have hE : ((v.qty == 0) = false ∧ addL [L, [v]] = withR L v) ∨ ((v.qty == 0) = true ∧ v.ins < 1 ∧ addL [L, [v]] = withR L v) ∨ ((v.qty == 0) = true ∧ 1 ≤ v.ins ∧ 8 < v.ins ∧ addL [L, [v]] = withR L v) ∨ ((v.qty == 0) = true ∧ 1 ≤ v.ins ∧ v.ins ≤ 8 ∧ addL [L] = withR L v) := by
    by_cases hb : v.ins < 1 ∨ 8 < v.ins
    · have e1 := with_bad (l := L) hb
      have e2 : withR L v = (3, []) := if_pos hb
      rw [e1, e2]
      cases hq0 : (v.qty == 0) with
      | false => exact .inl ⟨rfl, rfl⟩
      | true =>
        rcases hb with hb | hb
        · exact .inr (.inl ⟨rfl, hb, rfl⟩)
        · exact .inr (.inr (.inl ⟨rfl, by omega, hb, rfl⟩))
    · unfold withR
      rw [if_neg hb]
      cases hq0 : (v.qty == 0) with
      | false => left; exact ⟨rfl, by rw [if_neg (by simpa using hq0)]⟩
      | true => right; right; right; exact ⟨rfl, by omega, by omega, by rw [if_pos (by simpa using hq0)]⟩
  obtain ⟨nn, NL, hNL⟩ : ∃ n R, negR L = (n, R) := ⟨_, _, rfl⟩
  obtain ⟨wn, WL, hWL⟩ : ∃ n R, withR L v = (n, R) := ⟨_, _, rfl⟩
  obtain ⟨ga, gb, hgr⟩ : ∃ a b, grossR L = (a, b) := ⟨_, _, rfl⟩
  rw [hNL] at HN HRN hnl
  rw [hgr] at HGR HRG
  rw [hWL] at HW hE hwl
  have hNl : NL.length ≤ 1000000 := by simp only at hnl; omega
  have hWl : WL.length ≤ 1000000 := by simp only at hwl; omega
  have HSN := Lib.hid (fun A A2 c c2 V h1 h2 => rvsame_any_self A A2 c c2 NL V hNl h1 h2)
  have HSW := Lib.hid (fun A A2 c c2 V h1 h2 => rvsame_any_self A A2 c c2 WL V hWl h1 h2)
  have hnn : (nn == nn) = true := by simp
  have hwn : (wn == wn) = true := by simp
  have hga : (ga == ga) = true := by simp
  have hgb : (gb == gb) = true := by simp
  unfold GRes at HN HRN HW
  simp only at HN HRN HW HGR HRG
  clear hnl hwl hNL hWL hgr hL hq hLq hlc hcm hv6 hNl hWl hL12
  obtain ⟨va, vq⟩ := v
  unfold Lg.val at *
  simp only [Lg.cells] at hB hV hs hsL
  simp only at *
  rcases hE with ⟨q1, hE⟩ | ⟨q1, q2, hE⟩ | ⟨q1, q2, q3, hE⟩ | ⟨q1, q2, q3, hE⟩
  · rw [hE] at HA2
    unfold GRes at HA2
    simp only at HA2
    clear hE HA1
    go_enter Try.func4, Try.ntmps4
    go_upto_region 1 with fail
    generalize hWW : w.alloc (.cells #[.int .i64 va, .int .i64 vq] 36) = W at *
    clear hWW
    go_wp2_with fail
    refine (HFW.out _ hs).mono ?_
    rintro e z1 ⟨rfl, hb⟩
    have hB := since_step hB hb
    have hV := hV.below hb
    have hs := hs.below hb
    have hsL := hsL.below hb
    clear hb
    clear hs
    go_wp2_with fail
    refine (HN.out _ hsL).mono ?_
    rintro e z2 ⟨⟨A1x, c1x, rfl, own1x⟩, hb⟩
    have hB := since_step hB hb
    have hV := hV.below hb
    have hsL := hsL.below hb
    clear hb
    have h1x := Sl.of_own own1x
    clear own1x
    go_wp2_with fail
    refine (HRN.out _ hsL).mono ?_
    rintro e z3 ⟨⟨A2x, c2x, rfl, own2x⟩, hb⟩
    have hB := since_step hB hb
    have hV := hV.below hb
    have hsL := hsL.below hb
    have h1x := h1x.below hb
    clear hb
    have h2x := Sl.of_own own2x
    clear own2x
    go_wp2_with fail
    refine (HGR.out _ hsL).mono ?_
    rintro e z4 ⟨rfl, hb⟩
    have hB := since_step hB hb
    have hV := hV.below hb
    have hsL := hsL.below hb
    have h1x := h1x.below hb
    have h2x := h2x.below hb
    clear hb
    go_wp2_with fail
    refine (HRG.out _ hsL).mono ?_
    rintro e z5 ⟨rfl, hb⟩
    have hB := since_step hB hb
    have hV := hV.below hb
    have hsL := hsL.below hb
    have h1x := h1x.below hb
    have h2x := h2x.below hb
    clear hb
    obtain ⟨lk, ck⟩ := id hV
    have k0 := ck 0
    have k1 := ck 1
    simp at k0 k1
    clear ck
    go_wp2_with fail
    refine (HW.out _ hsL).mono ?_
    rintro e z6 ⟨⟨A3x, c3x, rfl, own3x⟩, hb⟩
    have hB := since_step hB hb
    have hV := hV.below hb
    have hsL := hsL.below hb
    have h1x := h1x.below hb
    have h2x := h2x.below hb
    clear hb
    have h3x := Sl.of_own own3x
    clear own3x
    clear lk k0 k1
    obtain ⟨lk, ck⟩ := id hV
    have k0 := ck 0
    have k1 := ck 1
    simp at k0 k1
    clear ck
    go_upto_region 8 with fail
    have hX1 : Sl ((z6.alloc (.cells #[.int .i64 va, .int .i64 vq] 36)).alloc (.cells #[.slice a0 L.length c0, .slice (some ⟨z6.heap.size, 0, none⟩) 1 1] 25)) (some ⟨z6.heap.size, 0, none⟩) (rc Lg.cells [(⟨va, vq⟩ : Lg)]) := (Sl.new_ z6 (rc Lg.cells [(⟨va, vq⟩ : Lg)]) 36).alloc _
    have hX2 : Sl ((z6.alloc (.cells #[.int .i64 va, .int .i64 vq] 36)).alloc (.cells #[.slice a0 L.length c0, .slice (some ⟨z6.heap.size, 0, none⟩) 1 1] 25)) (some ⟨z6.heap.size + 1, 0, none⟩) (rc RowS.cells [(⟨a0, c0, L⟩ : RowS Lg), ⟨some ⟨z6.heap.size, 0, none⟩, 1, [⟨va, vq⟩]⟩]) := Sl.new1 z6 (.cells #[.int .i64 va, .int .i64 vq] 36) (rc RowS.cells [(⟨a0, c0, L⟩ : RowS Lg), ⟨some ⟨z6.heap.size, 0, none⟩, 1, [⟨va, vq⟩]⟩]) 25
    have hA := since_alloc (since_alloc (Below.refl z6.heap.size z6) (.cells #[.int .i64 va, .int .i64 vq] 36)) (.cells #[.slice a0 L.length c0, .slice (some ⟨z6.heap.size, 0, none⟩) 1 1] 25)
    have hV := hV.below hA
    have hsL := hsL.below hA
    have h1x := h1x.below hA
    have h2x := h2x.below hA
    have h3x := h3x.below hA
    have hB := since_step hB hA
    clear hA lk k0 k1
    generalize hWW : (z6.alloc (.cells #[.int .i64 va, .int .i64 vq] 36)).alloc (.cells #[.slice a0 L.length c0, .slice (some ⟨z6.heap.size, 0, none⟩) 1 1] 25) = U at *
    clear hWW
    obtain ⟨lk, ck⟩ := id hV
    have k0 := ck 0
    have k1 := ck 1
    simp at k0 k1
    clear ck
    go_wp2_with fail
    refine (HA2.out _ _ _ hX2 hsL hX1).mono ?_
    rintro e z7 ⟨⟨A4x, c4x, rfl, own4x⟩, hb⟩
    have hB := since_step hB hb
    have hV := hV.below hb
    have hsL := hsL.below hb
    have h1x := h1x.below hb
    have h2x := h2x.below hb
    have h3x := h3x.below hb
    have hX1 := hX1.below hb
    have hX2 := hX2.below hb
    clear hb
    have h4x := Sl.of_own own4x
    clear own4x
    clear lk k0 k1
    clear hX1 hX2 hsL hV
    go_wp2_with fail
    refine (HSN.out _ _ _ _ _ h1x h2x).mono ?_
    rintro e z8 ⟨rfl, hb⟩
    have hB := since_step hB hb
    have h1x := h1x.below hb
    have h2x := h2x.below hb
    have h3x := h3x.below hb
    have h4x := h4x.below hb
    clear hb
    go_wp2_with fail
    refine (HSW.out _ _ _ _ _ h3x h4x).mono ?_
    rintro e z9 ⟨rfl, hb⟩
    have hB := since_step hB hb
    have h1x := h1x.below hb
    have h2x := h2x.below hb
    have h3x := h3x.below hb
    have h4x := h4x.below hb
    clear hb
    go_wp2_with fail
    refine (lives11_any _).mono ?_
    rintro e z10 ⟨rfl, hb⟩
    have hB := since_step hB hb
    have h1x := h1x.below hb
    have h2x := h2x.below hb
    have h3x := h3x.below hb
    have h4x := h4x.below hb
    clear hb
    go_wp2_with fail
    go_ret
    exact ⟨rfl, hB⟩
  · rw [hE] at HA2
    unfold GRes at HA2
    simp only at HA2
    clear hE HA1
    go_enter Try.func4, Try.ntmps4
    go_upto_region 1 with fail
    generalize hWW : w.alloc (.cells #[.int .i64 va, .int .i64 vq] 36) = W at *
    clear hWW
    go_wp2_with fail
    refine (HFW.out _ hs).mono ?_
    rintro e z1 ⟨rfl, hb⟩
    have hB := since_step hB hb
    have hV := hV.below hb
    have hs := hs.below hb
    have hsL := hsL.below hb
    clear hb
    clear hs
    go_wp2_with fail
    refine (HN.out _ hsL).mono ?_
    rintro e z2 ⟨⟨A1x, c1x, rfl, own1x⟩, hb⟩
    have hB := since_step hB hb
    have hV := hV.below hb
    have hsL := hsL.below hb
    clear hb
    have h1x := Sl.of_own own1x
    clear own1x
    go_wp2_with fail
    refine (HRN.out _ hsL).mono ?_
    rintro e z3 ⟨⟨A2x, c2x, rfl, own2x⟩, hb⟩
    have hB := since_step hB hb
    have hV := hV.below hb
    have hsL := hsL.below hb
    have h1x := h1x.below hb
    clear hb
    have h2x := Sl.of_own own2x
    clear own2x
    go_wp2_with fail
    refine (HGR.out _ hsL).mono ?_
    rintro e z4 ⟨rfl, hb⟩
    have hB := since_step hB hb
    have hV := hV.below hb
    have hsL := hsL.below hb
    have h1x := h1x.below hb
    have h2x := h2x.below hb
    clear hb
    go_wp2_with fail
    refine (HRG.out _ hsL).mono ?_
    rintro e z5 ⟨rfl, hb⟩
    have hB := since_step hB hb
    have hV := hV.below hb
    have hsL := hsL.below hb
    have h1x := h1x.below hb
    have h2x := h2x.below hb
    clear hb
    obtain ⟨lk, ck⟩ := id hV
    have k0 := ck 0
    have k1 := ck 1
    simp at k0 k1
    clear ck
    go_wp2_with fail
    refine (HW.out _ hsL).mono ?_
    rintro e z6 ⟨⟨A3x, c3x, rfl, own3x⟩, hb⟩
    have hB := since_step hB hb
    have hV := hV.below hb
    have hsL := hsL.below hb
    have h1x := h1x.below hb
    have h2x := h2x.below hb
    clear hb
    have h3x := Sl.of_own own3x
    clear own3x
    clear lk k0 k1
    obtain ⟨lk, ck⟩ := id hV
    have k0 := ck 0
    have k1 := ck 1
    simp at k0 k1
    clear ck
    go_upto_region 8 with fail
    have hX1 : Sl ((z6.alloc (.cells #[.int .i64 va, .int .i64 vq] 36)).alloc (.cells #[.slice a0 L.length c0, .slice (some ⟨z6.heap.size, 0, none⟩) 1 1] 25)) (some ⟨z6.heap.size, 0, none⟩) (rc Lg.cells [(⟨va, vq⟩ : Lg)]) := (Sl.new_ z6 (rc Lg.cells [(⟨va, vq⟩ : Lg)]) 36).alloc _
    have hX2 : Sl ((z6.alloc (.cells #[.int .i64 va, .int .i64 vq] 36)).alloc (.cells #[.slice a0 L.length c0, .slice (some ⟨z6.heap.size, 0, none⟩) 1 1] 25)) (some ⟨z6.heap.size + 1, 0, none⟩) (rc RowS.cells [(⟨a0, c0, L⟩ : RowS Lg), ⟨some ⟨z6.heap.size, 0, none⟩, 1, [⟨va, vq⟩]⟩]) := Sl.new1 z6 (.cells #[.int .i64 va, .int .i64 vq] 36) (rc RowS.cells [(⟨a0, c0, L⟩ : RowS Lg), ⟨some ⟨z6.heap.size, 0, none⟩, 1, [⟨va, vq⟩]⟩]) 25
    have hA := since_alloc (since_alloc (Below.refl z6.heap.size z6) (.cells #[.int .i64 va, .int .i64 vq] 36)) (.cells #[.slice a0 L.length c0, .slice (some ⟨z6.heap.size, 0, none⟩) 1 1] 25)
    have hV := hV.below hA
    have hsL := hsL.below hA
    have h1x := h1x.below hA
    have h2x := h2x.below hA
    have h3x := h3x.below hA
    have hB := since_step hB hA
    clear hA lk k0 k1
    generalize hWW : (z6.alloc (.cells #[.int .i64 va, .int .i64 vq] 36)).alloc (.cells #[.slice a0 L.length c0, .slice (some ⟨z6.heap.size, 0, none⟩) 1 1] 25) = U at *
    clear hWW
    obtain ⟨lk, ck⟩ := id hV
    have k0 := ck 0
    have k1 := ck 1
    simp at k0 k1
    clear ck
    go_wp2_with fail
    refine (HA2.out _ _ _ hX2 hsL hX1).mono ?_
    rintro e z7 ⟨⟨A4x, c4x, rfl, own4x⟩, hb⟩
    have hB := since_step hB hb
    have hV := hV.below hb
    have hsL := hsL.below hb
    have h1x := h1x.below hb
    have h2x := h2x.below hb
    have h3x := h3x.below hb
    have hX1 := hX1.below hb
    have hX2 := hX2.below hb
    clear hb
    have h4x := Sl.of_own own4x
    clear own4x
    clear lk k0 k1
    clear hX1 hX2 hsL hV
    go_wp2_with fail
    refine (HSN.out _ _ _ _ _ h1x h2x).mono ?_
    rintro e z8 ⟨rfl, hb⟩
    have hB := since_step hB hb
    have h1x := h1x.below hb
    have h2x := h2x.below hb
    have h3x := h3x.below hb
    have h4x := h4x.below hb
    clear hb
    go_wp2_with fail
    refine (HSW.out _ _ _ _ _ h3x h4x).mono ?_
    rintro e z9 ⟨rfl, hb⟩
    have hB := since_step hB hb
    have h1x := h1x.below hb
    have h2x := h2x.below hb
    have h3x := h3x.below hb
    have h4x := h4x.below hb
    clear hb
    go_wp2_with fail
    refine (lives11_any _).mono ?_
    rintro e z10 ⟨rfl, hb⟩
    have hB := since_step hB hb
    have h1x := h1x.below hb
    have h2x := h2x.below hb
    have h3x := h3x.below hb
    have h4x := h4x.below hb
    clear hb
    go_wp2_with fail
    go_ret
    exact ⟨rfl, hB⟩
  · rw [hE] at HA2
    unfold GRes at HA2
    simp only at HA2
    clear hE HA1
    go_enter Try.func4, Try.ntmps4
    go_upto_region 1 with fail
    generalize hWW : w.alloc (.cells #[.int .i64 va, .int .i64 vq] 36) = W at *
    clear hWW
    go_wp2_with fail
    refine (HFW.out _ hs).mono ?_
    rintro e z1 ⟨rfl, hb⟩
    have hB := since_step hB hb
    have hV := hV.below hb
    have hs := hs.below hb
    have hsL := hsL.below hb
    clear hb
    clear hs
    go_wp2_with fail
    refine (HN.out _ hsL).mono ?_
    rintro e z2 ⟨⟨A1x, c1x, rfl, own1x⟩, hb⟩
    have hB := since_step hB hb
    have hV := hV.below hb
    have hsL := hsL.below hb
    clear hb
    have h1x := Sl.of_own own1x
    clear own1x
    go_wp2_with fail
    refine (HRN.out _ hsL).mono ?_
    rintro e z3 ⟨⟨A2x, c2x, rfl, own2x⟩, hb⟩
    have hB := since_step hB hb
    have hV := hV.below hb
    have hsL := hsL.below hb
    have h1x := h1x.below hb
    clear hb
    have h2x := Sl.of_own own2x
    clear own2x
    go_wp2_with fail
    refine (HGR.out _ hsL).mono ?_
    rintro e z4 ⟨rfl, hb⟩
    have hB := since_step hB hb
    have hV := hV.below hb
    have hsL := hsL.below hb
    have h1x := h1x.below hb
    have h2x := h2x.below hb
    clear hb
    go_wp2_with fail
    refine (HRG.out _ hsL).mono ?_
    rintro e z5 ⟨rfl, hb⟩
    have hB := since_step hB hb
    have hV := hV.below hb
    have hsL := hsL.below hb
    have h1x := h1x.below hb
    have h2x := h2x.below hb
    clear hb
    obtain ⟨lk, ck⟩ := id hV
    have k0 := ck 0
    have k1 := ck 1
    simp at k0 k1
    clear ck
    go_wp2_with fail
    refine (HW.out _ hsL).mono ?_
    rintro e z6 ⟨⟨A3x, c3x, rfl, own3x⟩, hb⟩
    have hB := since_step hB hb
    have hV := hV.below hb
    have hsL := hsL.below hb
    have h1x := h1x.below hb
    have h2x := h2x.below hb
    clear hb
    have h3x := Sl.of_own own3x
    clear own3x
    clear lk k0 k1
    obtain ⟨lk, ck⟩ := id hV
    have k0 := ck 0
    have k1 := ck 1
    simp at k0 k1
    clear ck
    go_upto_region 8 with fail
    have hX1 : Sl ((z6.alloc (.cells #[.int .i64 va, .int .i64 vq] 36)).alloc (.cells #[.slice a0 L.length c0, .slice (some ⟨z6.heap.size, 0, none⟩) 1 1] 25)) (some ⟨z6.heap.size, 0, none⟩) (rc Lg.cells [(⟨va, vq⟩ : Lg)]) := (Sl.new_ z6 (rc Lg.cells [(⟨va, vq⟩ : Lg)]) 36).alloc _
    have hX2 : Sl ((z6.alloc (.cells #[.int .i64 va, .int .i64 vq] 36)).alloc (.cells #[.slice a0 L.length c0, .slice (some ⟨z6.heap.size, 0, none⟩) 1 1] 25)) (some ⟨z6.heap.size + 1, 0, none⟩) (rc RowS.cells [(⟨a0, c0, L⟩ : RowS Lg), ⟨some ⟨z6.heap.size, 0, none⟩, 1, [⟨va, vq⟩]⟩]) := Sl.new1 z6 (.cells #[.int .i64 va, .int .i64 vq] 36) (rc RowS.cells [(⟨a0, c0, L⟩ : RowS Lg), ⟨some ⟨z6.heap.size, 0, none⟩, 1, [⟨va, vq⟩]⟩]) 25
    have hA := since_alloc (since_alloc (Below.refl z6.heap.size z6) (.cells #[.int .i64 va, .int .i64 vq] 36)) (.cells #[.slice a0 L.length c0, .slice (some ⟨z6.heap.size, 0, none⟩) 1 1] 25)
    have hV := hV.below hA
    have hsL := hsL.below hA
    have h1x := h1x.below hA
    have h2x := h2x.below hA
    have h3x := h3x.below hA
    have hB := since_step hB hA
    clear hA lk k0 k1
    generalize hWW : (z6.alloc (.cells #[.int .i64 va, .int .i64 vq] 36)).alloc (.cells #[.slice a0 L.length c0, .slice (some ⟨z6.heap.size, 0, none⟩) 1 1] 25) = U at *
    clear hWW
    obtain ⟨lk, ck⟩ := id hV
    have k0 := ck 0
    have k1 := ck 1
    simp at k0 k1
    clear ck
    go_wp2_with fail
    refine (HA2.out _ _ _ hX2 hsL hX1).mono ?_
    rintro e z7 ⟨⟨A4x, c4x, rfl, own4x⟩, hb⟩
    have hB := since_step hB hb
    have hV := hV.below hb
    have hsL := hsL.below hb
    have h1x := h1x.below hb
    have h2x := h2x.below hb
    have h3x := h3x.below hb
    have hX1 := hX1.below hb
    have hX2 := hX2.below hb
    clear hb
    have h4x := Sl.of_own own4x
    clear own4x
    clear lk k0 k1
    clear hX1 hX2 hsL hV
    go_wp2_with fail
    refine (HSN.out _ _ _ _ _ h1x h2x).mono ?_
    rintro e z8 ⟨rfl, hb⟩
    have hB := since_step hB hb
    have h1x := h1x.below hb
    have h2x := h2x.below hb
    have h3x := h3x.below hb
    have h4x := h4x.below hb
    clear hb
    go_wp2_with fail
    refine (HSW.out _ _ _ _ _ h3x h4x).mono ?_
    rintro e z9 ⟨rfl, hb⟩
    have hB := since_step hB hb
    have h1x := h1x.below hb
    have h2x := h2x.below hb
    have h3x := h3x.below hb
    have h4x := h4x.below hb
    clear hb
    go_wp2_with fail
    refine (lives11_any _).mono ?_
    rintro e z10 ⟨rfl, hb⟩
    have hB := since_step hB hb
    have h1x := h1x.below hb
    have h2x := h2x.below hb
    have h3x := h3x.below hb
    have h4x := h4x.below hb
    clear hb
    go_wp2_with fail
    go_ret
    exact ⟨rfl, hB⟩
  · rw [hE] at HA1
    unfold GRes at HA1
    simp only at HA1
    clear hE HA2
    go_enter Try.func4, Try.ntmps4
    go_upto_region 1 with fail
    generalize hWW : w.alloc (.cells #[.int .i64 va, .int .i64 vq] 36) = W at *
    clear hWW
    go_wp2_with fail
    refine (HFW.out _ hs).mono ?_
    rintro e z1 ⟨rfl, hb⟩
    have hB := since_step hB hb
    have hV := hV.below hb
    have hs := hs.below hb
    have hsL := hsL.below hb
    clear hb
    clear hs
    go_wp2_with fail
    refine (HN.out _ hsL).mono ?_
    rintro e z2 ⟨⟨A1x, c1x, rfl, own1x⟩, hb⟩
    have hB := since_step hB hb
    have hV := hV.below hb
    have hsL := hsL.below hb
    clear hb
    have h1x := Sl.of_own own1x
    clear own1x
    go_wp2_with fail
    refine (HRN.out _ hsL).mono ?_
    rintro e z3 ⟨⟨A2x, c2x, rfl, own2x⟩, hb⟩
    have hB := since_step hB hb
    have hV := hV.below hb
    have hsL := hsL.below hb
    have h1x := h1x.below hb
    clear hb
    have h2x := Sl.of_own own2x
    clear own2x
    go_wp2_with fail
    refine (HGR.out _ hsL).mono ?_
    rintro e z4 ⟨rfl, hb⟩
    have hB := since_step hB hb
    have hV := hV.below hb
    have hsL := hsL.below hb
    have h1x := h1x.below hb
    have h2x := h2x.below hb
    clear hb
    go_wp2_with fail
    refine (HRG.out _ hsL).mono ?_
    rintro e z5 ⟨rfl, hb⟩
    have hB := since_step hB hb
    have hV := hV.below hb
    have hsL := hsL.below hb
    have h1x := h1x.below hb
    have h2x := h2x.below hb
    clear hb
    obtain ⟨lk, ck⟩ := id hV
    have k0 := ck 0
    have k1 := ck 1
    simp at k0 k1
    clear ck
    go_wp2_with fail
    refine (HW.out _ hsL).mono ?_
    rintro e z6 ⟨⟨A3x, c3x, rfl, own3x⟩, hb⟩
    have hB := since_step hB hb
    have hV := hV.below hb
    have hsL := hsL.below hb
    have h1x := h1x.below hb
    have h2x := h2x.below hb
    clear hb
    have h3x := Sl.of_own own3x
    clear own3x
    clear lk k0 k1
    obtain ⟨lk, ck⟩ := id hV
    have k0 := ck 0
    have k1 := ck 1
    simp at k0 k1
    clear ck
    go_upto_region 8 with fail
    have hX1 : Sl ((z6.alloc (.cells #[.int .i64 va, .int .i64 vq] 36)).alloc (.cells #[.slice a0 L.length c0, .slice (some ⟨z6.heap.size, 0, none⟩) 1 1] 25)) (some ⟨z6.heap.size, 0, none⟩) (rc Lg.cells [(⟨va, vq⟩ : Lg)]) := (Sl.new_ z6 (rc Lg.cells [(⟨va, vq⟩ : Lg)]) 36).alloc _
    have hX2 : Sl ((z6.alloc (.cells #[.int .i64 va, .int .i64 vq] 36)).alloc (.cells #[.slice a0 L.length c0, .slice (some ⟨z6.heap.size, 0, none⟩) 1 1] 25)) (some ⟨z6.heap.size + 1, 0, none⟩) (rc RowS.cells [(⟨a0, c0, L⟩ : RowS Lg), ⟨some ⟨z6.heap.size, 0, none⟩, 1, [⟨va, vq⟩]⟩]) := Sl.new1 z6 (.cells #[.int .i64 va, .int .i64 vq] 36) (rc RowS.cells [(⟨a0, c0, L⟩ : RowS Lg), ⟨some ⟨z6.heap.size, 0, none⟩, 1, [⟨va, vq⟩]⟩]) 25
    have hA := since_alloc (since_alloc (Below.refl z6.heap.size z6) (.cells #[.int .i64 va, .int .i64 vq] 36)) (.cells #[.slice a0 L.length c0, .slice (some ⟨z6.heap.size, 0, none⟩) 1 1] 25)
    have hV := hV.below hA
    have hsL := hsL.below hA
    have h1x := h1x.below hA
    have h2x := h2x.below hA
    have h3x := h3x.below hA
    have hB := since_step hB hA
    clear hA lk k0 k1
    generalize hWW : (z6.alloc (.cells #[.int .i64 va, .int .i64 vq] 36)).alloc (.cells #[.slice a0 L.length c0, .slice (some ⟨z6.heap.size, 0, none⟩) 1 1] 25) = U at *
    clear hWW
    obtain ⟨lk, ck⟩ := id hV
    have k0 := ck 0
    have k1 := ck 1
    simp at k0 k1
    clear ck
    go_wp2_with fail
    have hH := Sl.new_ U (rc RowS.cells [(⟨a0, c0, L⟩ : RowS Lg)]) 25
    have hA := (Below.refl U.heap.size U).alloc (Nat.le_refl _) (.cells #[.slice a0 L.length c0] 25)
    have hV := hV.below hA
    have hsL := hsL.below hA
    have h1x := h1x.below hA
    have h2x := h2x.below hA
    have h3x := h3x.below hA
    have hX1 := hX1.below hA
    have hX2 := hX2.below hA
    have hB := since_step hB hA
    clear hA
    refine (HA1.out _ _ hH hsL).mono ?_
    rintro e z7 ⟨⟨A4x, c4x, rfl, own4x⟩, hb⟩
    have hB := since_step hB hb
    have hV := hV.below hb
    have hsL := hsL.below hb
    have h1x := h1x.below hb
    have h2x := h2x.below hb
    have h3x := h3x.below hb
    have hX1 := hX1.below hb
    have hX2 := hX2.below hb
    have hH := hH.below hb
    clear hb
    have h4x := Sl.of_own own4x
    clear own4x lk k0 k1
    clear hH
    clear hX1 hX2 hsL hV
    go_wp2_with fail
    refine (HSN.out _ _ _ _ _ h1x h2x).mono ?_
    rintro e z8 ⟨rfl, hb⟩
    have hB := since_step hB hb
    have h1x := h1x.below hb
    have h2x := h2x.below hb
    have h3x := h3x.below hb
    have h4x := h4x.below hb
    clear hb
    go_wp2_with fail
    refine (HSW.out _ _ _ _ _ h3x h4x).mono ?_
    rintro e z9 ⟨rfl, hb⟩
    have hB := since_step hB hb
    have h1x := h1x.below hb
    have h2x := h2x.below hb
    have h3x := h3x.below hb
    have h4x := h4x.below hb
    clear hb
    go_wp2_with fail
    refine (lives11_any _).mono ?_
    rintro e z10 ⟨rfl, hb⟩
    have hB := since_step hB hb
    have h1x := h1x.below hb
    have h2x := h2x.below hb
    have h3x := h3x.below hb
    have h4x := h4x.below hb
    clear hb
    go_wp2_with fail
    go_ret
    exact ⟨rfl, hB⟩

set_option maxHeartbeats 16000000 in
set_option maxRecDepth 100000 in
theorem walk_VecBack (a0 : Option Addr) (n0 c0 : Nat) (a1 : Option Addr) (n1 c1 : Nat) (w : World) (w0 : Rd w (.sl (.cat (.int .i64) (.cat (.int .i64) .nil))) [.slice a0 n0 c0]) (w1 : Rd w (.sl (.cat (.int .i64) (.cat (.int .i64) .nil))) [.slice a1 n1 c1]) :
    Calls Try.prog 5 #[.slice a0 n0 c0, .slice a1 n1 c1] w fun e w' => e = .returned (.bool true) ∧ Below w.heap.size w w' := by
  obtain ⟨l, rfl, hlc, hcm, hs, hq⟩ := rd_rowsP (f := Lg.cells) (fun r => rd_lgrow) w0
  obtain ⟨l', rfl, hlc', hcm', hs', hq'⟩ := rd_rowsP (f := Lg.cells) (fun r => rd_lgrow) w1
  clear w0 w1
  obtain ⟨L, hL⟩ : ∃ L, l.take 12 = L := ⟨_, rfl⟩
  have hL12 : L.length ≤ 12 := by rw [← hL]; simp; omega
  have hLq : ∀ y ∈ L, In64 y.qty := fun y hy => hq y (by rw [← hL] at hy; exact List.mem_of_mem_take hy)
  have hsL : Sl w a0 (rc Lg.cells L) := by rw [← hL, ← rc_take Lg.len]; exact hs.take _
  have HFW := few11_any a0 c0 l
  rw [hL] at HFW
  have HFW := Lib.hid (fun V h => HFW V hlc hcm h)
  obtain ⟨M, hM⟩ : ∃ M, l'.take 12 = M := ⟨_, rfl⟩
  have hM12 : M.length ≤ 12 := by rw [← hM]; simp; omega
  have hMq : ∀ y ∈ M, In64 y.qty := fun y hy => hq' y (by rw [← hM] at hy; exact List.mem_of_mem_take hy)
  have hsM : Sl w a1 (rc Lg.cells M) := by rw [← hM, ← rc_take Lg.len]; exact hs'.take _
  have HFM := few11_any a1 c1 l'
  rw [hM] at HFM
  have HFM := Lib.hid (fun V h => HFM V hlc' hcm' h)
  have HAB := Lib.hid (fun A V h h1 h2 => vadd_2 L M (by omega) (by omega) hLq hMq A a0 a1 c0 c1 V h h1 h2)
  have HBA := Lib.hid (fun A V h h1 h2 => vadd_2 M L (by omega) (by omega) hMq hLq A a1 a0 c1 c0 V h h1 h2)
  rw [← sum_swap] at HBA
  have hxl : (addL [L, M]).2.length ≤ 8 := addR_len _
  have hxi : isG (addL [L, M]).2 = true := addR_is _
  have hxe : (addL [L, M]).1 ≠ 0 → (addL [L, M]).2 = [] := addR_err
  obtain ⟨xn, X, hX⟩ : ∃ n R, addL [L, M] = (n, R) := ⟨_, _, rfl⟩
  have HNG := Lib.hid (fun V h => vneg_any a0 c0 L V (by omega) hLq h)
  have hnl := negR_len L
  have hni := negR_in L
  have hnk := fun h => negR_ok (l := L) h
  have hne := fun h => negR_err (l := L) h
  obtain ⟨nn, NL, hNL⟩ : ∃ n R, negR L = (n, R) := ⟨_, _, rfl⟩
  rw [hX] at HAB HBA hxl hxi hxe
  rw [hNL] at HNG hnl hni hnk hne
  simp only at hxl hxi hxe hnl hni hnk hne
  have HSX := Lib.hid (fun A A2 c c2 V h1 h2 => vsame_any A A2 c c2 X X V (by omega) h1 h2)
  rw [decide_eq_true (rfl : X = X)] at HSX
  have HIX := Lib.hid (fun A c V h => vis_any A c X V (by omega) h)
  rw [hxi] at HIX
  have hxx : (xn == xn) = true := by simp
  have hxx2 : (xn != xn) = false := by simp
  unfold GRes at HAB HBA HNG
  simp only at HAB HBA HNG
  have hB := Below.refl w.heap.size w
  have hways : (xn = 0 ∨ xn ≠ 0) ∧ (nn = 0 ∨ nn ≠ 0) := by omega
  obtain ⟨hw1, hw2⟩ := hways
  clear hX hNL hL hM hq hq' hlc hcm hlc' hcm' hxi hMq
  rcases hw1 with hw1 | hw1
  · rcases hw2 with hw2 | hw2
    · subst hw1
      clear hxe
      subst hw2
      obtain ⟨hi, hNN, _⟩ := hnk rfl
      subst hNN
      have HAN := Lib.hid (fun A A2 c2 V h h1 h2 => vadd_2 L (negG L) (by omega) (by omega) hLq hni A a0 A2 c0 c2 V h h1 h2)
      rw [sum_neg hi] at HAN
      unfold GRes at HAN
      simp only [List.length_nil] at HAN
      have HIN := Lib.hid (fun A c V h => vis_any A c (negG L) V (by omega) h)
      rw [negG_is hi] at HIN
      have HLL := Lib.hid (fun V h1 h2 => vsame_any a0 a0 c0 c0 L L V (by omega) h1 h2)
      rw [decide_eq_true (rfl : L = L)] at HLL
      have HLN := Lib.hid (fun A2 c2 V h1 h2 => vsame_any a0 A2 c0 c2 L (negG L) V (by omega) h1 h2)
      obtain ⟨b1, hb1⟩ : ∃ b, decide (L = negG L) = b := ⟨_, rfl⟩
      rw [hb1] at HLN
      have hb2 : ((L.length : Int) == 0) = b1 := by rw [← hb1, neg_self hi]; rfl
      have hb3 : (b1 == b1) = true := by simp
      generalize negG L = NL at *
      clear hi hb1 hnk hne hni hnl
      clear hLq hL12 hM12 hxl
      go_enter Try.func5, Try.ntmps5
      go_wp2_with fail
      refine (HFW.out _ hs).mono ?_
      rintro e z1 ⟨rfl, hb⟩
      have hB := since_step hB hb
      have hs := hs.below hb
      have hs' := hs'.below hb
      have hsL := hsL.below hb
      have hsM := hsM.below hb
      clear hb
      clear hs
      go_wp2_with fail
      refine (HFM.out _ hs').mono ?_
      rintro e z2 ⟨rfl, hb⟩
      have hB := since_step hB hb
      have hs' := hs'.below hb
      have hsL := hsL.below hb
      have hsM := hsM.below hb
      clear hb
      clear hs'
      go_wp2_with fail
      have hH := Sl.new_ z2 (rc RowS.cells [(⟨a0, c0, L⟩ : RowS Lg), ⟨a1, c1, M⟩]) 25
      have hA := (Below.refl z2.heap.size z2).alloc (Nat.le_refl _) (.cells #[.slice a0 L.length c0, .slice a1 M.length c1] 25)
      have hsL := hsL.below hA
      have hsM := hsM.below hA
      have hB := since_step hB hA
      clear hA
      refine (HAB.out _ _ hH hsL hsM).mono ?_
      rintro e z3 ⟨⟨A1x, c1x, rfl, own1x⟩, hb⟩
      have hB := since_step hB hb
      have hsL := hsL.below hb
      have hsM := hsM.below hb
      have hH := hH.below hb
      clear hb
      clear hH
      have h1x := Sl.of_own own1x
      clear own1x
      go_wp2_with fail
      have hH := Sl.new_ z3 (rc RowS.cells [(⟨a1, c1, M⟩ : RowS Lg), ⟨a0, c0, L⟩]) 25
      have hA := (Below.refl z3.heap.size z3).alloc (Nat.le_refl _) (.cells #[.slice a1 M.length c1, .slice a0 L.length c0] 25)
      have hsL := hsL.below hA
      have hsM := hsM.below hA
      have h1x := h1x.below hA
      have hB := since_step hB hA
      clear hA
      refine (HBA.out _ _ hH hsM hsL).mono ?_
      rintro e z4 ⟨⟨A2x, c2x, rfl, own2x⟩, hb⟩
      have hB := since_step hB hb
      have hsL := hsL.below hb
      have hsM := hsM.below hb
      have h1x := h1x.below hb
      have hH := hH.below hb
      clear hb
      clear hH
      have h2x := Sl.of_own own2x
      clear own2x
      go_wp2_with fail
      refine (HSX.out _ _ _ _ _ h1x h2x).mono ?_
      rintro e z5 ⟨rfl, hb⟩
      have hB := since_step hB hb
      have hsL := hsL.below hb
      have hsM := hsM.below hb
      have h1x := h1x.below hb
      have h2x := h2x.below hb
      clear hb
      go_wp2_with fail
      refine (HIX.out _ _ _ h1x).mono ?_
      rintro e z6 ⟨rfl, hb⟩
      have hB := since_step hB hb
      have hsL := hsL.below hb
      have hsM := hsM.below hb
      have h1x := h1x.below hb
      have h2x := h2x.below hb
      clear hb
      clear h1x h2x hsM
      go_wp2_with fail
      refine (HNG.out _ hsL).mono ?_
      rintro e z7 ⟨⟨A3x, c3x, rfl, own3x⟩, hb⟩
      have hB := since_step hB hb
      have hsL := hsL.below hb
      clear hb
      have h3x := Sl.of_own own3x
      clear own3x
      go_wp2_with fail
      have hH := Sl.new_ z7 (rc RowS.cells [(⟨a0, c0, L⟩ : RowS Lg), ⟨A3x, c3x, NL⟩]) 25
      have hA := (Below.refl z7.heap.size z7).alloc (Nat.le_refl _) (.cells #[.slice a0 L.length c0, .slice A3x NL.length c3x] 25)
      have hsL := hsL.below hA
      have h3x := h3x.below hA
      have hB := since_step hB hA
      clear hA
      refine (HAN.out _ _ _ _ hH hsL h3x).mono ?_
      rintro e z8 ⟨⟨A4x, c4x, rfl, own4x⟩, hb⟩
      have hB := since_step hB hb
      have hsL := hsL.below hb
      have h3x := h3x.below hb
      have hH := hH.below hb
      clear hb
      clear hH
      clear own4x
      go_wp2_with fail
      refine (HIN.out _ _ _ h3x).mono ?_
      rintro e z9 ⟨rfl, hb⟩
      have hB := since_step hB hb
      have hsL := hsL.below hb
      have h3x := h3x.below hb
      clear hb
      go_wp2_with fail
      refine (HLL.out _ hsL hsL).mono ?_
      rintro e z10 ⟨rfl, hb⟩
      have hB := since_step hB hb
      have hsL := hsL.below hb
      have h3x := h3x.below hb
      clear hb
      go_wp2_with fail
      refine (HLN.out _ _ _ hsL h3x).mono ?_
      rintro e z11 ⟨rfl, hb⟩
      have hB := since_step hB hb
      have hsL := hsL.below hb
      have h3x := h3x.below hb
      clear hb
      go_wp2_with fail
      refine (lives11_any _).mono ?_
      rintro e z12 ⟨rfl, hb⟩
      have hB := since_step hB hb
      have hsL := hsL.below hb
      have h3x := h3x.below hb
      clear hb
      go_wp2_with fail
      go_ret
      exact ⟨rfl, hB⟩
    · subst hw1
      clear hxe
      have hN0 := hne hw2
      subst hN0
      have hnb : (nn == 0) = false := by simpa using hw2
      simp only [List.length_nil] at HNG
      clear hnk hne hw2 hni hnl
      clear hLq hL12 hM12 hxl
      go_enter Try.func5, Try.ntmps5
      go_wp2_with fail
      refine (HFW.out _ hs).mono ?_
      rintro e z1 ⟨rfl, hb⟩
      have hB := since_step hB hb
      have hs := hs.below hb
      have hs' := hs'.below hb
      have hsL := hsL.below hb
      have hsM := hsM.below hb
      clear hb
      clear hs
      go_wp2_with fail
      refine (HFM.out _ hs').mono ?_
      rintro e z2 ⟨rfl, hb⟩
      have hB := since_step hB hb
      have hs' := hs'.below hb
      have hsL := hsL.below hb
      have hsM := hsM.below hb
      clear hb
      clear hs'
      go_wp2_with fail
      have hH := Sl.new_ z2 (rc RowS.cells [(⟨a0, c0, L⟩ : RowS Lg), ⟨a1, c1, M⟩]) 25
      have hA := (Below.refl z2.heap.size z2).alloc (Nat.le_refl _) (.cells #[.slice a0 L.length c0, .slice a1 M.length c1] 25)
      have hsL := hsL.below hA
      have hsM := hsM.below hA
      have hB := since_step hB hA
      clear hA
      refine (HAB.out _ _ hH hsL hsM).mono ?_
      rintro e z3 ⟨⟨A1x, c1x, rfl, own1x⟩, hb⟩
      have hB := since_step hB hb
      have hsL := hsL.below hb
      have hsM := hsM.below hb
      have hH := hH.below hb
      clear hb
      clear hH
      have h1x := Sl.of_own own1x
      clear own1x
      go_wp2_with fail
      have hH := Sl.new_ z3 (rc RowS.cells [(⟨a1, c1, M⟩ : RowS Lg), ⟨a0, c0, L⟩]) 25
      have hA := (Below.refl z3.heap.size z3).alloc (Nat.le_refl _) (.cells #[.slice a1 M.length c1, .slice a0 L.length c0] 25)
      have hsL := hsL.below hA
      have hsM := hsM.below hA
      have h1x := h1x.below hA
      have hB := since_step hB hA
      clear hA
      refine (HBA.out _ _ hH hsM hsL).mono ?_
      rintro e z4 ⟨⟨A2x, c2x, rfl, own2x⟩, hb⟩
      have hB := since_step hB hb
      have hsL := hsL.below hb
      have hsM := hsM.below hb
      have h1x := h1x.below hb
      have hH := hH.below hb
      clear hb
      clear hH
      have h2x := Sl.of_own own2x
      clear own2x
      go_wp2_with fail
      refine (HSX.out _ _ _ _ _ h1x h2x).mono ?_
      rintro e z5 ⟨rfl, hb⟩
      have hB := since_step hB hb
      have hsL := hsL.below hb
      have hsM := hsM.below hb
      have h1x := h1x.below hb
      have h2x := h2x.below hb
      clear hb
      go_wp2_with fail
      refine (HIX.out _ _ _ h1x).mono ?_
      rintro e z6 ⟨rfl, hb⟩
      have hB := since_step hB hb
      have hsL := hsL.below hb
      have hsM := hsM.below hb
      have h1x := h1x.below hb
      have h2x := h2x.below hb
      clear hb
      clear h1x h2x hsM
      go_wp2_with fail
      refine (HNG.out _ hsL).mono ?_
      rintro e z7 ⟨⟨A3x, c3x, rfl, own3x⟩, hb⟩
      have hB := since_step hB hb
      have hsL := hsL.below hb
      clear hb
      have h3x := Sl.of_own own3x
      clear own3x
      go_wp2_with fail
      refine (lives11_any _).mono ?_
      rintro e z8 ⟨rfl, hb⟩
      have hB := since_step hB hb
      have hsL := hsL.below hb
      have h3x := h3x.below hb
      clear hb
      go_wp2_with fail
      go_ret
      exact ⟨rfl, hB⟩
  · rcases hw2 with hw2 | hw2
    · have hX0 := hxe hw1
      subst hX0
      have hxb : (xn == 0) = false := by simpa using hw1
      have hxb2 : (xn != 0) = true := by simpa using hw1
      have hxb3 : ¬ xn = 0 := hw1
      simp only [List.length_nil] at HAB HBA HSX HIX
      clear hxe hw1
      subst hw2
      obtain ⟨hi, hNN, _⟩ := hnk rfl
      subst hNN
      have HAN := Lib.hid (fun A A2 c2 V h h1 h2 => vadd_2 L (negG L) (by omega) (by omega) hLq hni A a0 A2 c0 c2 V h h1 h2)
      rw [sum_neg hi] at HAN
      unfold GRes at HAN
      simp only [List.length_nil] at HAN
      have HIN := Lib.hid (fun A c V h => vis_any A c (negG L) V (by omega) h)
      rw [negG_is hi] at HIN
      have HLL := Lib.hid (fun V h1 h2 => vsame_any a0 a0 c0 c0 L L V (by omega) h1 h2)
      rw [decide_eq_true (rfl : L = L)] at HLL
      have HLN := Lib.hid (fun A2 c2 V h1 h2 => vsame_any a0 A2 c0 c2 L (negG L) V (by omega) h1 h2)
      obtain ⟨b1, hb1⟩ : ∃ b, decide (L = negG L) = b := ⟨_, rfl⟩
      rw [hb1] at HLN
      have hb2 : ((L.length : Int) == 0) = b1 := by rw [← hb1, neg_self hi]; rfl
      have hb3 : (b1 == b1) = true := by simp
      generalize negG L = NL at *
      clear hi hb1 hnk hne hni hnl
      clear hLq hL12 hM12 hxl
      go_enter Try.func5, Try.ntmps5
      go_wp2_with fail
      refine (HFW.out _ hs).mono ?_
      rintro e z1 ⟨rfl, hb⟩
      have hB := since_step hB hb
      have hs := hs.below hb
      have hs' := hs'.below hb
      have hsL := hsL.below hb
      have hsM := hsM.below hb
      clear hb
      clear hs
      go_wp2_with fail
      refine (HFM.out _ hs').mono ?_
      rintro e z2 ⟨rfl, hb⟩
      have hB := since_step hB hb
      have hs' := hs'.below hb
      have hsL := hsL.below hb
      have hsM := hsM.below hb
      clear hb
      clear hs'
      go_wp2_with fail
      have hH := Sl.new_ z2 (rc RowS.cells [(⟨a0, c0, L⟩ : RowS Lg), ⟨a1, c1, M⟩]) 25
      have hA := (Below.refl z2.heap.size z2).alloc (Nat.le_refl _) (.cells #[.slice a0 L.length c0, .slice a1 M.length c1] 25)
      have hsL := hsL.below hA
      have hsM := hsM.below hA
      have hB := since_step hB hA
      clear hA
      refine (HAB.out _ _ hH hsL hsM).mono ?_
      rintro e z3 ⟨⟨A1x, c1x, rfl, own1x⟩, hb⟩
      have hB := since_step hB hb
      have hsL := hsL.below hb
      have hsM := hsM.below hb
      have hH := hH.below hb
      clear hb
      clear hH
      have h1x := Sl.of_own own1x
      clear own1x
      go_wp2_with fail
      have hH := Sl.new_ z3 (rc RowS.cells [(⟨a1, c1, M⟩ : RowS Lg), ⟨a0, c0, L⟩]) 25
      have hA := (Below.refl z3.heap.size z3).alloc (Nat.le_refl _) (.cells #[.slice a1 M.length c1, .slice a0 L.length c0] 25)
      have hsL := hsL.below hA
      have hsM := hsM.below hA
      have h1x := h1x.below hA
      have hB := since_step hB hA
      clear hA
      refine (HBA.out _ _ hH hsM hsL).mono ?_
      rintro e z4 ⟨⟨A2x, c2x, rfl, own2x⟩, hb⟩
      have hB := since_step hB hb
      have hsL := hsL.below hb
      have hsM := hsM.below hb
      have h1x := h1x.below hb
      have hH := hH.below hb
      clear hb
      clear hH
      have h2x := Sl.of_own own2x
      clear own2x
      go_wp2_with fail
      refine (HSX.out _ _ _ _ _ h1x h2x).mono ?_
      rintro e z5 ⟨rfl, hb⟩
      have hB := since_step hB hb
      have hsL := hsL.below hb
      have hsM := hsM.below hb
      have h1x := h1x.below hb
      have h2x := h2x.below hb
      clear hb
      go_wp2_with fail
      refine (HIX.out _ _ _ h1x).mono ?_
      rintro e z6 ⟨rfl, hb⟩
      have hB := since_step hB hb
      have hsL := hsL.below hb
      have hsM := hsM.below hb
      have h1x := h1x.below hb
      have h2x := h2x.below hb
      clear hb
      clear h1x h2x hsM
      go_wp2_with fail
      refine (HNG.out _ hsL).mono ?_
      rintro e z7 ⟨⟨A3x, c3x, rfl, own3x⟩, hb⟩
      have hB := since_step hB hb
      have hsL := hsL.below hb
      clear hb
      have h3x := Sl.of_own own3x
      clear own3x
      go_wp2_with fail
      have hH := Sl.new_ z7 (rc RowS.cells [(⟨a0, c0, L⟩ : RowS Lg), ⟨A3x, c3x, NL⟩]) 25
      have hA := (Below.refl z7.heap.size z7).alloc (Nat.le_refl _) (.cells #[.slice a0 L.length c0, .slice A3x NL.length c3x] 25)
      have hsL := hsL.below hA
      have h3x := h3x.below hA
      have hB := since_step hB hA
      clear hA
      refine (HAN.out _ _ _ _ hH hsL h3x).mono ?_
      rintro e z8 ⟨⟨A4x, c4x, rfl, own4x⟩, hb⟩
      have hB := since_step hB hb
      have hsL := hsL.below hb
      have h3x := h3x.below hb
      have hH := hH.below hb
      clear hb
      clear hH
      clear own4x
      go_wp2_with fail
      refine (HIN.out _ _ _ h3x).mono ?_
      rintro e z9 ⟨rfl, hb⟩
      have hB := since_step hB hb
      have hsL := hsL.below hb
      have h3x := h3x.below hb
      clear hb
      go_wp2_with fail
      refine (HLL.out _ hsL hsL).mono ?_
      rintro e z10 ⟨rfl, hb⟩
      have hB := since_step hB hb
      have hsL := hsL.below hb
      have h3x := h3x.below hb
      clear hb
      go_wp2_with fail
      refine (HLN.out _ _ _ hsL h3x).mono ?_
      rintro e z11 ⟨rfl, hb⟩
      have hB := since_step hB hb
      have hsL := hsL.below hb
      have h3x := h3x.below hb
      clear hb
      go_wp2_with fail
      refine (lives11_any _).mono ?_
      rintro e z12 ⟨rfl, hb⟩
      have hB := since_step hB hb
      have hsL := hsL.below hb
      have h3x := h3x.below hb
      clear hb
      go_wp2_with fail
      go_ret
      exact ⟨rfl, hB⟩
    · have hX0 := hxe hw1
      subst hX0
      have hxb : (xn == 0) = false := by simpa using hw1
      have hxb2 : (xn != 0) = true := by simpa using hw1
      have hxb3 : ¬ xn = 0 := hw1
      simp only [List.length_nil] at HAB HBA HSX HIX
      clear hxe hw1
      have hN0 := hne hw2
      subst hN0
      have hnb : (nn == 0) = false := by simpa using hw2
      simp only [List.length_nil] at HNG
      clear hnk hne hw2 hni hnl
      clear hLq hL12 hM12 hxl
      go_enter Try.func5, Try.ntmps5
      go_wp2_with fail
      refine (HFW.out _ hs).mono ?_
      rintro e z1 ⟨rfl, hb⟩
      have hB := since_step hB hb
      have hs := hs.below hb
      have hs' := hs'.below hb
      have hsL := hsL.below hb
      have hsM := hsM.below hb
      clear hb
      clear hs
      go_wp2_with fail
      refine (HFM.out _ hs').mono ?_
      rintro e z2 ⟨rfl, hb⟩
      have hB := since_step hB hb
      have hs' := hs'.below hb
      have hsL := hsL.below hb
      have hsM := hsM.below hb
      clear hb
      clear hs'
      go_wp2_with fail
      have hH := Sl.new_ z2 (rc RowS.cells [(⟨a0, c0, L⟩ : RowS Lg), ⟨a1, c1, M⟩]) 25
      have hA := (Below.refl z2.heap.size z2).alloc (Nat.le_refl _) (.cells #[.slice a0 L.length c0, .slice a1 M.length c1] 25)
      have hsL := hsL.below hA
      have hsM := hsM.below hA
      have hB := since_step hB hA
      clear hA
      refine (HAB.out _ _ hH hsL hsM).mono ?_
      rintro e z3 ⟨⟨A1x, c1x, rfl, own1x⟩, hb⟩
      have hB := since_step hB hb
      have hsL := hsL.below hb
      have hsM := hsM.below hb
      have hH := hH.below hb
      clear hb
      clear hH
      have h1x := Sl.of_own own1x
      clear own1x
      go_wp2_with fail
      have hH := Sl.new_ z3 (rc RowS.cells [(⟨a1, c1, M⟩ : RowS Lg), ⟨a0, c0, L⟩]) 25
      have hA := (Below.refl z3.heap.size z3).alloc (Nat.le_refl _) (.cells #[.slice a1 M.length c1, .slice a0 L.length c0] 25)
      have hsL := hsL.below hA
      have hsM := hsM.below hA
      have h1x := h1x.below hA
      have hB := since_step hB hA
      clear hA
      refine (HBA.out _ _ hH hsM hsL).mono ?_
      rintro e z4 ⟨⟨A2x, c2x, rfl, own2x⟩, hb⟩
      have hB := since_step hB hb
      have hsL := hsL.below hb
      have hsM := hsM.below hb
      have h1x := h1x.below hb
      have hH := hH.below hb
      clear hb
      clear hH
      have h2x := Sl.of_own own2x
      clear own2x
      go_wp2_with fail
      refine (HSX.out _ _ _ _ _ h1x h2x).mono ?_
      rintro e z5 ⟨rfl, hb⟩
      have hB := since_step hB hb
      have hsL := hsL.below hb
      have hsM := hsM.below hb
      have h1x := h1x.below hb
      have h2x := h2x.below hb
      clear hb
      go_wp2_with fail
      refine (HIX.out _ _ _ h1x).mono ?_
      rintro e z6 ⟨rfl, hb⟩
      have hB := since_step hB hb
      have hsL := hsL.below hb
      have hsM := hsM.below hb
      have h1x := h1x.below hb
      have h2x := h2x.below hb
      clear hb
      clear h1x h2x hsM
      go_wp2_with fail
      refine (HNG.out _ hsL).mono ?_
      rintro e z7 ⟨⟨A3x, c3x, rfl, own3x⟩, hb⟩
      have hB := since_step hB hb
      have hsL := hsL.below hb
      clear hb
      have h3x := Sl.of_own own3x
      clear own3x
      go_wp2_with fail
      refine (lives11_any _).mono ?_
      rintro e z8 ⟨rfl, hb⟩
      have hB := since_step hB hb
      have hsL := hsL.below hb
      have h3x := h3x.below hb
      clear hb
      go_wp2_with fail
      go_ret
      exact ⟨rfl, hB⟩
end Go.Proofs.Ytfagpdnckmaomaa
