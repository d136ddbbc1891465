/-
  Layer 14, third part: MemberRooms, MemberParts: the walks (laid by gen_memb3.py).
-/
import Derived.Test.YtniapgcohihkhaaMemb2
namespace Go.Proofs.Ytniapgcohihkhaa
open Go.ChangeShapes Go.WideShapes Go.ChangeAt Go.RowKit
set_option linter.unusedVariables false
set_option linter.unusedSimpArgs false

theorem rd_mb {w : World} {a : Array Value} (h : Rd w (.cat (.int .i64) (.cat (.int .i64) (.cat (.int .i64) (.cat (.int .i64) .nil)))) a.toList) : ∃ v : Mb, .agg a = v.val ∧ In64 v.room ∧ In64 v.id := by
  obtain ⟨p, q, e, ⟨x, rfl, hx⟩, ⟨p2, q2, rfl, ⟨y, rfl, hy⟩, ⟨p3, q3, rfl, ⟨z, rfl, _⟩, ⟨p4, q4, rfl, ⟨t, rfl, _⟩, rfl⟩⟩⟩⟩ := h
  refine ⟨⟨x, y, z, t⟩, ?_, bd_i64 hy, bd_i64 hx⟩
  cases a
  simp at e
  subst e
  rfl

set_option maxHeartbeats 4000000 in
set_option maxRecDepth 100000 in
theorem walk_MemberRooms (a0 : Array Value) (a1 : Int) (a2 : Int) (w : World) (w0 : Rd w (.cat (.int .i64) (.cat (.int .i64) (.cat (.int .i64) (.cat (.int .i64) .nil)))) a0.toList) (w1 : (Lit.int .i64 a1).wf = true) (w2 : (Lit.int .i64 a2).wf = true) :
    Calls Try.prog 4 #[.agg a0, .int .i64 a1, .int .i64 a2] w fun e w' => e = .returned (.bool true) ∧ Below w.heap.size w w' := by
  obtain ⟨v, hv, hr, _⟩ := rd_mb w0
  rw [hv]
  clear hv w0
  have hu : In64 a1 := bd_i64 w1
  have hm : In64 a2 := bd_i64 w2
  clear w1 w2
  have hB0 := since_alloc (Below.refl _ w) (.cells v.cells.toArray 24)
  have hV0 := Mb.Bx.new w v
  obtain ⟨r, hrr⟩ : ∃ r, roomE v.room a1 a2 = r := ⟨_, rfl⟩
  have HRM := Lib.hid (fun W => room_any v a1 a2 W hr hu hm)
  have HRR := Lib.hid (fun W => rroom_any v.room a1 a2 W hr hu hm)
  have HMY := Lib.hid (fun W => may_any v W)
  rw [hrr] at HRM HRR
  clear hr hu hm hrr
  obtain ⟨id, room, phase, til⟩ := v
  unfold Mb.val at HRM HMY ⊢
  unfold Mb.cells at hB0 hV0
  simp only at HRM HMY HRR hB0 hV0 ⊢
  by_cases hp : phase = 0
  · subst hp
    have HI : Hid ((if (0 : Int) = 0 then (0 : Int) else 15) = 0) := Lib.hid (if_pos rfl)
    go_enter Try.func4, Try.ntmps4
    go_upto_region 1 with fail
    generalize hWW : w.alloc (.cells #[.int .i64 id, .int .i64 room, .int .i64 0, .int .i64 til] 24) = W at *
    clear hWW
    have hszW : w.heap.size ≤ W.heap.size := hB0.size
    have HV : Hid (∀ V, Below W.heap.size W V → Mb.Bx V w.heap.size ⟨id, room, 0, til⟩) := Lib.hid fun V hV => hV0.below hV
    obtain ⟨g0, g1, g2, g3⟩ := hV0.got
    clear hV0
    go_wp2_with fail
    clear g0 g1 g2 g3
    refine wp_region_held_drew (S := (fun V => Below W.heap.size W V)) (by kernel_rfl) (by exact (Below.refl _ _).drew) (fun hHeld => ?_)
    refine wpAnyH_take (i := 0) (oi := { dst := some 11, op := _, type := _, pos := _, after := _, guard := _ }) (v := ?_) rfl (by kernel_rfl) (by kernel_rfl) (by kernel_rfl) (fun _ _ _ h => h) (Or.inl ⟨by rfl, ?_⟩) hHeld ?_
    rotate_left
    · (intro w hSw; obtain ⟨g0, g1, g2, g3⟩ := (HV.out _ hSw).got; go_simp <;> with_reducible rfl)
    try simp only [Act.put, List.setIfInBounds_toArray, List.set_cons_zero, List.set_cons_succ]
    refine wpAnyH_take (i := 1) (oi := { dst := some 12, op := _, type := _, pos := _, after := _, guard := _ }) (v := ?_) rfl (by kernel_rfl) (by kernel_rfl) (by kernel_rfl) (fun _ _ _ h => h) (Or.inl ⟨by rfl, ?_⟩) hHeld ?_
    rotate_left
    · (intro w hSw; obtain ⟨g0, g1, g2, g3⟩ := (HV.out _ hSw).got; go_simp <;> with_reducible rfl)
    try simp only [Act.put, List.setIfInBounds_toArray, List.set_cons_zero, List.set_cons_succ]
    refine wpAnyH_take (i := 2) (oi := { dst := some 13, op := _, type := _, pos := _, after := _, guard := _ }) (v := ?_) rfl (by kernel_rfl) (by kernel_rfl) (by kernel_rfl) (fun _ _ _ h => h) (Or.inl ⟨by rfl, ?_⟩) hHeld ?_
    rotate_left
    · (intro w hSw; obtain ⟨g0, g1, g2, g3⟩ := (HV.out _ hSw).got; go_simp <;> with_reducible rfl)
    try simp only [Act.put, List.setIfInBounds_toArray, List.set_cons_zero, List.set_cons_succ]
    refine wpAnyH_take (i := 4) (oi := { dst := some 15, op := _, type := _, pos := _, after := _, guard := _ }) (v := ?_) rfl (by kernel_rfl) (by kernel_rfl) (by kernel_rfl) (fun _ _ _ h => h) (Or.inl ⟨by rfl, ?_⟩) hHeld ?_
    rotate_left
    · (intro w hSw; obtain ⟨g0, g1, g2, g3⟩ := (HV.out _ hSw).got; go_simp <;> with_reducible rfl)
    try simp only [Act.put, List.setIfInBounds_toArray, List.set_cons_zero, List.set_cons_succ]
    refine wpAnyH_take (i := 5) (oi := { dst := some 16, op := _, type := _, pos := _, after := _, guard := _ }) (v := ?_) rfl (by kernel_rfl) (by kernel_rfl) (by kernel_rfl) (fun _ _ _ h => h) (Or.inl ⟨by rfl, ?_⟩) hHeld ?_
    rotate_left
    · (intro w hSw; obtain ⟨g0, g1, g2, g3⟩ := (HV.out _ hSw).got; go_simp <;> with_reducible rfl)
    try simp only [Act.put, List.setIfInBounds_toArray, List.set_cons_zero, List.set_cons_succ]
    refine wpAnyH_take (i := 6) (oi := { dst := some 17, op := _, type := _, pos := _, after := _, guard := _ }) (v := ?_) rfl (by kernel_rfl) (by kernel_rfl) (by kernel_rfl) (fun _ _ _ h => h) (Or.inl ⟨by rfl, ?_⟩) hHeld ?_
    rotate_left
    · (intro w hSw; obtain ⟨g0, g1, g2, g3⟩ := (HV.out _ hSw).got; go_simp <;> with_reducible rfl)
    try simp only [Act.put, List.setIfInBounds_toArray, List.set_cons_zero, List.set_cons_succ]
    refine wpAnyH_take (i := 7) (oi := { dst := some 18, op := _, type := _, pos := _, after := _, guard := _ }) (v := ?_) rfl (by kernel_rfl) (by kernel_rfl) (by kernel_rfl) (fun _ _ _ h => h) (Or.inl ⟨by rfl, ?_⟩) hHeld ?_
    rotate_left
    · (intro w hSw; obtain ⟨g0, g1, g2, g3⟩ := (HV.out _ hSw).got; go_simp <;> with_reducible rfl)
    try simp only [Act.put, List.setIfInBounds_toArray, List.set_cons_zero, List.set_cons_succ]
    refine wpAnyH_ready (rs := [3]) (by kernel_rfl) (by simp) ?_
    refine AllReadyH.cons (o := { dst := some 14, op := _, type := _, pos := _, after := _, guard := _ }) rfl (fun K hK => ?_) AllReadyH.nil
    go_simp
    refine (HRM.out _).mono ?_
    rintro e r1 ⟨rfl, hk1⟩
    have hKeep := since_step hHeld hk1
    go_wp2_with fail
    refine hK.out _ _ (by (try dsimp only); exact hKeep) (fun hHeld => ?_)
    clear hK K hKeep
    try simp only [Act.put, List.setIfInBounds_toArray, List.set_cons_zero, List.set_cons_succ]
    refine wpAnyH_ready (rs := [8]) (by kernel_rfl) (by simp) ?_
    refine AllReadyH.cons (o := { dst := some 19, op := _, type := _, pos := _, after := _, guard := _ }) rfl (fun K hK => ?_) AllReadyH.nil
    go_simp
    refine (HRR.out _).mono ?_
    rintro e r2 ⟨rfl, hk2⟩
    have hKeep := since_step hHeld hk2
    go_wp2_with fail
    refine hK.out _ _ (by (try dsimp only); exact hKeep) (fun hHeld => ?_)
    clear hK K hKeep
    try simp only [Act.put, List.setIfInBounds_toArray, List.set_cons_zero, List.set_cons_succ]
    refine wpAnyH_take (i := 9) (oi := { dst := some 20, op := _, type := _, pos := _, after := _, guard := _ }) (v := ?_) rfl (by kernel_rfl) (by kernel_rfl) (by kernel_rfl) (fun _ _ _ h => h) (Or.inl ⟨by rfl, ?_⟩) hHeld ?_
    rotate_left
    · (intro w hSw; obtain ⟨g0, g1, g2, g3⟩ := (HV.out _ hSw).got; go_simp <;> with_reducible rfl)
    try simp only [Act.put, List.setIfInBounds_toArray, List.set_cons_zero, List.set_cons_succ]
    refine wpAnyH_take (i := 10) (oi := { dst := some 21, op := _, type := _, pos := _, after := _, guard := _ }) (v := ?_) rfl (by kernel_rfl) (by kernel_rfl) (by kernel_rfl) (fun _ _ _ h => h) (Or.inl ⟨by rfl, ?_⟩) hHeld ?_
    rotate_left
    · (intro w hSw; obtain ⟨g0, g1, g2, g3⟩ := (HV.out _ hSw).got; go_simp <;> with_reducible rfl)
    try simp only [Act.put, List.setIfInBounds_toArray, List.set_cons_zero, List.set_cons_succ]
    refine wpAnyH_take (i := 11) (oi := { dst := some 22, op := _, type := _, pos := _, after := _, guard := _ }) (v := ?_) rfl (by kernel_rfl) (by kernel_rfl) (by kernel_rfl) (fun _ _ _ h => h) (Or.inl ⟨by rfl, ?_⟩) hHeld ?_
    rotate_left
    · (intro w hSw; obtain ⟨g0, g1, g2, g3⟩ := (HV.out _ hSw).got; go_simp <;> with_reducible rfl)
    try simp only [Act.put, List.setIfInBounds_toArray, List.set_cons_zero, List.set_cons_succ]
    refine wpAnyH_take (i := 13) (oi := { dst := some 24, op := _, type := _, pos := _, after := _, guard := _ }) (v := ?_) rfl (by kernel_rfl) (by kernel_rfl) (by kernel_rfl) (fun _ _ _ h => h) (Or.inl ⟨by rfl, ?_⟩) hHeld ?_
    rotate_left
    · (intro w hSw; obtain ⟨g0, g1, g2, g3⟩ := (HV.out _ hSw).got; go_simp <;> with_reducible rfl)
    try simp only [Act.put, List.setIfInBounds_toArray, List.set_cons_zero, List.set_cons_succ]
    refine wpAnyH_ready (rs := [12]) (by kernel_rfl) (by simp) ?_
    refine AllReadyH.cons (o := { dst := some 23, op := _, type := _, pos := _, after := _, guard := _ }) rfl (fun K hK => ?_) AllReadyH.nil
    go_simp
    refine (HMY.out _).mono ?_
    rw [HI.out]
    rintro e r3 ⟨rfl, hk3⟩
    have hKeep := since_step hHeld hk3
    go_wp2_with fail
    refine hK.out _ _ (by (try dsimp only); exact hKeep) (fun hHeld => ?_)
    clear hK K hKeep
    try simp only [Act.put, List.setIfInBounds_toArray, List.set_cons_zero, List.set_cons_succ]
    refine wpAnyH_take (i := 14) (oi := { dst := some 25, op := _, type := _, pos := _, after := _, guard := _ }) (v := ?_) rfl (by kernel_rfl) (by kernel_rfl) (by kernel_rfl) (fun _ _ _ h => h) (Or.inl ⟨by rfl, ?_⟩) hHeld ?_
    rotate_left
    · (intro w hSw; obtain ⟨g0, g1, g2, g3⟩ := (HV.out _ hSw).got; go_simp <;> with_reducible rfl)
    try simp only [Act.put, List.setIfInBounds_toArray, List.set_cons_zero, List.set_cons_succ]
    refine wpAnyH_take (i := 15) (oi := { dst := some 26, op := _, type := _, pos := _, after := _, guard := _ }) (v := ?_) rfl (by kernel_rfl) (by kernel_rfl) (by kernel_rfl) (fun _ _ _ h => h) (Or.inl ⟨by rfl, ?_⟩) hHeld ?_
    rotate_left
    · (intro w hSw; obtain ⟨g0, g1, g2, g3⟩ := (HV.out _ hSw).got; go_simp <;> with_reducible rfl)
    try simp only [Act.put, List.setIfInBounds_toArray, List.set_cons_zero, List.set_cons_succ]
    refine wpAnyH_take (i := 16) (oi := { dst := some 27, op := _, type := _, pos := _, after := _, guard := _ }) (v := ?_) rfl (by kernel_rfl) (by kernel_rfl) (by kernel_rfl) (fun _ _ _ h => h) (Or.inl ⟨by rfl, ?_⟩) hHeld ?_
    rotate_left
    · (intro w hSw; obtain ⟨g0, g1, g2, g3⟩ := (HV.out _ hSw).got; go_simp <;> with_reducible rfl)
    try simp only [Act.put, List.setIfInBounds_toArray, List.set_cons_zero, List.set_cons_succ]
    refine wpAnyH_ready (rs := [17]) (by kernel_rfl) (by simp) ?_
    refine AllReadyH.cons (o := { dst := some 28, op := _, type := _, pos := _, after := _, guard := _ }) rfl (fun K hK => ?_) AllReadyH.nil
    go_simp
    refine (lives14_any _).mono ?_
    rintro e r4 ⟨rfl, hk4⟩
    have hKeep := since_step hHeld hk4
    go_wp2_with fail
    refine hK.out _ _ (by (try dsimp only); exact hKeep) (fun hHeld => ?_)
    clear hK K hKeep
    try simp only [Act.put, List.setIfInBounds_toArray, List.set_cons_zero, List.set_cons_succ]
    refine wpAnyH_take (i := 18) (oi := { dst := some 29, op := _, type := _, pos := _, after := _, guard := _ }) (v := ?_) rfl (by kernel_rfl) (by kernel_rfl) (by kernel_rfl) (fun _ _ _ h => h) (Or.inl ⟨by rfl, ?_⟩) hHeld ?_
    rotate_left
    · (intro w hSw; obtain ⟨g0, g1, g2, g3⟩ := (HV.out _ hSw).got; go_simp <;> with_reducible rfl)
    try simp only [Act.put, List.setIfInBounds_toArray, List.set_cons_zero, List.set_cons_succ]
    refine wpAnyH_take (i := 19) (oi := { dst := some 6, op := _, type := _, pos := _, after := _, guard := _ }) (v := ?_) rfl (by kernel_rfl) (by kernel_rfl) (by kernel_rfl) (fun _ _ _ h => h) (Or.inl ⟨by rfl, ?_⟩) hHeld ?_
    rotate_left
    · (intro w hSw; obtain ⟨g0, g1, g2, g3⟩ := (HV.out _ hSw).got; go_simp <;> with_reducible rfl)
    try simp only [Act.put, List.setIfInBounds_toArray, List.set_cons_zero, List.set_cons_succ]
    refine wpAnyH_done (by kernel_rfl) ?_ _
    have hB4 := hB0.trans (hHeld.mono hszW)
    go_wp2_with fail
    go_ret
    exact ⟨rfl, hB4⟩
  · have HI : Hid ((if phase = 0 then (0 : Int) else 15) = 15) := Lib.hid (if_neg hp)
    have hpb : (phase == 0) = false := by simpa using hp
    go_enter Try.func4, Try.ntmps4
    go_upto_region 1 with fail
    generalize hWW : w.alloc (.cells #[.int .i64 id, .int .i64 room, .int .i64 phase, .int .i64 til] 24) = W at *
    clear hWW
    have hszW : w.heap.size ≤ W.heap.size := hB0.size
    have HV : Hid (∀ V, Below W.heap.size W V → Mb.Bx V w.heap.size ⟨id, room, phase, til⟩) := Lib.hid fun V hV => hV0.below hV
    obtain ⟨g0, g1, g2, g3⟩ := hV0.got
    clear hV0
    go_wp2_with fail
    clear g0 g1 g2 g3
    refine wp_region_held_drew (S := (fun V => Below W.heap.size W V)) (by kernel_rfl) (by exact (Below.refl _ _).drew) (fun hHeld => ?_)
    refine wpAnyH_take (i := 0) (oi := { dst := some 11, op := _, type := _, pos := _, after := _, guard := _ }) (v := ?_) rfl (by kernel_rfl) (by kernel_rfl) (by kernel_rfl) (fun _ _ _ h => h) (Or.inl ⟨by rfl, ?_⟩) hHeld ?_
    rotate_left
    · (intro w hSw; obtain ⟨g0, g1, g2, g3⟩ := (HV.out _ hSw).got; go_simp <;> with_reducible rfl)
    try simp only [Act.put, List.setIfInBounds_toArray, List.set_cons_zero, List.set_cons_succ]
    refine wpAnyH_take (i := 1) (oi := { dst := some 12, op := _, type := _, pos := _, after := _, guard := _ }) (v := ?_) rfl (by kernel_rfl) (by kernel_rfl) (by kernel_rfl) (fun _ _ _ h => h) (Or.inl ⟨by rfl, ?_⟩) hHeld ?_
    rotate_left
    · (intro w hSw; obtain ⟨g0, g1, g2, g3⟩ := (HV.out _ hSw).got; go_simp <;> with_reducible rfl)
    try simp only [Act.put, List.setIfInBounds_toArray, List.set_cons_zero, List.set_cons_succ]
    refine wpAnyH_take (i := 2) (oi := { dst := some 13, op := _, type := _, pos := _, after := _, guard := _ }) (v := ?_) rfl (by kernel_rfl) (by kernel_rfl) (by kernel_rfl) (fun _ _ _ h => h) (Or.inl ⟨by rfl, ?_⟩) hHeld ?_
    rotate_left
    · (intro w hSw; obtain ⟨g0, g1, g2, g3⟩ := (HV.out _ hSw).got; go_simp <;> with_reducible rfl)
    try simp only [Act.put, List.setIfInBounds_toArray, List.set_cons_zero, List.set_cons_succ]
    refine wpAnyH_take (i := 4) (oi := { dst := some 15, op := _, type := _, pos := _, after := _, guard := _ }) (v := ?_) rfl (by kernel_rfl) (by kernel_rfl) (by kernel_rfl) (fun _ _ _ h => h) (Or.inl ⟨by rfl, ?_⟩) hHeld ?_
    rotate_left
    · (intro w hSw; obtain ⟨g0, g1, g2, g3⟩ := (HV.out _ hSw).got; go_simp <;> with_reducible rfl)
    try simp only [Act.put, List.setIfInBounds_toArray, List.set_cons_zero, List.set_cons_succ]
    refine wpAnyH_take (i := 5) (oi := { dst := some 16, op := _, type := _, pos := _, after := _, guard := _ }) (v := ?_) rfl (by kernel_rfl) (by kernel_rfl) (by kernel_rfl) (fun _ _ _ h => h) (Or.inl ⟨by rfl, ?_⟩) hHeld ?_
    rotate_left
    · (intro w hSw; obtain ⟨g0, g1, g2, g3⟩ := (HV.out _ hSw).got; go_simp <;> with_reducible rfl)
    try simp only [Act.put, List.setIfInBounds_toArray, List.set_cons_zero, List.set_cons_succ]
    refine wpAnyH_take (i := 6) (oi := { dst := some 17, op := _, type := _, pos := _, after := _, guard := _ }) (v := ?_) rfl (by kernel_rfl) (by kernel_rfl) (by kernel_rfl) (fun _ _ _ h => h) (Or.inl ⟨by rfl, ?_⟩) hHeld ?_
    rotate_left
    · (intro w hSw; obtain ⟨g0, g1, g2, g3⟩ := (HV.out _ hSw).got; go_simp <;> with_reducible rfl)
    try simp only [Act.put, List.setIfInBounds_toArray, List.set_cons_zero, List.set_cons_succ]
    refine wpAnyH_take (i := 7) (oi := { dst := some 18, op := _, type := _, pos := _, after := _, guard := _ }) (v := ?_) rfl (by kernel_rfl) (by kernel_rfl) (by kernel_rfl) (fun _ _ _ h => h) (Or.inl ⟨by rfl, ?_⟩) hHeld ?_
    rotate_left
    · (intro w hSw; obtain ⟨g0, g1, g2, g3⟩ := (HV.out _ hSw).got; go_simp <;> with_reducible rfl)
    try simp only [Act.put, List.setIfInBounds_toArray, List.set_cons_zero, List.set_cons_succ]
    refine wpAnyH_ready (rs := [3]) (by kernel_rfl) (by simp) ?_
    refine AllReadyH.cons (o := { dst := some 14, op := _, type := _, pos := _, after := _, guard := _ }) rfl (fun K hK => ?_) AllReadyH.nil
    go_simp
    refine (HRM.out _).mono ?_
    rintro e r1 ⟨rfl, hk1⟩
    have hKeep := since_step hHeld hk1
    go_wp2_with fail
    refine hK.out _ _ (by (try dsimp only); exact hKeep) (fun hHeld => ?_)
    clear hK K hKeep
    try simp only [Act.put, List.setIfInBounds_toArray, List.set_cons_zero, List.set_cons_succ]
    refine wpAnyH_ready (rs := [8]) (by kernel_rfl) (by simp) ?_
    refine AllReadyH.cons (o := { dst := some 19, op := _, type := _, pos := _, after := _, guard := _ }) rfl (fun K hK => ?_) AllReadyH.nil
    go_simp
    refine (HRR.out _).mono ?_
    rintro e r2 ⟨rfl, hk2⟩
    have hKeep := since_step hHeld hk2
    go_wp2_with fail
    refine hK.out _ _ (by (try dsimp only); exact hKeep) (fun hHeld => ?_)
    clear hK K hKeep
    try simp only [Act.put, List.setIfInBounds_toArray, List.set_cons_zero, List.set_cons_succ]
    refine wpAnyH_take (i := 9) (oi := { dst := some 20, op := _, type := _, pos := _, after := _, guard := _ }) (v := ?_) rfl (by kernel_rfl) (by kernel_rfl) (by kernel_rfl) (fun _ _ _ h => h) (Or.inl ⟨by rfl, ?_⟩) hHeld ?_
    rotate_left
    · (intro w hSw; obtain ⟨g0, g1, g2, g3⟩ := (HV.out _ hSw).got; go_simp <;> with_reducible rfl)
    try simp only [Act.put, List.setIfInBounds_toArray, List.set_cons_zero, List.set_cons_succ]
    refine wpAnyH_take (i := 10) (oi := { dst := some 21, op := _, type := _, pos := _, after := _, guard := _ }) (v := ?_) rfl (by kernel_rfl) (by kernel_rfl) (by kernel_rfl) (fun _ _ _ h => h) (Or.inl ⟨by rfl, ?_⟩) hHeld ?_
    rotate_left
    · (intro w hSw; obtain ⟨g0, g1, g2, g3⟩ := (HV.out _ hSw).got; go_simp <;> with_reducible rfl)
    try simp only [Act.put, List.setIfInBounds_toArray, List.set_cons_zero, List.set_cons_succ]
    refine wpAnyH_take (i := 11) (oi := { dst := some 22, op := _, type := _, pos := _, after := _, guard := _ }) (v := ?_) rfl (by kernel_rfl) (by kernel_rfl) (by kernel_rfl) (fun _ _ _ h => h) (Or.inl ⟨by rfl, ?_⟩) hHeld ?_
    rotate_left
    · (intro w hSw; obtain ⟨g0, g1, g2, g3⟩ := (HV.out _ hSw).got; go_simp <;> with_reducible rfl)
    try simp only [Act.put, List.setIfInBounds_toArray, List.set_cons_zero, List.set_cons_succ]
    refine wpAnyH_take (i := 13) (oi := { dst := some 24, op := _, type := _, pos := _, after := _, guard := _ }) (v := ?_) rfl (by kernel_rfl) (by kernel_rfl) (by kernel_rfl) (fun _ _ _ h => h) (Or.inl ⟨by rfl, ?_⟩) hHeld ?_
    rotate_left
    · (intro w hSw; obtain ⟨g0, g1, g2, g3⟩ := (HV.out _ hSw).got; go_simp <;> with_reducible rfl)
    try simp only [Act.put, List.setIfInBounds_toArray, List.set_cons_zero, List.set_cons_succ]
    refine wpAnyH_ready (rs := [12]) (by kernel_rfl) (by simp) ?_
    refine AllReadyH.cons (o := { dst := some 23, op := _, type := _, pos := _, after := _, guard := _ }) rfl (fun K hK => ?_) AllReadyH.nil
    go_simp
    refine (HMY.out _).mono ?_
    rw [HI.out]
    rintro e r3 ⟨rfl, hk3⟩
    have hKeep := since_step hHeld hk3
    go_wp2_with fail
    refine hK.out _ _ (by (try dsimp only); exact hKeep) (fun hHeld => ?_)
    clear hK K hKeep
    try simp only [Act.put, List.setIfInBounds_toArray, List.set_cons_zero, List.set_cons_succ]
    refine wpAnyH_take (i := 14) (oi := { dst := some 25, op := _, type := _, pos := _, after := _, guard := _ }) (v := ?_) rfl (by kernel_rfl) (by kernel_rfl) (by kernel_rfl) (fun _ _ _ h => h) (Or.inl ⟨by rfl, ?_⟩) hHeld ?_
    rotate_left
    · (intro w hSw; obtain ⟨g0, g1, g2, g3⟩ := (HV.out _ hSw).got; go_simp <;> with_reducible rfl)
    try simp only [Act.put, List.setIfInBounds_toArray, List.set_cons_zero, List.set_cons_succ]
    refine wpAnyH_take (i := 15) (oi := { dst := some 26, op := _, type := _, pos := _, after := _, guard := _ }) (v := ?_) rfl (by kernel_rfl) (by kernel_rfl) (by kernel_rfl) (fun _ _ _ h => h) (Or.inl ⟨by rfl, ?_⟩) hHeld ?_
    rotate_left
    · (intro w hSw; obtain ⟨g0, g1, g2, g3⟩ := (HV.out _ hSw).got; go_simp <;> with_reducible rfl)
    try simp only [Act.put, List.setIfInBounds_toArray, List.set_cons_zero, List.set_cons_succ]
    refine wpAnyH_take (i := 16) (oi := { dst := some 27, op := _, type := _, pos := _, after := _, guard := _ }) (v := ?_) rfl (by kernel_rfl) (by kernel_rfl) (by kernel_rfl) (fun _ _ _ h => h) (Or.inl ⟨by rfl, ?_⟩) hHeld ?_
    rotate_left
    · (intro w hSw; obtain ⟨g0, g1, g2, g3⟩ := (HV.out _ hSw).got; go_simp <;> with_reducible rfl)
    try simp only [Act.put, List.setIfInBounds_toArray, List.set_cons_zero, List.set_cons_succ]
    refine wpAnyH_ready (rs := [17]) (by kernel_rfl) (by simp) ?_
    refine AllReadyH.cons (o := { dst := some 28, op := _, type := _, pos := _, after := _, guard := _ }) rfl (fun K hK => ?_) AllReadyH.nil
    go_simp
    refine (lives14_any _).mono ?_
    rintro e r4 ⟨rfl, hk4⟩
    have hKeep := since_step hHeld hk4
    go_wp2_with fail
    refine hK.out _ _ (by (try dsimp only); exact hKeep) (fun hHeld => ?_)
    clear hK K hKeep
    try simp only [Act.put, List.setIfInBounds_toArray, List.set_cons_zero, List.set_cons_succ]
    refine wpAnyH_take (i := 18) (oi := { dst := some 29, op := _, type := _, pos := _, after := _, guard := _ }) (v := ?_) rfl (by kernel_rfl) (by kernel_rfl) (by kernel_rfl) (fun _ _ _ h => h) (Or.inl ⟨by rfl, ?_⟩) hHeld ?_
    rotate_left
    · (intro w hSw; obtain ⟨g0, g1, g2, g3⟩ := (HV.out _ hSw).got; go_simp <;> with_reducible rfl)
    try simp only [Act.put, List.setIfInBounds_toArray, List.set_cons_zero, List.set_cons_succ]
    refine wpAnyH_take (i := 19) (oi := { dst := some 6, op := _, type := _, pos := _, after := _, guard := _ }) (v := ?_) rfl (by kernel_rfl) (by kernel_rfl) (by kernel_rfl) (fun _ _ _ h => h) (Or.inl ⟨by rfl, ?_⟩) hHeld ?_
    rotate_left
    · (intro w hSw; obtain ⟨g0, g1, g2, g3⟩ := (HV.out _ hSw).got; go_simp <;> with_reducible rfl)
    try simp only [Act.put, List.setIfInBounds_toArray, List.set_cons_zero, List.set_cons_succ]
    refine wpAnyH_done (by kernel_rfl) ?_ _
    have hB4 := hB0.trans (hHeld.mono hszW)
    go_wp2_with fail
    go_ret
    exact ⟨rfl, hB4⟩

theorem rooms_parts {c u a b : Int} (hu : 0 ≤ u) (ha : 0 ≤ a) (hb : 0 ≤ b) : (roomE c u (a + b) == 0) = (roomE c u a == 0 && roomE c (u + a) b == 0) := by
  have h1 : ¬ (u < 0 ∨ a + b < 0) := by omega
  have h2 : ¬ (u < 0 ∨ a < 0) := by omega
  have h3 : ¬ (u + a < 0 ∨ b < 0) := by omega
  unfold roomE
  rw [if_neg h1, if_neg h2, if_neg h3]
  by_cases h4 : c < u + (a + b)
  · rw [if_pos h4, if_pos (show c < u + a + b by omega)]
    simp
  · rw [if_neg h4, if_neg (show ¬ c < u + a + b by omega), if_neg (show ¬ c < u + a by omega)]
    rfl
set_option maxHeartbeats 4000000 in
set_option maxRecDepth 100000 in
theorem walk_MemberParts (a0 : Array Value) (a1 : Int) (a2 : Int) (a3 : Int) (w : World) (w0 : Rd w (.cat (.int .i64) (.cat (.int .i64) (.cat (.int .i64) (.cat (.int .i64) .nil)))) a0.toList) (w1 : (Lit.int .i64 a1).wf = true) (w2 : (Lit.int .i64 a2).wf = true) (w3 : (Lit.int .i64 a3).wf = true) :
    Calls Try.prog 5 #[.agg a0, .int .i64 a1, .int .i64 a2, .int .i64 a3] w fun e w' => e = .returned (.bool true) ∧ Below w.heap.size w w' := by
  obtain ⟨v, hv, hr, _⟩ := rd_mb w0
  rw [hv]
  clear hv w0 w1 w2 w3
  have hB0 := since_alloc (Below.refl _ w) (.cells v.cells.toArray 24)
  have hV0 := Mb.Bx.new w v
  obtain ⟨id, room, phase, til⟩ := v
  by_cases b0 : a2 < 0
  · unfold Mb.val
    unfold Mb.cells at hB0
    simp only at hB0
    clear hr hV0
    go_enter Try.func5, Try.ntmps5
    go_wp2_with fail
    refine (lives14_any _).mono ?_
    rintro e w1 ⟨rfl, hb1⟩
    have hB1 := since_step hB0 hb1
    go_wp2_with fail
    go_ret
    exact ⟨rfl, hB1⟩
  by_cases b1 : a3 < 0
  · unfold Mb.val
    unfold Mb.cells at hB0
    simp only at hB0
    clear hr hV0
    go_enter Try.func5, Try.ntmps5
    go_wp2_with fail
    refine (lives14_any _).mono ?_
    rintro e w1 ⟨rfl, hb1⟩
    have hB1 := since_step hB0 hb1
    go_wp2_with fail
    go_ret
    exact ⟨rfl, hB1⟩
  by_cases b2 : a1 < 0
  · unfold Mb.val
    unfold Mb.cells at hB0
    simp only at hB0
    clear hr hV0
    go_enter Try.func5, Try.ntmps5
    go_wp2_with fail
    refine (lives14_any _).mono ?_
    rintro e w1 ⟨rfl, hb1⟩
    have hB1 := since_step hB0 hb1
    go_wp2_with fail
    go_ret
    exact ⟨rfl, hB1⟩
  by_cases b3 : 2305843009213693952 < a2
  · unfold Mb.val
    unfold Mb.cells at hB0
    simp only at hB0
    clear hr hV0
    go_enter Try.func5, Try.ntmps5
    go_wp2_with fail
    refine (lives14_any _).mono ?_
    rintro e w1 ⟨rfl, hb1⟩
    have hB1 := since_step hB0 hb1
    go_wp2_with fail
    go_ret
    exact ⟨rfl, hB1⟩
  by_cases b4 : 2305843009213693952 < a3
  · unfold Mb.val
    unfold Mb.cells at hB0
    simp only at hB0
    clear hr hV0
    go_enter Try.func5, Try.ntmps5
    go_wp2_with fail
    refine (lives14_any _).mono ?_
    rintro e w1 ⟨rfl, hb1⟩
    have hB1 := since_step hB0 hb1
    go_wp2_with fail
    go_ret
    exact ⟨rfl, hB1⟩
  by_cases b5 : 2305843009213693952 < a1
  · unfold Mb.val
    unfold Mb.cells at hB0
    simp only at hB0
    clear hr hV0
    go_enter Try.func5, Try.ntmps5
    go_wp2_with fail
    refine (lives14_any _).mono ?_
    rintro e w1 ⟨rfl, hb1⟩
    have hB1 := since_step hB0 hb1
    go_wp2_with fail
    go_ret
    exact ⟨rfl, hB1⟩
  have hs1 : In64 a1 := by unfold In64; omega
  have hs2 : In64 a2 := by unfold In64; omega
  have hs3 : In64 a3 := by unfold In64; omega
  have hs23 : In64 (a2 + a3) := by unfold In64; omega
  have hs12 : In64 (a1 + a2) := by unfold In64; omega
  have hp := rooms_parts (c := room) (u := a1) (a := a2) (b := a3) (by omega) (by omega) (by omega)
  have HR1 := Lib.hid (fun W => room_any ⟨id, room, phase, til⟩ a1 (a2 + a3) W hr hs1 hs23)
  have HR2 := Lib.hid (fun W => room_any ⟨id, room, phase, til⟩ a1 a2 W hr hs1 hs2)
  have HR3 := Lib.hid (fun W => room_any ⟨id, room, phase, til⟩ (a1 + a2) a3 W hr hs12 hs3)
  simp only at HR1 HR2 HR3
  generalize roomE room a1 (a2 + a3) = r1 at hp HR1
  generalize roomE room a1 a2 = r2 at hp HR2
  generalize roomE room (a1 + a2) a3 = r3 at hp HR3
  have HP := Lib.hid hp
  have ha1 : 0 ≤ a1 ∧ a1 ≤ 2305843009213693952 := by omega
  have ha2 : 0 ≤ a2 ∧ a2 ≤ 2305843009213693952 := by omega
  have ha3 : 0 ≤ a3 ∧ a3 ≤ 2305843009213693952 := by omega
  have HW1 := Lib.hid (show IntKind.i64.wrap (a2 + a3) = a2 + a3 from IntWalk.i64_in _ (by omega))
  have HW2 := Lib.hid (show IntKind.i64.wrap (a1 + a2) = a1 + a2 from IntWalk.i64_in _ (by omega))
  have hw1 := HW1.out
  have hw2 := HW2.out
  unfold Mb.val at HR1 HR2 HR3 ⊢
  unfold Mb.cells at hB0 hV0
  simp only at hB0 hV0
  clear hr hs1 hs2 hs3 hs23 hs12 hp ha1 ha2 ha3
  obtain ⟨g0, g1, g2, g3⟩ := hV0.got
  go_enter Try.func5, Try.ntmps5
  go_wp2_with fail
  refine (HR1.out _).mono ?_
  rintro e w1 ⟨rfl, hb1⟩
  have hB1 := since_step hB0 hb1
  have hV1 := hV0.below hb1
  clear g0 g1 g2 g3 hb1
  obtain ⟨g0, g1, g2, g3⟩ := hV1.got
  go_wp2_with fail
  refine (HR2.out _).mono ?_
  rintro e w2 ⟨rfl, hb2⟩
  have hB2 := since_step hB1 hb2
  have hV2 := hV1.below hb2
  clear g0 g1 g2 g3 hb2
  obtain ⟨g0, g1, g2, g3⟩ := hV2.got
  cases hq2 : (r2 == 0) with
  | true =>
    cases hq3 : (r3 == 0)
    all_goals
      have hqq := HP.out
      rw [hq2, hq3] at hqq
      simp only [Bool.true_and] at hqq
      go_wp2_with fail
      refine (HR3.out _).mono ?_
      rintro e w3 ⟨rfl, hb3⟩
      have hB3 := since_step hB2 hb3
      clear hb3
      go_wp2_with fail
      refine (lives14_any _).mono ?_
      rintro e w4 ⟨rfl, hb4⟩
      have hB4 := since_step hB3 hb4
      go_wp2_with fail
      go_ret
      exact ⟨rfl, hB4⟩
  | false =>
    have hqq : (r1 == 0) = false := by rw [HP.out, hq2]; rfl
    go_wp2_with fail
    refine (lives14_any _).mono ?_
    rintro e w4 ⟨rfl, hb4⟩
    have hB4 := since_step hB2 hb4
    go_wp2_with fail
    go_ret
    exact ⟨rfl, hB4⟩
end Go.Proofs.Ytniapgcohihkhaa
