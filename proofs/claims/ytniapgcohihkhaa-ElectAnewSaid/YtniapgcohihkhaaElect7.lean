/-
  Layer 16, seventh part: lives; ElectChoices: the walk (laid by gen_elect7.py).
-/
import Derived.Test.YtniapgcohihkhaaElect6
namespace Go.Proofs.Ytniapgcohihkhaa
open Go.ChangeShapes Go.WideShapes Go.ChangeAt Go.RowKit
set_option linter.unusedVariables false
set_option linter.unusedSimpArgs false

theorem rd_ch {w : World} {r : List Value} (h : Rd w (.cat (.cat (.int .i64) (.cat (.int .i64) .nil)) (.cat (.cat (.int .i64) (.cat (.int .i64) .nil)) (.cat .bool .nil))) r) : ∃ g : Ch, r = g.cells := by
  obtain ⟨p, q, rfl, ⟨p1, q1, rfl, ⟨a, rfl, _⟩, ⟨p2, q2, rfl, ⟨b, rfl, _⟩, rfl⟩⟩, ⟨p3, q3, rfl, ⟨p4, q4, rfl, ⟨c, rfl, _⟩, ⟨p5, q5, rfl, ⟨d, rfl, _⟩, rfl⟩⟩, ⟨p6, q6, rfl, ⟨e, rfl⟩, rfl⟩⟩⟩ := h
  exact ⟨⟨a, b, c, d, e⟩, rfl⟩

set_option maxHeartbeats 4000000 in
theorem lives16_any (w : World) :
    Calls Try.prog 38 #[] w fun e w' => e = .returned (.bool true) ∧ Below w.heap.size w w' := by
  have hB0 := since_alloc (since_alloc (Below.refl _ w) (.cells #[.int .i64 1, .int .i64 2] 44)) (.cells #[.int .i64 3, .int .i64 2] 44)
  have hU0 := (UAt.new w 1 2 44).below ((Below.refl _ _).alloc (Nat.le_refl _) (.cells #[.int .i64 3, .int .i64 2] 44))
  have hU1 := UAt.new (w.alloc (.cells #[.int .i64 1, .int .i64 2] 44)) 3 2 44
  rw [World.size_alloc] at hU1
  have H1 : Hid (electR [] 1 2 3 2 = (0, [⟨1, 2, 3, 2, false⟩])) := Lib.hid (by decide)
  have H2 : Hid (agreeR [⟨1, 2, 3, 2, false⟩] 1 2 3 2 = (0, [⟨1, 2, 3, 2, true⟩])) := Lib.hid (by decide)
  have H3 : Hid (readyR [⟨1, 2, 3, 2, true⟩] 1 2 = (3, 2, 0)) := Lib.hid (by decide)
  go_enter Try.func38, Try.ntmps38
  go_wp2_with fail
  refine (eelect_any none 0 [] 1 2 3 2 _ (by decide) Sl.nil).mono ?_
  rw [H1.out]
  rintro e w1 ⟨⟨A1, c1, rfl, hown1⟩, hb1⟩
  have hB1 := since_step hB0 hb1
  have hU0 := hU0.below hb1
  have hU1 := hU1.below hb1
  have hs1 := Sl.of_own hown1
  obtain ⟨u0, u1, u2⟩ := id hU0
  obtain ⟨v0, v1, v2⟩ := id hU1
  clear hb1 hown1
  go_wp2_with fail
  refine (eagree_any A1 c1 [⟨1, 2, 3, 2, false⟩] 1 2 3 2 _ (by decide) hs1).mono ?_
  rw [H2.out]
  rintro e w2 ⟨⟨A2, c2, rfl, hown2⟩, hb2⟩
  have hB2 := since_step hB1 hb2
  have hU0 := hU0.below hb2
  have hU1 := hU1.below hb2
  have hs2 := Sl.of_own hown2
  clear u0 u1 u2 v0 v1 v2 hb2 hown2 hs1
  obtain ⟨u0, u1, u2⟩ := id hU0
  obtain ⟨v0, v1, v2⟩ := id hU1
  go_wp2_with fail
  refine (eready_any A2 c2 [⟨1, 2, 3, 2, true⟩] 1 2 _ (by decide) hs2).mono ?_
  rw [H3.out]
  unfold unitV
  rintro e w3 ⟨rfl, hb3⟩
  have hB3 := since_step hB2 hb3
  have hU1 := hU1.below hb3
  clear u0 u1 u2 v0 v1 v2 hb3
  obtain ⟨v0, v1, v2⟩ := id hU1
  have hcs := @cell_set
  go_wp2_with fail
  go_ret
  refine ⟨rfl, ?_⟩
  repeat' (first | with_reducible exact hB3 | with_reducible refine Below.drew ?_ | with_reducible refine Below.setCell ?_ ?_ _ | with_reducible refine Below.alloc ?_ ?_ _)
  all_goals (have h9 := hB3.size; first | omega | (simp; done) | (simp; omega))

theorem same_self (A A2 : Option Addr) (cap cap2 : Nat) (l : List Ch) (w : World) (hl : l.length ≤ 1000000) (hs : Sl w A (rc Ch.cells l)) (hs2 : Sl w A2 (rc Ch.cells l)) :
    Calls Try.prog 27 #[.slice A l.length cap, .slice A2 l.length cap2] w fun e w' => e = .returned (.bool true) ∧ Below w.heap.size w w' :=
  (same_any A A2 cap cap2 l l w hl hs hs2).mono fun _ _ ⟨he, hw⟩ => ⟨by rw [he, decide_eq_true rfl], hw⟩

theorem electR_len (l : List Ch) (a c ta tc : Int) : (electR l a c ta tc).2.length ≤ l.length + 1 := by
  unfold electR
  split
  · simp
  · split
    · simp
    · exact length_putR _ _
theorem agreeR_len (l : List Ch) (a c ta tc : Int) : (agreeR l a c ta tc).2.length ≤ l.length + 1 := by
  unfold agreeR
  split
  · simp
  · split
    · simp
    · split
      · exact length_putR _ _
      · simp
set_option maxHeartbeats 8000000 in
set_option maxRecDepth 100000 in
theorem walk_ElectChoices (a0 : Option Addr) (n0 c0 : Nat) (a1 : Array Value) (a2 : Array Value) (w : World) (w0 : Rd w (.sl (.cat (.cat (.int .i64) (.cat (.int .i64) .nil)) (.cat (.cat (.int .i64) (.cat (.int .i64) .nil)) (.cat .bool .nil)))) [.slice a0 n0 c0]) (w1 : Rd w (.cat (.int .i64) (.cat (.int .i64) .nil)) a1.toList) (w2 : Rd w (.cat (.int .i64) (.cat (.int .i64) .nil)) a2.toList) :
    Calls Try.prog 7 #[.slice a0 n0 c0, .agg a1, .agg a2] w fun e w' => e = .returned (.bool true) ∧ Below w.heap.size w w' := by
  obtain ⟨l0, rfl, hn0, hcm, hsl⟩ := rd_rows (f := Ch.cells) (fun r => rd_ch) w0
  obtain ⟨a, c, rfl⟩ := rd_two w1
  obtain ⟨ta, tc, rfl⟩ := rd_two w2
  clear w0 w1 w2
  have hBW := since_alloc (since_alloc (Below.refl _ w) (.cells #[.int .i64 a, .int .i64 c] 44)) (.cells #[.int .i64 ta, .int .i64 tc] 44)
  have hU0 := (UAt.new w a c 44).below ((Below.refl _ _).alloc (Nat.le_refl _) (.cells #[.int .i64 ta, .int .i64 tc] 44))
  have hU1 := UAt.new (w.alloc (.cells #[.int .i64 a, .int .i64 c] 44)) ta tc 44
  rw [World.size_alloc] at hU1
  have hs0 := (hsl.alloc (.cells #[.int .i64 a, .int .i64 c] 44)).alloc (.cells #[.int .i64 ta, .int .i64 tc] 44)
  have HFW := Lib.hid (few_any a0 c0 l0 ((w.alloc (.cells #[.int .i64 a, .int .i64 c] 44)).alloc (.cells #[.int .i64 ta, .int .i64 tc] 44)) hn0 hcm hs0)
  have hl20 : (l0.take 20).length ≤ 20 := by simp; omega
  have hs1 : Sl ((w.alloc (.cells #[.int .i64 a, .int .i64 c] 44)).alloc (.cells #[.int .i64 ta, .int .i64 tc] 44)) a0 (rc Ch.cells (l0.take 20)) := by
    rw [← rc_take Ch.len]; exact hs0.take _
  clear hs0 hsl
  go_enter Try.func7, Try.ntmps7
  go_wp2_with fail
  refine HFW.out.mono ?_
  rintro e _ ⟨rfl, rfl⟩
  generalize l0.take 20 = l at *
  generalize ((w.alloc (.cells #[.int .i64 a, .int .i64 c] 44)).alloc (.cells #[.int .i64 ta, .int .i64 tc] 44)) = W at *
  generalize a0 = A at *
  generalize c0 = cap at *
  have hszW : w.heap.size ≤ W.heap.size := hBW.size
  have HL : Hid (∀ V, Below W.heap.size W V → Sl V A (rc Ch.cells l)) := Lib.hid fun V hV => hs1.below hV
  have HU0 : Hid (∀ V, Below W.heap.size W V → UAt V w.heap.size a c) := Lib.hid fun V hV => hU0.below hV
  have HU1 : Hid (∀ V, Below W.heap.size W V → UAt V (w.heap.size + 1) ta tc) := Lib.hid fun V hV => hU1.below hV
  obtain ⟨q, hq⟩ : ∃ q, isC l = q := ⟨_, rfl⟩
  have HQ := Lib.hid hq
  obtain ⟨pv, hpv⟩ : ∃ v, findC l a c = v := ⟨_, rfl⟩
  obtain ⟨pq, hpq⟩ : ∃ v, hasC l a c = v := ⟨_, rfl⟩
  have HPV := Lib.hid hpv
  have HPQ := Lib.hid hpq
  obtain ⟨r1, r2, r3, hr⟩ : ∃ x y z, readyR l a c = (x, y, z) := ⟨_, _, _, rfl⟩
  have HR := Lib.hid hr
  have hel := electR_len l a c ta tc
  have hag := agreeR_len l a c ta tc
  have hrl : ∀ m : List Ch, m.length ≤ l.length + 1 → m.length ≤ 1000000 := fun m h => by omega
  have hqq : (q != q) = false := by simp
  clear hs1 hU0 hU1 hq hpv hpq hr HFW hn0 hcm
  go_wp2_with fail
  refine wp_region_held_drew (S := (fun V => Below W.heap.size W V)) (by kernel_rfl) (by exact (Below.refl _ _).drew) (fun hHeld => ?_)
  refine wpAnyH_take (i := 0) (oi := { dst := some 25, op := _, type := _, pos := _, after := _, guard := _ }) (v := ?_) rfl (by kernel_rfl) (by kernel_rfl) (by kernel_rfl) (fun _ _ _ h => h) (Or.inl ⟨by rfl, ?_⟩) hHeld ?_
  rotate_left
  · (intro w hSw; obtain ⟨u0, u1, u2⟩ := HU0.out _ hSw; obtain ⟨v0, v1, v2⟩ := HU1.out _ hSw; go_simp <;> with_reducible rfl)
  try simp only [Act.put, List.setIfInBounds_toArray, List.set_cons_zero, List.set_cons_succ]
  refine wpAnyH_take (i := 2) (oi := { dst := some 27, op := _, type := _, pos := _, after := _, guard := _ }) (v := ?_) rfl (by kernel_rfl) (by kernel_rfl) (by kernel_rfl) (fun _ _ _ h => h) (Or.inl ⟨by rfl, ?_⟩) hHeld ?_
  rotate_left
  · (intro w hSw; obtain ⟨u0, u1, u2⟩ := HU0.out _ hSw; obtain ⟨v0, v1, v2⟩ := HU1.out _ hSw; go_simp <;> with_reducible rfl)
  try simp only [Act.put, List.setIfInBounds_toArray, List.set_cons_zero, List.set_cons_succ]
  refine wpAnyH_ready (rs := [1]) (by kernel_rfl) (by simp) ?_
  refine AllReadyH.cons (o := { dst := some 26, op := _, type := _, pos := _, after := _, guard := _ }) rfl (fun K hK => ?_) AllReadyH.nil
  go_simp
  refine (eis_any A cap l _ (by omega) (HL.out _ hHeld)).mono ?_
  rintro e y1 ⟨rfl, hk1⟩
  have hKeep := since_step hHeld hk1
  rw [HQ.out]
  go_wp2_with fail
  refine hK.out _ _ (by (try dsimp only); exact hKeep) (fun hHeld => ?_)
  clear hK K hKeep
  try simp only [Act.put, List.setIfInBounds_toArray, List.set_cons_zero, List.set_cons_succ]
  refine wpAnyH_ready (rs := [3]) (by kernel_rfl) (by simp) ?_
  refine AllReadyH.cons (o := { dst := some 28, op := _, type := _, pos := _, after := _, guard := _ }) rfl (fun K hK => ?_) AllReadyH.nil
  go_simp
  refine (ris_any A cap l _ (by omega) (HL.out _ hHeld)).mono ?_
  rintro e y2 ⟨rfl, hk2⟩
  have hKeep := since_step hHeld hk2
  rw [HQ.out]
  go_wp2_with fail
  refine hK.out _ _ (by (try dsimp only); exact hKeep) (fun hHeld => ?_)
  clear hK K hKeep
  try simp only [Act.put, List.setIfInBounds_toArray, List.set_cons_zero, List.set_cons_succ]
  refine wpAnyH_take (i := 4) (oi := { dst := some 29, op := _, type := _, pos := _, after := _, guard := _ }) (v := ?_) rfl (by kernel_rfl) (by kernel_rfl) (by kernel_rfl) (fun _ _ _ h => h) (Or.inl ⟨by rfl, ?_⟩) hHeld ?_
  rotate_left
  · (intro w hSw; obtain ⟨u0, u1, u2⟩ := HU0.out _ hSw; obtain ⟨v0, v1, v2⟩ := HU1.out _ hSw; go_simp <;> with_reducible rfl)
  try simp only [Act.put, List.setIfInBounds_toArray, List.set_cons_zero, List.set_cons_succ]
  refine wpAnyH_take (i := 5) (oi := { dst := some 30, op := _, type := _, pos := _, after := _, guard := _ }) (v := ?_) rfl (by kernel_rfl) (by kernel_rfl) (by kernel_rfl) (fun _ _ _ h => h) (Or.inl ⟨by rfl, ?_⟩) hHeld ?_
  rotate_left
  · (intro w hSw; obtain ⟨u0, u1, u2⟩ := HU0.out _ hSw; obtain ⟨v0, v1, v2⟩ := HU1.out _ hSw; go_simp <;> with_reducible rfl)
  try simp only [Act.put, List.setIfInBounds_toArray, List.set_cons_zero, List.set_cons_succ]
  refine wpAnyH_take (i := 6) (oi := { dst := some 31, op := _, type := _, pos := _, after := _, guard := _ }) (v := ?_) rfl (by kernel_rfl) (by kernel_rfl) (by kernel_rfl) (fun _ _ _ h => h) (Or.inl ⟨by rfl, ?_⟩) hHeld ?_
  rotate_left
  · (intro w hSw; obtain ⟨u0, u1, u2⟩ := HU0.out _ hSw; obtain ⟨v0, v1, v2⟩ := HU1.out _ hSw; go_simp <;> with_reducible rfl)
  try simp only [Act.put, List.setIfInBounds_toArray, List.set_cons_zero, List.set_cons_succ]
  refine wpAnyH_take (i := 7) (oi := { dst := some 32, op := _, type := _, pos := _, after := _, guard := _ }) (v := ?_) rfl (by kernel_rfl) (by kernel_rfl) (by kernel_rfl) (fun _ _ _ h => h) (Or.inl ⟨by rfl, ?_⟩) hHeld ?_
  rotate_left
  · (intro w hSw; obtain ⟨u0, u1, u2⟩ := HU0.out _ hSw; obtain ⟨v0, v1, v2⟩ := HU1.out _ hSw; go_simp <;> with_reducible rfl)
  try simp only [Act.put, List.setIfInBounds_toArray, List.set_cons_zero, List.set_cons_succ]
  refine wpAnyH_take (i := 9) (oi := { dst := some 34, op := _, type := _, pos := _, after := _, guard := _ }) (v := ?_) rfl (by kernel_rfl) (by kernel_rfl) (by kernel_rfl) (fun _ _ _ h => h) (Or.inl ⟨by rfl, ?_⟩) hHeld ?_
  rotate_left
  · (intro w hSw; obtain ⟨u0, u1, u2⟩ := HU0.out _ hSw; obtain ⟨v0, v1, v2⟩ := HU1.out _ hSw; go_simp <;> with_reducible rfl)
  try simp only [Act.put, List.setIfInBounds_toArray, List.set_cons_zero, List.set_cons_succ]
  refine wpAnyH_take (i := 10) (oi := { dst := some 35, op := _, type := _, pos := _, after := _, guard := _ }) (v := ?_) rfl (by kernel_rfl) (by kernel_rfl) (by kernel_rfl) (fun _ _ _ h => h) (Or.inl ⟨by rfl, ?_⟩) hHeld ?_
  rotate_left
  · (intro w hSw; obtain ⟨u0, u1, u2⟩ := HU0.out _ hSw; obtain ⟨v0, v1, v2⟩ := HU1.out _ hSw; go_simp <;> with_reducible rfl)
  try simp only [Act.put, List.setIfInBounds_toArray, List.set_cons_zero, List.set_cons_succ]
  refine wpAnyH_ready (rs := [8]) (by kernel_rfl) (by simp) ?_
  refine AllReadyH.cons (o := { dst := some 33, op := _, type := _, pos := _, after := _, guard := _ }) rfl (fun K hK => ?_) AllReadyH.nil
  go_simp
  refine (edrop_any A cap l a c _ (by omega) (HL.out _ hHeld)).mono ?_
  rintro e y3 ⟨⟨A3, c3, rfl, hown3⟩, hk3⟩
  have hKeep := since_step hHeld hk3
  have hs3 := Sl.of_own hown3
  go_wp2_with fail
  refine hK.out _ _ (by (try dsimp only); exact hKeep) (fun hHeld => ?_)
  clear hK K hKeep
  try simp only [Act.put, List.setIfInBounds_toArray, List.set_cons_zero, List.set_cons_succ]
  refine wpAnyH_ready (rs := [11]) (by kernel_rfl) (by simp) ?_
  refine AllReadyH.cons (o := { dst := some 36, op := _, type := _, pos := _, after := _, guard := _ }) rfl (fun K hK => ?_) AllReadyH.nil
  go_simp
  refine (rdrop_any A cap l a c _ (by omega) (HL.out _ hHeld)).mono ?_
  rintro e y4 ⟨⟨A4, c4, rfl, hown4⟩, hk4⟩
  have hKeep := since_step hHeld hk4
  have hs3 := hs3.below hk4
  have hs4 := Sl.of_own hown4
  go_wp2_with fail
  refine hK.out _ _ (by (try dsimp only); exact hKeep) (fun hHeld => ?_)
  clear hK K hKeep
  try simp only [Act.put, List.setIfInBounds_toArray, List.set_cons_zero, List.set_cons_succ]
  refine wpAnyH_ready (rs := [12]) (by kernel_rfl) (by simp) ?_
  refine AllReadyH.cons (o := { dst := some 37, op := _, type := _, pos := _, after := _, guard := _ }) rfl (fun K hK => ?_) AllReadyH.nil
  go_simp
  refine (same_self A3 A4 c3 c4 (dropC l a c) _ (Nat.le_trans (dropC_len _ _ _) (by omega)) hs3 hs4).mono ?_
  rintro e y5 ⟨rfl, hk5⟩
  have hKeep := since_step hHeld hk5
  go_wp2_with fail
  refine hK.out _ _ (by (try dsimp only); exact hKeep) (fun hHeld => ?_)
  clear hK K hKeep
  try simp only [Act.put, List.setIfInBounds_toArray, List.set_cons_zero, List.set_cons_succ]
  refine wpAnyH_take (i := 13) (oi := { dst := some 38, op := _, type := _, pos := _, after := _, guard := _ }) (v := ?_) rfl (by kernel_rfl) (by kernel_rfl) (by kernel_rfl) (fun _ _ _ h => h) (Or.inl ⟨by rfl, ?_⟩) hHeld ?_
  rotate_left
  · (intro w hSw; obtain ⟨u0, u1, u2⟩ := HU0.out _ hSw; obtain ⟨v0, v1, v2⟩ := HU1.out _ hSw; go_simp <;> with_reducible rfl)
  try simp only [Act.put, List.setIfInBounds_toArray, List.set_cons_zero, List.set_cons_succ]
  refine wpAnyH_take (i := 14) (oi := { dst := some 39, op := _, type := _, pos := _, after := _, guard := _ }) (v := ?_) rfl (by kernel_rfl) (by kernel_rfl) (by kernel_rfl) (fun _ _ _ h => h) (Or.inl ⟨by rfl, ?_⟩) hHeld ?_
  rotate_left
  · (intro w hSw; obtain ⟨u0, u1, u2⟩ := HU0.out _ hSw; obtain ⟨v0, v1, v2⟩ := HU1.out _ hSw; go_simp <;> with_reducible rfl)
  try simp only [Act.put, List.setIfInBounds_toArray, List.set_cons_zero, List.set_cons_succ]
  refine wpAnyH_done (by kernel_rfl) ?_ _
  have hB3 := hBW.trans (hHeld.mono hszW)
  have hs := HL.out _ hHeld
  have hU0 := HU0.out _ hHeld
  have hU1 := HU1.out _ hHeld
  obtain ⟨u0, u1, u2⟩ := id hU0
  obtain ⟨v0, v1, v2⟩ := id hU1
  have hcs := @cell_set
  go_wp2_with fail
  refine (eelect_any A cap l a c ta tc _ (by omega) hs).mono ?_
  rintro e z1 ⟨⟨AX1, cX1, rfl, hown⟩, hb⟩
  have hX1 := Sl.of_own hown
  have hB3 := since_step hB3 hb
  have hs := hs.below hb
  have hU0 := hU0.below hb
  have hU1 := hU1.below hb
  clear hb u0 u1 u2 v0 v1 v2
  clear hown
  obtain ⟨u0, u1, u2⟩ := id hU0
  obtain ⟨v0, v1, v2⟩ := id hU1
  go_wp2_with fail
  refine (relect_any A cap l a c ta tc _ (by omega) hs).mono ?_
  rintro e z2 ⟨⟨AX2, cX2, rfl, hown⟩, hb⟩
  have hX2 := Sl.of_own hown
  have hB3 := since_step hB3 hb
  have hs := hs.below hb
  have hU0 := hU0.below hb
  have hU1 := hU1.below hb
  have hX1 := hX1.below hb
  clear hb u0 u1 u2 v0 v1 v2
  clear hown
  obtain ⟨u0, u1, u2⟩ := id hU0
  obtain ⟨v0, v1, v2⟩ := id hU1
  go_wp2_with fail
  refine (eagree_any A cap l a c ta tc _ (by omega) hs).mono ?_
  rintro e z3 ⟨⟨AX3, cX3, rfl, hown⟩, hb⟩
  have hX3 := Sl.of_own hown
  have hB3 := since_step hB3 hb
  have hs := hs.below hb
  have hU0 := hU0.below hb
  have hU1 := hU1.below hb
  have hX1 := hX1.below hb
  have hX2 := hX2.below hb
  clear hb u0 u1 u2 v0 v1 v2
  clear hown
  obtain ⟨u0, u1, u2⟩ := id hU0
  obtain ⟨v0, v1, v2⟩ := id hU1
  go_wp2_with fail
  refine (ragree_any A cap l a c ta tc _ (by omega) hs).mono ?_
  rintro e z4 ⟨⟨AX4, cX4, rfl, hown⟩, hb⟩
  have hX4 := Sl.of_own hown
  have hB3 := since_step hB3 hb
  have hs := hs.below hb
  have hU0 := hU0.below hb
  have hU1 := hU1.below hb
  have hX1 := hX1.below hb
  have hX2 := hX2.below hb
  have hX3 := hX3.below hb
  clear hb u0 u1 u2 v0 v1 v2
  clear hown
  obtain ⟨u0, u1, u2⟩ := id hU0
  obtain ⟨v0, v1, v2⟩ := id hU1
  go_wp2_with fail
  refine (efind_any A cap l a c _ (by omega) hs).mono ?_
  rintro e z5 ⟨rfl, hb⟩
  rw [HPV.out, HPQ.out]
  try unfold Ch.val
  have hB3 := since_step hB3 hb
  have hs := hs.below hb
  have hU0 := hU0.below hb
  have hU1 := hU1.below hb
  have hX1 := hX1.below hb
  have hX2 := hX2.below hb
  have hX3 := hX3.below hb
  have hX4 := hX4.below hb
  clear hb u0 u1 u2 v0 v1 v2
  obtain ⟨u0, u1, u2⟩ := id hU0
  obtain ⟨v0, v1, v2⟩ := id hU1
  go_wp2_with fail
  have hNP1 := Ch.Bx.new z5 pv
  have hA := (Below.refl z5.heap.size z5).alloc (Nat.le_refl _) (.cells pv.cells.toArray 54)
  have hs := hs.below hA
  have hU0 := hU0.below hA
  have hU1 := hU1.below hA
  have hX1 := hX1.below hA
  have hX2 := hX2.below hA
  have hX3 := hX3.below hA
  have hX4 := hX4.below hA
  have hB3 := since_step hB3 hA
  clear hA
  refine (rfind_any A cap l a c _ (by omega) hs).mono ?_
  rintro e z6 ⟨rfl, hb⟩
  rw [HPV.out, HPQ.out]
  try unfold Ch.val
  have hB3 := since_step hB3 hb
  have hs := hs.below hb
  have hU0 := hU0.below hb
  have hU1 := hU1.below hb
  have hX1 := hX1.below hb
  have hX2 := hX2.below hb
  have hX3 := hX3.below hb
  have hX4 := hX4.below hb
  have hNP1 := hNP1.below hb
  clear hb u0 u1 u2 v0 v1 v2
  obtain ⟨u0, u1, u2⟩ := id hU0
  obtain ⟨v0, v1, v2⟩ := id hU1
  go_wp2_with fail
  have hNP2 := Ch.Bx.new z6 pv
  have hA := (Below.refl z6.heap.size z6).alloc (Nat.le_refl _) (.cells pv.cells.toArray 54)
  have hs := hs.below hA
  have hU0 := hU0.below hA
  have hU1 := hU1.below hA
  have hX1 := hX1.below hA
  have hX2 := hX2.below hA
  have hX3 := hX3.below hA
  have hX4 := hX4.below hA
  have hNP1 := hNP1.below hA
  have hB3 := since_step hB3 hA
  clear hA
  refine (eready_any A cap l a c _ (by omega) hs).mono ?_
  rintro e z7 ⟨rfl, hb⟩
  rw [HR.out]
  try unfold unitV
  have hB3 := since_step hB3 hb
  have hs := hs.below hb
  have hU0 := hU0.below hb
  have hU1 := hU1.below hb
  have hX1 := hX1.below hb
  have hX2 := hX2.below hb
  have hX3 := hX3.below hb
  have hX4 := hX4.below hb
  have hNP1 := hNP1.below hb
  have hNP2 := hNP2.below hb
  clear hb u0 u1 u2 v0 v1 v2
  obtain ⟨u0, u1, u2⟩ := id hU0
  obtain ⟨v0, v1, v2⟩ := id hU1
  go_wp2_with fail
  have hNQ1 := UAt.new z7 r1 r2 44
  have hA := (Below.refl z7.heap.size z7).alloc (Nat.le_refl _) (.cells #[.int .i64 r1, .int .i64 r2] 44)
  have hs := hs.below hA
  have hU0 := hU0.below hA
  have hU1 := hU1.below hA
  have hX1 := hX1.below hA
  have hX2 := hX2.below hA
  have hX3 := hX3.below hA
  have hX4 := hX4.below hA
  have hNP1 := hNP1.below hA
  have hNP2 := hNP2.below hA
  have hB3 := since_step hB3 hA
  clear hA
  refine (rready_any A cap l a c _ (by omega) hs).mono ?_
  rintro e z8 ⟨rfl, hb⟩
  rw [HR.out]
  try unfold unitV
  have hB3 := since_step hB3 hb
  have hs := hs.below hb
  have hU0 := hU0.below hb
  have hU1 := hU1.below hb
  have hX1 := hX1.below hb
  have hX2 := hX2.below hb
  have hX3 := hX3.below hb
  have hX4 := hX4.below hb
  have hNP1 := hNP1.below hb
  have hNP2 := hNP2.below hb
  have hNQ1 := hNQ1.below hb
  clear hb u0 u1 u2 v0 v1 v2
  obtain ⟨u0, u1, u2⟩ := id hU0
  obtain ⟨v0, v1, v2⟩ := id hU1
  have hlA := hrl (electR l a c ta tc).2 hel
  have hlB := hrl (agreeR l a c ta tc).2 hag
  have hN4 := UAt.new z8 r1 r2 44
  have hA := (Below.refl z8.heap.size z8).alloc (Nat.le_refl _) (.cells #[.int .i64 r1, .int .i64 r2] 44)
  have hs := hs.below hA
  have hU0 := hU0.below hA
  have hU1 := hU1.below hA
  have hX1 := hX1.below hA
  have hX2 := hX2.below hA
  have hX3 := hX3.below hA
  have hX4 := hX4.below hA
  have hNP1 := hNP1.below hA
  have hNP2 := hNP2.below hA
  have hNQ1 := hNQ1.below hA
  have hB3 := since_step hB3 hA
  clear hA
  go_wp2_with fail
  refine (same_self AX1 AX2 cX1 cX2 _ _ hlA hX1 hX2).mono ?_
  rintro e z9 ⟨rfl, hb⟩
  have hB3 := since_step hB3 hb
  have hs := hs.below hb
  have hU0 := hU0.below hb
  have hU1 := hU1.below hb
  have hX1 := hX1.below hb
  have hX2 := hX2.below hb
  have hX3 := hX3.below hb
  have hX4 := hX4.below hb
  have hNP1 := hNP1.below hb
  have hNP2 := hNP2.below hb
  have hNQ1 := hNQ1.below hb
  have hN4 := hN4.below hb
  clear hb
  go_wp2_with fail
  refine (same_self AX3 AX4 cX3 cX4 _ _ hlB hX3 hX4).mono ?_
  rintro e z10 ⟨rfl, hb⟩
  have hB3 := since_step hB3 hb
  have hs := hs.below hb
  have hU0 := hU0.below hb
  have hU1 := hU1.below hb
  have hX1 := hX1.below hb
  have hX2 := hX2.below hb
  have hX3 := hX3.below hb
  have hX4 := hX4.below hb
  have hNP1 := hNP1.below hb
  have hNP2 := hNP2.below hb
  have hNQ1 := hNQ1.below hb
  have hN4 := hN4.below hb
  clear hb
  obtain ⟨p0, p1, p2, p3, p4⟩ := hNP1.got
  obtain ⟨s0, s1, s2, s3, s4⟩ := hNP2.got
  obtain ⟨t0, t1, t2⟩ := id hNQ1
  obtain ⟨x0, x1, x2⟩ := id hN4
  clear u0 u1 u2 v0 v1 v2 hX1 hX2 hX3 hX4 hs
  go_wp2_with fail
  refine (lives16_any _).mono ?_
  rintro e z11 ⟨rfl, hb⟩
  have hB3 := since_step hB3 hb
  go_wp2_with fail
  go_ret
  exact ⟨rfl, hB3⟩
end Go.Proofs.Ytniapgcohihkhaa
