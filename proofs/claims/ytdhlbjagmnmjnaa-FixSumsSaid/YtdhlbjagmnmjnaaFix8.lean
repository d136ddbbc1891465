/-
  The walks of layer 2, eighth part: FixSums.
-/
import Derived.Test.YtdhlbjagmnmjnaaFix4
import Derived.Test.YtdhlbjagmnmjnaaFix7
namespace Go.Proofs.Ytdhlbjagmnmjnaa
open Go.ChangeShapes Go.WideShapes Go.ChangeAt Go.RowKit
set_option linter.unusedVariables false
set_option linter.unusedSimpArgs false

theorem prods_in {l : List Int} {p : Int} (h : prods l = some p) : In64 p := by
  have key : ∀ (m : List Int) (o : Option Int), (∀ q, o = some q → In64 q) → ∀ p, m.foldl prodStep o = some p → In64 p := by
    intro m
    induction m with
    | nil => intro o ho p hp; exact ho p hp
    | cons a m ih =>
      intro o ho p hp
      refine ih (prodStep o a) (fun q hq => ?_) p hp
      cases o with
      | none => cases hq
      | some r =>
        have hq : (if In64 (r * a) then some (r * a) else none) = some q := hq
        by_cases h64 : In64 (r * a)
        · rw [if_pos h64] at hq; injection hq with hq; rw [← hq]; exact h64
        · rw [if_neg h64] at hq; cases hq
  exact key l (some 1) (fun q hq => by injection hq with hq; rw [← hq]; decide) p h

set_option maxRecDepth 100000 in
set_option maxHeartbeats 4000000 in
theorem walk_FixSums (a0 : Option Addr) (n0 c0 : Nat) (a1 : Int) (a2 : Int) (w : World) (w0 : Rd w (.sl (.int .i64)) [.slice a0 n0 c0]) (w1 : (Lit.int .i64 a1).wf = true) (w2 : (Lit.int .i64 a2).wf = true) :
    Calls Try.prog 3 #[.slice a0 n0 c0, .int .i64 a1, .int .i64 a2] w fun e w' => e = .returned (.bool true) ∧ Below w.heap.size w w' := by
  have ha : In64 a1 := bd_i64 w1
  have hb : In64 a2 := bd_i64 w2
  obtain ⟨l0, rfl, hc0, hcm, hs0, hwf⟩ := rd_ints w0
  clear w0 w1 w2
  have hsl : Sl w a0 (ints .i64 (l0.take 40)) := by rw [ints_take]; exact hs0.take 40
  have hll : (l0.take 40).length ≤ 40 := by simp; omega
  have hx : All64 (l0.take 40) := fun x h => bd_i64 (hwf x (List.mem_of_mem_take h))
  have hfew := few_any a0 c0 l0 w ⟨hc0, hcm⟩ hs0
  generalize l0.take 40 = l at *
  have hsb := sum_bound l hx
  have HSB := Lib.hid hsb
  clear hsb
  go_enter Try.func3, Try.ntmps3
  go_wp2_with fail
  refine hfew.mono ?_
  rintro e w1 ⟨rfl, hB1⟩
  have L1 := hsl.below hB1
  clear hfew hs0 hwf hc0 hsl
  go_wp2_with fail
  refine (fsum_any a0 c0 l _ (by omega) hx L1).mono ?_
  rintro e w2 ⟨rfl, hb2⟩
  have hB2 := since_step hB1 hb2
  have L2 := L1.below hb2
  go_wp2_with fail
  refine (fprod_any a0 c0 l _ (by omega) hx L2).mono ?_
  rintro e w3 ⟨rfl, hb3⟩
  have hB3 := since_step hB2 hb3
  have L3 := L2.below hb3
  go_wp2_with fail
  refine (fsub_any a1 a2 ha hb _).mono ?_
  rintro e w4 ⟨rfl, hb4⟩
  have hB4 := since_step hB3 hb4
  have L4 := L3.below hb4
  go_wp2_with fail
  obtain ⟨bf, hbf⟩ : ∃ b, (prods l).isSome = b := ⟨_, rfl⟩
  refine (rprod_any a0 c0 l _ (by omega) hx L4).mono ?_
  rintro e w5 ⟨⟨s, A5, n5, c5, z, he, hZ, hn5, hzp⟩, hb5⟩
  rw [hbf] at he
  subst he
  have hB5 := since_step hB4 hb5
  have L5 := L4.below hb5
  have P5 := BB.new w5 s A5 n5 c5 30
  have Z5 := hZ.alloc (.cells #[.bool s, .slice A5 n5 c5] 30)
  have L6 := L5.alloc (.cells #[.bool s, .slice A5 n5 c5] 30)
  have hB6 := since_alloc hB5 (.cells #[.bool s, .slice A5 n5 c5] 30)
  clear hb2 hb3 hb4 hb5 hB1 hB2 hB3 hB4 hB5 L1 L2 L3 L4 L5 hZ
  go_upto_region 6 with fail
  generalize w5.alloc (.cells #[.bool s, .slice A5 n5 c5] 30) = W at *
  have sO : ∀ V, Below W.heap.size W V → (Below W.heap.size W V ∧ V.cell? ⟨w5.heap.size, 0, none⟩ = some (.bool s) ∧ V.cell? ⟨w5.heap.size, 1, none⟩ = some (.slice A5 n5 c5)) := fun V h => ⟨h, (P5.below h).2.1, (P5.below h).2.2.1⟩
  have SO := Lib.hid sO
  have ZO := Lib.hid (fun V (h : Below W.heap.size W V) => Z5.below h)
  have LO := Lib.hid (fun V (h : Below W.heap.size W V) => L6.below h)
  clear sO Z5 L6
  cases hpr : prods l with
  | none =>
    obtain ⟨e1, e2⟩ := pV_none hpr
    rw [e1, e2]
    have hbf2 : bf = false := by rw [← hbf, hpr]; rfl
    subst hbf2
    have H := Lib.hid hpr
    clear hzp e1 e2 hpr hbf
    go_quiet (fail)
    have hD := below_drewN (Below.refl W.heap.size W) nq
    go_wp2_with fail
    go_split_ands
    refine (rsum_any a0 c0 l _ (by omega) hx (LO.out _ (by assumption))).mono ?_
    rintro e w10 ⟨⟨s10, A10, n10, c10, rfl, hfr10, hbig10⟩, hb10⟩
    have hB10 := since_step (since_step hB6 (by assumption)) hb10
    have hn10 : n10 ≤ 80 := (hbig10.len (k := 80)).2 (by have := HSB.out; have : (l.length : Int) ≤ 40 := by omega
                                                         rw [show (2 : Nat) ^ 80 = 1208925819614629174706176 from by decide]; omega)
    go_wp2_with fail
    refine (is_any l.sum s10 A10 n10 c10 _ (by omega) hbig10).mono ?_
    rintro e w11 ⟨rfl, hb11⟩
    have hB11 := since_step hB10 hb11
    go_wp2_with fail
    refine (bof_any a1 _ ha).mono ?_
    rintro e w12 ⟨⟨s12, A12, n12, c12, rfl, hfr12, hbig12⟩, hb12⟩
    have hB12 := since_step hB11 hb12
    have hn12 : n12 ≤ 64 := (hbig12.len (k := 64)).2 (by unfold In64 at ha; simp; omega)
    go_wp2_with fail
    refine (bof_any a2 _ hb).mono ?_
    rintro e w13 ⟨⟨s13, A13, n13, c13, rfl, hfr13, hbig13⟩, hb13⟩
    have hB13 := since_step hB12 hb13
    have hbig12 := hbig12.below hb13
    have hn13 : n13 ≤ 64 := (hbig13.len (k := 64)).2 (by unfold In64 at hb; simp; omega)
    go_wp2_with fail
    refine (bsub_any a1 a2 s12 s13 A12 A13 n12 c12 n13 c13 _ (by omega) (by omega) hbig12 hbig13).mono ?_
    rintro e w14 ⟨⟨s14, A14, n14, c14, rfl, hfr14, hbig14⟩, hb14⟩
    have hB14 := since_step hB13 hb14
    have hn14 : n14 ≤ 80 := (hbig14.len (k := 80)).2 (by unfold In64 at ha hb; rw [show (2 : Nat) ^ 80 = 1208925819614629174706176 from by decide]; omega)
    go_wp2_with fail
    refine (is_any (a1 - a2) s14 A14 n14 c14 _ (by omega) hbig14).mono ?_
    rintro e w15 ⟨rfl, hb15⟩
    have hB15 := since_step hB14 hb15
    go_wp2_with fail
    refine (lives02_any _).mono ?_
    rintro e w16 ⟨rfl, hb16⟩
    have hB16 := since_step hB15 hb16
    go_wp2_with fail
    go_ret
    exact ⟨rfl, hB16⟩
  | some p =>
    obtain ⟨e1, e2⟩ := pV_some hpr
    rw [e1, e2]
    obtain rfl := hzp p hpr
    have hp64 : In64 z := by
      exact prods_in hpr
    have HC := Lib.hid (show cmpZ z z = 0 from by unfold cmpZ; simp)
    have hbf2 : bf = true := by rw [← hbf, hpr]; rfl
    subst hbf2
    have H := Lib.hid hpr
    clear hzp e1 e2 hpr hbf
    -- region 6
    refine wp_region_held_drew (S := (fun V => Below W.heap.size W V ∧ V.cell? ⟨w5.heap.size, 0, none⟩ = some (.bool s) ∧ V.cell? ⟨w5.heap.size, 1, none⟩ = some (.slice A5 n5 c5))) (by kernel_rfl) (by exact SO.out _ (Below.refl _ _).drew) (fun hHeld => ?_)
    refine wpAnyH_take (i := 0) (oi := { dst := some 38, op := _, type := _, pos := _, after := _, guard := _ }) (v := ?_) rfl (by kernel_rfl) (by kernel_rfl) (by kernel_rfl) (fun _ _ _ h => h) (Or.inl ⟨by rfl, ?_⟩) (by assumption) ?_
    rotate_left
    · (intro w hSw; (try dsimp only at hSw); go_split_ands; go_simp <;> with_reducible rfl)
    try simp only [Act.put, List.setIfInBounds_toArray, List.set_cons_zero, List.set_cons_succ]
    refine wpAnyH_take (i := 1) (oi := { dst := some 39, op := _, type := _, pos := _, after := _, guard := _ }) (v := ?_) rfl (by kernel_rfl) (by kernel_rfl) (by kernel_rfl) (fun _ _ _ h => h) (Or.inl ⟨by rfl, ?_⟩) (by assumption) ?_
    rotate_left
    · (intro w hSw; (try dsimp only at hSw); go_split_ands; go_simp <;> with_reducible rfl)
    try simp only [Act.put, List.setIfInBounds_toArray, List.set_cons_zero, List.set_cons_succ]
    refine wpAnyH_take (i := 2) (oi := { dst := some 40, op := _, type := _, pos := _, after := _, guard := _ }) (v := ?_) rfl (by kernel_rfl) (by kernel_rfl) (by kernel_rfl) (fun _ _ _ h => h) (Or.inl ⟨by rfl, ?_⟩) (by assumption) ?_
    rotate_left
    · (intro w hSw; (try dsimp only at hSw); go_split_ands; go_simp <;> with_reducible rfl)
    try simp only [Act.put, List.setIfInBounds_toArray, List.set_cons_zero, List.set_cons_succ]
    refine wpAnyH_take (i := 3) (oi := { dst := some 41, op := _, type := _, pos := _, after := _, guard := _ }) (v := ?_) rfl (by kernel_rfl) (by kernel_rfl) (by kernel_rfl) (fun _ _ _ h => h) (Or.inl ⟨by rfl, ?_⟩) (by assumption) ?_
    rotate_left
    · (intro w hSw; (try dsimp only at hSw); go_split_ands; go_simp <;> with_reducible rfl)
    try simp only [Act.put, List.setIfInBounds_toArray, List.set_cons_zero, List.set_cons_succ]
    refine wpAnyH_take (i := 4) (oi := { dst := some 42, op := _, type := _, pos := _, after := _, guard := _ }) (v := ?_) rfl (by kernel_rfl) (by kernel_rfl) (by kernel_rfl) (fun _ _ _ h => h) (Or.inl ⟨by rfl, ?_⟩) (by assumption) ?_
    rotate_left
    · (intro w hSw; (try dsimp only at hSw); go_split_ands; go_simp <;> with_reducible rfl)
    try simp only [Act.put, List.setIfInBounds_toArray, List.set_cons_zero, List.set_cons_succ]
    refine wpAnyH_take (i := 5) (oi := { dst := some 43, op := _, type := _, pos := _, after := _, guard := _ }) (v := ?_) rfl (by kernel_rfl) (by kernel_rfl) (by kernel_rfl) (fun _ _ _ h => h) (Or.inl ⟨by rfl, ?_⟩) (by assumption) ?_
    rotate_left
    · (intro w hSw; (try dsimp only at hSw); go_split_ands; go_simp <;> with_reducible rfl)
    try simp only [Act.put, List.setIfInBounds_toArray, List.set_cons_zero, List.set_cons_succ]
    refine wpAnyH_take (i := 6) (oi := { dst := some 44, op := _, type := _, pos := _, after := _, guard := _ }) (v := ?_) rfl (by kernel_rfl) (by kernel_rfl) (by kernel_rfl) (fun _ _ _ h => h) (Or.inl ⟨by rfl, ?_⟩) (by assumption) ?_
    rotate_left
    · (intro w hSw; (try dsimp only at hSw); go_split_ands; go_simp <;> with_reducible rfl)
    try simp only [Act.put, List.setIfInBounds_toArray, List.set_cons_zero, List.set_cons_succ]
    refine wpAnyH_take (i := 7) (oi := { dst := some 45, op := _, type := _, pos := _, after := _, guard := _ }) (v := ?_) rfl (by kernel_rfl) (by kernel_rfl) (by kernel_rfl) (fun _ _ _ h => h) (Or.inl ⟨by rfl, ?_⟩) (by assumption) ?_
    rotate_left
    · (intro w hSw; (try dsimp only at hSw); go_split_ands; go_simp <;> with_reducible rfl)
    try simp only [Act.put, List.setIfInBounds_toArray, List.set_cons_zero, List.set_cons_succ]
    refine wpAnyH_take (i := 9) (oi := { dst := some 47, op := _, type := _, pos := _, after := _, guard := _ }) (v := ?_) rfl (by kernel_rfl) (by kernel_rfl) (by kernel_rfl) (fun _ _ _ h => h) (Or.inl ⟨by rfl, ?_⟩) (by assumption) ?_
    rotate_left
    · (intro w hSw; (try dsimp only at hSw); go_split_ands; go_simp <;> with_reducible rfl)
    try simp only [Act.put, List.setIfInBounds_toArray, List.set_cons_zero, List.set_cons_succ]
    refine wpAnyH_ready (rs := [8]) (by kernel_rfl) (by simp) ?_
    refine AllReadyH.cons (o := { dst := some 46, op := _, type := _, pos := _, after := _, guard := _ }) rfl (fun K hK => ?_) AllReadyH.nil
    go_simp
    have hHd := hHeld
    (try dsimp only at hHd)
    go_split_ands
    (refine (bof_any z _ hp64).mono ?_; rintro e w6 ⟨⟨s6, A6, n6, c6, rfl, hfr6, hbig6⟩, hb6⟩; have hbW6 := since_step (by assumption) hb6; have hn6 : n6 ≤ 64 := (hbig6.len (k := 64)).2 (by unfold In64 at hp64; simp; omega))
    go_wp2_with fail
    refine hK.out _ _ (by (try dsimp only); (first | exact SO.out _ (by assumption) | exact SO.out _ (Below.refl _ _).drew | assumption)) (fun hHeld => ?_)
    clear hK K
    try simp only [Act.put, List.setIfInBounds_toArray, List.set_cons_zero, List.set_cons_succ]
    refine wpAnyH_ready (rs := [10]) (by kernel_rfl) (by simp) ?_
    refine AllReadyH.cons (o := { dst := some 48, op := _, type := _, pos := _, after := _, guard := _ }) rfl (fun K hK => ?_) AllReadyH.nil
    go_simp
    have hHd := hHeld
    (try dsimp only at hHd)
    go_split_ands
    (refine (bcmp_any z z s6 s A6 A5 n6 c6 n5 c5 _ (by omega) (by omega) hbig6 (ZO.out _ (by assumption))).mono ?_; rintro e w7 ⟨rfl, hb7⟩; have hbW7 := since_step (by assumption) hb7; rw [HC.out])
    go_wp2_with fail
    refine hK.out _ _ (by (try dsimp only); (first | exact SO.out _ (by assumption) | exact SO.out _ (Below.refl _ _).drew | assumption)) (fun hHeld => ?_)
    clear hK K
    try simp only [Act.put, List.setIfInBounds_toArray, List.set_cons_zero, List.set_cons_succ]
    refine wpAnyH_take (i := 11) (oi := { dst := some 49, op := _, type := _, pos := _, after := _, guard := _ }) (v := ?_) rfl (by kernel_rfl) (by kernel_rfl) (by kernel_rfl) (fun _ _ _ h => h) (Or.inl ⟨by rfl, ?_⟩) (by assumption) ?_
    rotate_left
    · (intro w hSw; (try dsimp only at hSw); go_split_ands; go_simp <;> with_reducible rfl)
    try simp only [Act.put, List.setIfInBounds_toArray, List.set_cons_zero, List.set_cons_succ]
    refine wpAnyH_take (i := 12) (oi := { dst := some 50, op := _, type := _, pos := _, after := _, guard := _ }) (v := ?_) rfl (by kernel_rfl) (by kernel_rfl) (by kernel_rfl) (fun _ _ _ h => h) (Or.inl ⟨by rfl, ?_⟩) (by assumption) ?_
    rotate_left
    · (intro w hSw; (try dsimp only at hSw); go_split_ands; go_simp <;> with_reducible rfl)
    try simp only [Act.put, List.setIfInBounds_toArray, List.set_cons_zero, List.set_cons_succ]
    refine wpAnyH_take (i := 13) (oi := { dst := some 51, op := _, type := _, pos := _, after := _, guard := _ }) (v := ?_) rfl (by kernel_rfl) (by kernel_rfl) (by kernel_rfl) (fun _ _ _ h => h) (Or.inl ⟨by rfl, ?_⟩) (by assumption) ?_
    rotate_left
    · (intro w hSw; (try dsimp only at hSw); go_split_ands; go_simp <;> with_reducible rfl)
    try simp only [Act.put, List.setIfInBounds_toArray, List.set_cons_zero, List.set_cons_succ]
    refine wpAnyH_take (i := 14) (oi := { dst := some 52, op := _, type := _, pos := _, after := _, guard := _ }) (v := ?_) rfl (by kernel_rfl) (by kernel_rfl) (by kernel_rfl) (fun _ _ _ h => h) (Or.inl ⟨by rfl, ?_⟩) (by assumption) ?_
    rotate_left
    · (intro w hSw; (try dsimp only at hSw); go_split_ands; go_simp <;> with_reducible rfl)
    try simp only [Act.put, List.setIfInBounds_toArray, List.set_cons_zero, List.set_cons_succ]
    refine wpAnyH_take (i := 15) (oi := { dst := some 53, op := _, type := _, pos := _, after := _, guard := _ }) (v := ?_) rfl (by kernel_rfl) (by kernel_rfl) (by kernel_rfl) (fun _ _ _ h => h) (Or.inl ⟨by rfl, ?_⟩) (by assumption) ?_
    rotate_left
    · (intro w hSw; (try dsimp only at hSw); go_split_ands; go_simp <;> with_reducible rfl)
    try simp only [Act.put, List.setIfInBounds_toArray, List.set_cons_zero, List.set_cons_succ]
    refine wpAnyH_take (i := 16) (oi := { dst := some 54, op := _, type := _, pos := _, after := _, guard := _ }) (v := ?_) rfl (by kernel_rfl) (by kernel_rfl) (by kernel_rfl) (fun _ _ _ h => h) (Or.inl ⟨by rfl, ?_⟩) (by assumption) ?_
    rotate_left
    · (intro w hSw; (try dsimp only at hSw); go_split_ands; go_simp <;> with_reducible rfl)
    try simp only [Act.put, List.setIfInBounds_toArray, List.set_cons_zero, List.set_cons_succ]
    refine wpAnyH_take (i := 17) (oi := { dst := some 55, op := _, type := _, pos := _, after := _, guard := _ }) (v := ?_) rfl (by kernel_rfl) (by kernel_rfl) (by kernel_rfl) (fun _ _ _ h => h) (Or.inl ⟨by rfl, ?_⟩) (by assumption) ?_
    rotate_left
    · (intro w hSw; (try dsimp only at hSw); go_split_ands; go_simp <;> with_reducible rfl)
    try simp only [Act.put, List.setIfInBounds_toArray, List.set_cons_zero, List.set_cons_succ]
    refine wpAnyH_take (i := 18) (oi := { dst := some 56, op := _, type := _, pos := _, after := _, guard := _ }) (v := undef) rfl (by kernel_rfl) (by kernel_rfl) (by kernel_rfl) (fun _ _ _ h => h) (Or.inr ⟨by rfl, rfl⟩) (by assumption) ?_
    try simp only [Act.put, List.setIfInBounds_toArray, List.set_cons_zero, List.set_cons_succ]
    refine wpAnyH_take (i := 19) (oi := { dst := some 57, op := _, type := _, pos := _, after := _, guard := _ }) (v := undef) rfl (by kernel_rfl) (by kernel_rfl) (by kernel_rfl) (fun _ _ _ h => h) (Or.inr ⟨by rfl, rfl⟩) (by assumption) ?_
    try simp only [Act.put, List.setIfInBounds_toArray, List.set_cons_zero, List.set_cons_succ]
    refine wpAnyH_take (i := 20) (oi := { dst := some 58, op := _, type := _, pos := _, after := _, guard := _ }) (v := undef) rfl (by kernel_rfl) (by kernel_rfl) (by kernel_rfl) (fun _ _ _ h => h) (Or.inr ⟨by rfl, rfl⟩) (by assumption) ?_
    try simp only [Act.put, List.setIfInBounds_toArray, List.set_cons_zero, List.set_cons_succ]
    refine wpAnyH_take (i := 21) (oi := { dst := some 59, op := _, type := _, pos := _, after := _, guard := _ }) (v := undef) rfl (by kernel_rfl) (by kernel_rfl) (by kernel_rfl) (fun _ _ _ h => h) (Or.inr ⟨by rfl, rfl⟩) (by assumption) ?_
    try simp only [Act.put, List.setIfInBounds_toArray, List.set_cons_zero, List.set_cons_succ]
    refine wpAnyH_take (i := 22) (oi := { dst := some 60, op := _, type := _, pos := _, after := _, guard := _ }) (v := undef) rfl (by kernel_rfl) (by kernel_rfl) (by kernel_rfl) (fun _ _ _ h => h) (Or.inr ⟨by rfl, rfl⟩) (by assumption) ?_
    try simp only [Act.put, List.setIfInBounds_toArray, List.set_cons_zero, List.set_cons_succ]
    refine wpAnyH_take (i := 23) (oi := { dst := some 61, op := _, type := _, pos := _, after := _, guard := _ }) (v := undef) rfl (by kernel_rfl) (by kernel_rfl) (by kernel_rfl) (fun _ _ _ h => h) (Or.inr ⟨by rfl, rfl⟩) (by assumption) ?_
    try simp only [Act.put, List.setIfInBounds_toArray, List.set_cons_zero, List.set_cons_succ]
    refine wpAnyH_take (i := 24) (oi := { dst := some 62, op := _, type := _, pos := _, after := _, guard := _ }) (v := ?_) rfl (by kernel_rfl) (by kernel_rfl) (by kernel_rfl) (fun _ _ _ h => h) (Or.inl ⟨by rfl, ?_⟩) (by assumption) ?_
    rotate_left
    · (intro w hSw; (try dsimp only at hSw); go_split_ands; go_simp <;> with_reducible rfl)
    try simp only [Act.put, List.setIfInBounds_toArray, List.set_cons_zero, List.set_cons_succ]
    refine wpAnyH_take (i := 25) (oi := { dst := some 63, op := _, type := _, pos := _, after := _, guard := _ }) (v := ?_) rfl (by kernel_rfl) (by kernel_rfl) (by kernel_rfl) (fun _ _ _ h => h) (Or.inl ⟨by rfl, ?_⟩) (by assumption) ?_
    rotate_left
    · (intro w hSw; (try dsimp only at hSw); go_split_ands; go_simp <;> with_reducible rfl)
    try simp only [Act.put, List.setIfInBounds_toArray, List.set_cons_zero, List.set_cons_succ]
    refine wpAnyH_done (by kernel_rfl) ?_ _
    -- behind region 6
    go_wp2_with fail
    go_split_ands
    refine (rsum_any a0 c0 l _ (by omega) hx (LO.out _ (by assumption))).mono ?_
    rintro e w10 ⟨⟨s10, A10, n10, c10, rfl, hfr10, hbig10⟩, hb10⟩
    have hB10 := since_step (since_step hB6 (by assumption)) hb10
    have hn10 : n10 ≤ 80 := (hbig10.len (k := 80)).2 (by have := HSB.out; have : (l.length : Int) ≤ 40 := by omega
                                                         rw [show (2 : Nat) ^ 80 = 1208925819614629174706176 from by decide]; omega)
    go_wp2_with fail
    refine (is_any l.sum s10 A10 n10 c10 _ (by omega) hbig10).mono ?_
    rintro e w11 ⟨rfl, hb11⟩
    have hB11 := since_step hB10 hb11
    go_wp2_with fail
    refine (bof_any a1 _ ha).mono ?_
    rintro e w12 ⟨⟨s12, A12, n12, c12, rfl, hfr12, hbig12⟩, hb12⟩
    have hB12 := since_step hB11 hb12
    have hn12 : n12 ≤ 64 := (hbig12.len (k := 64)).2 (by unfold In64 at ha; simp; omega)
    go_wp2_with fail
    refine (bof_any a2 _ hb).mono ?_
    rintro e w13 ⟨⟨s13, A13, n13, c13, rfl, hfr13, hbig13⟩, hb13⟩
    have hB13 := since_step hB12 hb13
    have hbig12 := hbig12.below hb13
    have hn13 : n13 ≤ 64 := (hbig13.len (k := 64)).2 (by unfold In64 at hb; simp; omega)
    go_wp2_with fail
    refine (bsub_any a1 a2 s12 s13 A12 A13 n12 c12 n13 c13 _ (by omega) (by omega) hbig12 hbig13).mono ?_
    rintro e w14 ⟨⟨s14, A14, n14, c14, rfl, hfr14, hbig14⟩, hb14⟩
    have hB14 := since_step hB13 hb14
    have hn14 : n14 ≤ 80 := (hbig14.len (k := 80)).2 (by unfold In64 at ha hb; rw [show (2 : Nat) ^ 80 = 1208925819614629174706176 from by decide]; omega)
    go_wp2_with fail
    refine (is_any (a1 - a2) s14 A14 n14 c14 _ (by omega) hbig14).mono ?_
    rintro e w15 ⟨rfl, hb15⟩
    have hB15 := since_step hB14 hb15
    go_wp2_with fail
    refine (lives02_any _).mono ?_
    rintro e w16 ⟨rfl, hb16⟩
    have hB16 := since_step hB15 hb16
    go_wp2_with fail
    go_ret
    exact ⟨rfl, hB16⟩
end Go.Proofs.Ytdhlbjagmnmjnaa
