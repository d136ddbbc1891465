import Derived.Test.YtahdmomadbbhoaaGreatDk30
section
namespace Go.Proofs.YtahdmomadbbhoaaGreat
open Go.ChangeShapes Go.WideShapes Go.ChangeAt Go.RowKit
set_option linter.unusedVariables false
set_option linter.unusedSimpArgs false

theorem chgHR_form {how : List Lg → Int × List Lg} {cs : List Pc} {a c : Int} (h : isH cs = false) : chgHR how cs a c = (3, []) := if_pos h
theorem chgHR_err {how : List Lg → Int × List Lg} {cs : List Pc} {a c n : Int} {L : List Lg} (h : isH cs = true) (h2 : how (lotsH cs a c) = (n, L)) (h3 : n ≠ 0) : chgHR how cs a c = (n, []) := by
  unfold chgHR; rw [if_neg (by simp [h]), h2, if_pos h3]
theorem chgHR_ok {how : List Lg → Int × List Lg} {cs : List Pc} {a c : Int} {L : List Lg} (h : isH cs = true) (h2 : how (lotsH cs a c) = (0, L)) : chgHR how cs a c = (0, withH cs a c L) := by
  unfold chgHR; rw [if_neg (by simp [h]), h2, if_neg (by simp)]
theorem withH_nil (cs : List Pc) (a c : Int) : withH cs a c [] = cs.filter (fun g => !unH a c g) := if_pos rfl
theorem withH_some (cs : List Pc) (a c : Int) {L : List Lg} (h : L ≠ []) : withH cs a c L = putR ahH cs ⟨a, c, L⟩ := if_neg h
set_option maxHeartbeats 8000000 in
set_option maxRecDepth 100000 in
theorem bshift_any (A : Option Addr) (cap : Nat) (l : List Po) (cs : List Pc) (a c : Int) (LA : Option Addr) (LC : Nat) (M : List Lg) (w : World) (hl : l.length ≤ 900000) (hcl : ∀ g ∈ cs, g.L.length ≤ 400000) (h6 : ∀ g ∈ cs, ∀ y ∈ g.L, In64 y.qty) (hMl : M.length ≤ 400000) (hM6 : ∀ y ∈ M, In64 y.qty) (hs : Sl w A (rc Po.cells l)) (ht : PoTab w l cs) (hM : Sl w LA (rc Lg.cells M)) :
    Calls Tryz.prog 64 #[.slice A l.length cap, .agg #[.int .i64 a, .int .i64 c], .slice LA M.length LC] w fun e w' => HRes w' e (chgHR (fun m => addL [m, M]) cs a c) ∧ Below w.heap.size w w' := by
  have hB0 := since_alloc (Below.refl _ w) (.cells #[.int .i64 a, .int .i64 c] 28)
  have hK := Bk.new w #[.int .i64 a, .int .i64 c] 28
  have hcl9 : ∀ g ∈ cs, g.L.length ≤ 900000 := fun g hg => Nat.le_trans (hcl g hg) (by omega)
  have HLL : Hid (cs.length ≤ 1000000) := Lib.hid (by have := ht.1; omega)
  have HLC := Lib.hid ht.1
  have HIS := Lib.hid (his_any A cap l cs _ hl hcl9 (hs.alloc (.cells #[.int .i64 a, .int .i64 c] 28)) (ht.below hB0))
  have HSL : Hid (∀ V, Below w.heap.size w V → Sl V A (rc Po.cells l)) := Lib.hid fun V hV => hs.below hV
  have HTB : Hid (∀ V, Below w.heap.size w V → PoTab V l cs) := Lib.hid fun V hV => ht.below hV
  have HSM : Hid (∀ V, Below w.heap.size w V → Sl V LA (rc Lg.cells M)) := Lib.hid fun V hV => hM.below hV
  have HLO := Lib.hid (fun V h1 h2 => hlots_any A cap l cs a c V hl hcl9 h1 h2)
  have hlen := lotsH_len hcl a c
  have hl6 := lots_in6 h6 a c
  have HAD := Lib.hid (fun A0 A1 c1 V h h1 h2 => vadd_2 (lotsH cs a c) M hlen hMl hl6 hM6 A0 A1 LA c1 LC V h h1 h2)
  obtain ⟨rn, RL, hR⟩ : ∃ rn RL, addL [lotsH cs a c, M] = (rn, RL) := ⟨_, _, rfl⟩
  rw [hR] at HAD
  unfold GRes at HAD
  simp only at HAD
  have HD := Lib.hid (fun V h1 h2 => dups_po A cap l cs V hl hcl9 h1 h2)
  have HDR := Lib.hid (fun A1 c1 l1 b V hl1 h1 (h2 : Bk V b #[.int .i64 a, .int .i64 c]) => drop_po A1 c1 l1 85 #[.pointer (some ⟨b, 0, none⟩)] (unHd a c) V hl1 h1 ent_hof1 (tells_hof1 a c b _ _ h2 rfl))
  have HPU := Lib.hid (fun A1 c1 l1 A2 c2 V hl1 h1 => put_po A1 c1 l1 ⟨a, c, A2, RL.length, c2⟩ 74 #[] ahHd V hl1 h1 ent_hahead (tells_hahead _ _))
  unfold Po.val at HPU
  simp only at HPU
  clear hs ht hM
  cases hi : isH cs with
  | false =>
    have HR := Lib.hid (chgHR_form (how := fun m => addL [m, M]) (a := a) (c := c) hi)
    rw [hi] at HIS
    clear hi hR
    go_enter Tryz.func64, Tryz.ntmps64
    go_wp2_with fail
    refine HIS.out.mono ?_
    rintro e w1 ⟨rfl, hb⟩
    have hB1 := since_step hB0 hb
    have hK := hK.below hb
    clear hb
    go_wp2_with fail
    go_ret2
    rw [HR.out]
    exact ⟨HRes.nil _ _, hB1⟩
  | true =>
    rw [hi] at HIS
    by_cases hn : rn = 0
    rotate_left
    · have HR := Lib.hid (chgHR_err (how := fun m => addL [m, M]) hi hR hn)
      have hnb : (rn != 0) = true := by simpa using hn
      have hnb2 : (rn == 0) = false := by simpa using hn
      generalize lotsH cs a c = L0 at *
      clear hi hR hn
      go_enter Tryz.func64, Tryz.ntmps64
      go_wp2_with fail
      refine HIS.out.mono ?_
      rintro e w1 ⟨rfl, hb⟩
      have hB1 := since_step hB0 hb
      have hK := hK.below hb
      clear hb
      have ck := hK.2; have k0 := ck 0; have k1 := ck 1; simp at k0 k1; clear ck
      go_wp2_with fail
      refine (HLO.out _ (HSL.out _ hB1) (HTB.out _ hB1)).mono ?_
      rintro e w2 ⟨⟨A1, c1, rfl, o1⟩, hb⟩
      have hB2 := since_step hB1 hb
      have hK := hK.below hb
      have h1 := Sl.of_own o1
      clear o1
      clear hb k0 k1
      go_wp2_with fail
      refine (HAD.out _ A1 c1 _ (Sl.new_ w2 (rc RowS.cells [(⟨A1, c1, L0⟩ : RowS Lg), ⟨LA, LC, M⟩]) 59) (h1.alloc _) ((HSM.out _ hB2).alloc _)).mono ?_
      rintro e w3 ⟨⟨A2, c2, rfl, o2⟩, hb⟩
      have hA := (Below.refl w2.heap.size w2).alloc (Nat.le_refl _) (.cells #[.slice A1 L0.length c1, .slice LA M.length LC] 59)
      have hB3 := since_step hB2 (since_step hA hb)
      have hK := (hK.below hA).below hb
      have h2 := Sl.of_own o2
      clear hb hA o2 h1
      go_wp2_with fail
      go_ret2
      rw [HR.out]
      exact ⟨HRes.nil _ _, hB3⟩
    · subst hn
      have hR2 := chgHR_ok (how := fun m => addL [m, M]) hi hR
      generalize lotsH cs a c = L0 at *
      clear hi hR
      cases RL with
      | nil =>
        rw [withH_nil] at hR2
        have HR := Lib.hid hR2
        clear hR2
        go_enter Tryz.func64, Tryz.ntmps64
        go_wp2_with fail
        refine HIS.out.mono ?_
        rintro e w1 ⟨rfl, hb⟩
        have hB1 := since_step hB0 hb
        have hK := hK.below hb
        clear hb
        have ck := hK.2; have k0 := ck 0; have k1 := ck 1; simp at k0 k1; clear ck
        go_wp2_with fail
        refine (HLO.out _ (HSL.out _ hB1) (HTB.out _ hB1)).mono ?_
        rintro e w2 ⟨⟨A1, c1, rfl, o1⟩, hb⟩
        have hB2 := since_step hB1 hb
        have hK := hK.below hb
        have h1 := Sl.of_own o1
        clear o1
        clear hb k0 k1
        go_wp2_with fail
        refine (HAD.out _ A1 c1 _ (Sl.new_ w2 (rc RowS.cells [(⟨A1, c1, L0⟩ : RowS Lg), ⟨LA, LC, M⟩]) 59) (h1.alloc _) ((HSM.out _ hB2).alloc _)).mono ?_
        rintro e w3 ⟨⟨A2, c2, rfl, o2⟩, hb⟩
        have hA := (Below.refl w2.heap.size w2).alloc (Nat.le_refl _) (.cells #[.slice A1 L0.length c1, .slice LA M.length LC] 59)
        have hB3 := since_step hB2 (since_step hA hb)
        have hK := (hK.below hA).below hb
        have h2 := Sl.of_own o2
        clear hb hA o2 h1
        have HN2 : Hid (∀ V, Below w3.heap.size w3 V → Bk V w.heap.size #[.int .i64 a, .int .i64 c] ∧ True) := Lib.hid fun V hV => ⟨hK.below hV, trivial⟩
        clear hK h2
        go_wp2_with fail
        refine wp_region_held_drew (S := (fun V => Below w.heap.size w V ∧ Below w3.heap.size w3 V)) (by kernel_rfl) (by exact ⟨hB3.drew, (Below.refl _ _).drew⟩) (fun hHeld => ?_)
        refine wpAnyH_take (i := 0) (oi := { dst := some 28, op := _, type := _, pos := _, after := _, guard := _ }) (v := ?_) rfl (by kernel_rfl) (by kernel_rfl) (by kernel_rfl) (fun _ _ _ h => h) (Or.inl ⟨by rfl, ?_⟩) hHeld ?_
        rotate_left
        · (intro w hSw; have ck := (HN2.out _ (hSw).2).1.2; have k0 := ck 0; have k1 := ck 1; simp at k0 k1; clear ck; go_simp <;> with_reducible rfl)
        try simp only [Act.put, List.setIfInBounds_toArray, List.set_cons_zero, List.set_cons_succ]
        refine wpAnyH_take (i := 2) (oi := { dst := some 30, op := _, type := _, pos := _, after := _, guard := _ }) (v := ?_) rfl (by kernel_rfl) (by kernel_rfl) (by kernel_rfl) (fun _ _ _ h => h) (Or.inl ⟨by rfl, ?_⟩) hHeld ?_
        rotate_left
        · (intro w hSw; have ck := (HN2.out _ (hSw).2).1.2; have k0 := ck 0; have k1 := ck 1; simp at k0 k1; clear ck; go_simp <;> with_reducible rfl)
        try simp only [Act.put, List.setIfInBounds_toArray, List.set_cons_zero, List.set_cons_succ]
        refine wpAnyH_ready (rs := [1]) (by kernel_rfl) (by simp) ?_
        refine AllReadyH.cons (o := { dst := some 29, op := _, type := _, pos := _, after := _, guard := _ }) rfl (fun K hK => ?_) AllReadyH.nil
        go_simp
        refine (HD.out _ (HSL.out _ hHeld.1) (HTB.out _ hHeld.1)).mono ?_
        rintro e u1 ⟨⟨l1, A1, c1, rfl, ho1, hot1⟩, hk1⟩
        have hKeep := And.intro (since_step hHeld.1 hk1) (since_step hHeld.2 hk1)
        have hs1 := Sl.of_own ho1
        have ht1 := hot1.tab
        have hl1 : l1.length ≤ 1000000 := by rw [ht1.1]; exact HLL.out
        clear ho1 hot1
        go_wp2_with fail
        refine hK.out _ _ (by (try dsimp only); exact hKeep) (fun hHeld => ?_)
        clear hK K hKeep
        try simp only [Act.put, List.setIfInBounds_toArray, List.set_cons_zero, List.set_cons_succ]
        refine wpAnyH_ready (rs := [3]) (by kernel_rfl) (by simp) ?_
        refine AllReadyH.cons (o := { dst := some 31, op := _, type := _, pos := _, after := _, guard := _ }) rfl (fun K hK => ?_) AllReadyH.nil
        go_simp
        refine (hof_any a c _).mono ?_
        rintro e u2 ⟨⟨b2, rfl, hK2⟩, hk2⟩
        have hKeep := And.intro (since_step hHeld.1 hk2) (since_step hHeld.2 hk2)
        have hs1 := hs1.below hk2
        have ht1 := ht1.below hk2
        go_wp2_with fail
        refine hK.out _ _ (by (try dsimp only); exact hKeep) (fun hHeld => ?_)
        clear hK K hKeep
        try simp only [Act.put, List.setIfInBounds_toArray, List.set_cons_zero, List.set_cons_succ]
        refine wpAnyH_ready (rs := [4]) (by kernel_rfl) (by simp) ?_
        refine AllReadyH.cons (o := { dst := some 32, op := _, type := _, pos := _, after := _, guard := _ }) rfl (fun K hK => ?_) AllReadyH.nil
        go_simp
        refine (HDR.out A1 c1 l1 b2 _ hl1 hs1 hK2).mono ?_
        rintro e u3 ⟨⟨A3, c3, rfl, ho3⟩, hk3⟩
        have hKeep := And.intro (since_step hHeld.1 hk3) (since_step hHeld.2 hk3)
        have ht1 := ht1.below hk3
        go_wp2_with fail
        refine hK.out _ _ (by (try dsimp only); exact hKeep) (fun hHeld => ?_)
        clear hK K hKeep
        try simp only [Act.put, List.setIfInBounds_toArray, List.set_cons_zero, List.set_cons_succ]
        refine wpAnyH_take (i := 5) (oi := { dst := some 6, op := _, type := _, pos := _, after := _, guard := _ }) (v := ?_) rfl (by kernel_rfl) (by kernel_rfl) (by kernel_rfl) (fun _ _ _ h => h) (Or.inl ⟨by rfl, ?_⟩) hHeld ?_
        rotate_left
        · (intro w hSw; have ck := (HN2.out _ (hSw).2).1.2; have k0 := ck 0; have k1 := ck 1; simp at k0 k1; clear ck; go_simp <;> with_reducible rfl)
        try simp only [Act.put, List.setIfInBounds_toArray, List.set_cons_zero, List.set_cons_succ]
        refine wpAnyH_take (i := 6) (oi := { dst := some 7, op := _, type := _, pos := _, after := _, guard := _ }) (v := ?_) rfl (by kernel_rfl) (by kernel_rfl) (by kernel_rfl) (fun _ _ _ h => h) (Or.inl ⟨by rfl, ?_⟩) hHeld ?_
        rotate_left
        · (intro w hSw; have ck := (HN2.out _ (hSw).2).1.2; have k0 := ck 0; have k1 := ck 1; simp at k0 k1; clear ck; go_simp <;> with_reducible rfl)
        try simp only [Act.put, List.setIfInBounds_toArray, List.set_cons_zero, List.set_cons_succ]
        refine wpAnyH_done (by kernel_rfl) ?_ _
        have hBz := hHeld.1
        have hcap := CapH.of_own ho3
        have hsz := Sl.of_own ho3
        have htz := PoTab.filter (p := fun g => !unHd a c g) (q := fun g => !unH a c g) (fun g d h => by rw [un_is a c g d h]) ht1
        go_wp2_with fail
        go_ret2
        rw [HR.out]
        exact ⟨⟨_, A3, c3, rfl, hsz, htz, hcap⟩, hBz⟩
      | cons x r =>
        rw [withH_some _ _ _ (by simp)] at hR2
        have HR := Lib.hid hR2
        have hpos : (0 : Int) < (((x :: r).length : Nat) : Int) := by simp only [List.length_cons]; omega
        have hqb : ((((x :: r).length : Nat) : Int) == 0) = false := by simp only [List.length_cons]; simp; omega
        clear hR2
        go_enter Tryz.func64, Tryz.ntmps64
        go_wp2_with fail
        refine HIS.out.mono ?_
        rintro e w1 ⟨rfl, hb⟩
        have hB1 := since_step hB0 hb
        have hK := hK.below hb
        clear hb
        have ck := hK.2; have k0 := ck 0; have k1 := ck 1; simp at k0 k1; clear ck
        go_wp2_with fail
        refine (HLO.out _ (HSL.out _ hB1) (HTB.out _ hB1)).mono ?_
        rintro e w2 ⟨⟨A1, c1, rfl, o1⟩, hb⟩
        have hB2 := since_step hB1 hb
        have hK := hK.below hb
        have h1 := Sl.of_own o1
        clear o1
        clear hb k0 k1
        go_wp2_with fail
        refine (HAD.out _ A1 c1 _ (Sl.new_ w2 (rc RowS.cells [(⟨A1, c1, L0⟩ : RowS Lg), ⟨LA, LC, M⟩]) 59) (h1.alloc _) ((HSM.out _ hB2).alloc _)).mono ?_
        rintro e w3 ⟨⟨A2, c2, rfl, o2⟩, hb⟩
        have hA := (Below.refl w2.heap.size w2).alloc (Nat.le_refl _) (.cells #[.slice A1 L0.length c1, .slice LA M.length LC] 59)
        have hB3 := since_step hB2 (since_step hA hb)
        have hK := (hK.below hA).below hb
        have h2 := Sl.of_own o2
        clear hb hA o2 h1
        have HN2 : Hid (∀ V, Below w3.heap.size w3 V → Bk V w.heap.size #[.int .i64 a, .int .i64 c] ∧ Sl V A2 (rc Lg.cells (x :: r))) := Lib.hid fun V hV => ⟨hK.below hV, h2.below hV⟩
        clear hK h2
        go_wp2_with fail
        refine wp_region_held_drew (S := (fun V => Below w.heap.size w V ∧ Below w3.heap.size w3 V)) (by kernel_rfl) (by exact ⟨hB3.drew, (Below.refl _ _).drew⟩) (fun hHeld => ?_)
        refine wpAnyH_take (i := 0) (oi := { dst := some 33, op := _, type := _, pos := _, after := _, guard := _ }) (v := ?_) rfl (by kernel_rfl) (by kernel_rfl) (by kernel_rfl) (fun _ _ _ h => h) (Or.inl ⟨by rfl, ?_⟩) hHeld ?_
        rotate_left
        · (intro w hSw; have ck := (HN2.out _ (hSw).2).1.2; have k0 := ck 0; have k1 := ck 1; simp at k0 k1; clear ck; go_simp <;> with_reducible rfl)
        try simp only [Act.put, List.setIfInBounds_toArray, List.set_cons_zero, List.set_cons_succ]
        refine wpAnyH_take (i := 2) (oi := { dst := some 35, op := _, type := _, pos := _, after := _, guard := _ }) (v := ?_) rfl (by kernel_rfl) (by kernel_rfl) (by kernel_rfl) (fun _ _ _ h => h) (Or.inl ⟨by rfl, ?_⟩) hHeld ?_
        rotate_left
        · (intro w hSw; have ck := (HN2.out _ (hSw).2).1.2; have k0 := ck 0; have k1 := ck 1; simp at k0 k1; clear ck; go_simp <;> with_reducible rfl)
        try simp only [Act.put, List.setIfInBounds_toArray, List.set_cons_zero, List.set_cons_succ]
        refine wpAnyH_take (i := 3) (oi := { dst := some 36, op := _, type := _, pos := _, after := _, guard := _ }) (v := ?_) rfl (by kernel_rfl) (by kernel_rfl) (by kernel_rfl) (fun _ _ _ h => h) (Or.inl ⟨by rfl, ?_⟩) hHeld ?_
        rotate_left
        · (intro w hSw; have ck := (HN2.out _ (hSw).2).1.2; have k0 := ck 0; have k1 := ck 1; simp at k0 k1; clear ck; go_simp <;> with_reducible rfl)
        try simp only [Act.put, List.setIfInBounds_toArray, List.set_cons_zero, List.set_cons_succ]
        refine wpAnyH_take (i := 4) (oi := { dst := some 37, op := _, type := _, pos := _, after := _, guard := _ }) (v := ?_) rfl (by kernel_rfl) (by kernel_rfl) (by kernel_rfl) (fun _ _ _ h => h) (Or.inl ⟨by rfl, ?_⟩) hHeld ?_
        rotate_left
        · (intro w hSw; have ck := (HN2.out _ (hSw).2).1.2; have k0 := ck 0; have k1 := ck 1; simp at k0 k1; clear ck; go_simp <;> with_reducible rfl)
        try simp only [Act.put, List.setIfInBounds_toArray, List.set_cons_zero, List.set_cons_succ]
        refine wpAnyH_ready (rs := [1]) (by kernel_rfl) (by simp) ?_
        refine AllReadyH.cons (o := { dst := some 34, op := _, type := _, pos := _, after := _, guard := _ }) rfl (fun K hK => ?_) AllReadyH.nil
        go_simp
        refine (HD.out _ (HSL.out _ hHeld.1) (HTB.out _ hHeld.1)).mono ?_
        rintro e u1 ⟨⟨l1, A1, c1, rfl, ho1, hot1⟩, hk1⟩
        have hKeep := And.intro (since_step hHeld.1 hk1) (since_step hHeld.2 hk1)
        have hs1 := Sl.of_own ho1
        have ht1 := hot1.tab
        have hl1 : l1.length ≤ 1000000 := by rw [ht1.1]; exact HLL.out
        clear ho1 hot1
        go_wp2_with fail
        refine hK.out _ _ (by (try dsimp only); exact hKeep) (fun hHeld => ?_)
        clear hK K hKeep
        try simp only [Act.put, List.setIfInBounds_toArray, List.set_cons_zero, List.set_cons_succ]
        refine wpAnyH_ready (rs := [5]) (by kernel_rfl) (by simp) ?_
        refine AllReadyH.cons (o := { dst := some 38, op := _, type := _, pos := _, after := _, guard := _ }) rfl (fun K hK => ?_) AllReadyH.nil
        go_simp
        refine (HPU.out A1 c1 l1 A2 c2 _ hl1 hs1).mono ?_
        rintro e u3 ⟨⟨A3, c3, rfl, ho3⟩, hk3⟩
        have hKeep := And.intro (since_step hHeld.1 hk3) (since_step hHeld.2 hk3)
        have ht1 := ht1.below hk3
        go_wp2_with fail
        refine hK.out _ _ (by (try dsimp only); exact hKeep) (fun hHeld => ?_)
        clear hK K hKeep
        try simp only [Act.put, List.setIfInBounds_toArray, List.set_cons_zero, List.set_cons_succ]
        refine wpAnyH_take (i := 6) (oi := { dst := some 6, op := _, type := _, pos := _, after := _, guard := _ }) (v := ?_) rfl (by kernel_rfl) (by kernel_rfl) (by kernel_rfl) (fun _ _ _ h => h) (Or.inl ⟨by rfl, ?_⟩) hHeld ?_
        rotate_left
        · (intro w hSw; have ck := (HN2.out _ (hSw).2).1.2; have k0 := ck 0; have k1 := ck 1; simp at k0 k1; clear ck; go_simp <;> with_reducible rfl)
        try simp only [Act.put, List.setIfInBounds_toArray, List.set_cons_zero, List.set_cons_succ]
        refine wpAnyH_take (i := 7) (oi := { dst := some 7, op := _, type := _, pos := _, after := _, guard := _ }) (v := ?_) rfl (by kernel_rfl) (by kernel_rfl) (by kernel_rfl) (fun _ _ _ h => h) (Or.inl ⟨by rfl, ?_⟩) hHeld ?_
        rotate_left
        · (intro w hSw; have ck := (HN2.out _ (hSw).2).1.2; have k0 := ck 0; have k1 := ck 1; simp at k0 k1; clear ck; go_simp <;> with_reducible rfl)
        try simp only [Act.put, List.setIfInBounds_toArray, List.set_cons_zero, List.set_cons_succ]
        refine wpAnyH_done (by kernel_rfl) ?_ _
        have hBz := hHeld.1
        have hs2 := (HN2.out _ hHeld.2).2
        have hcap := CapH.of_own ho3
        have hsz := Sl.of_own ho3
        have htz := PoTab.put (w := u3) (g := ⟨a, c, A2, (x :: r).length, c2⟩) (c := ⟨a, c, x :: r⟩) ah_is ⟨rfl, rfl, rfl, hs2⟩ ht1
        rw [← putL_eq] at htz
        go_wp2_with fail
        go_ret2
        rw [HR.out]
        exact ⟨⟨_, A3, c3, rfl, hsz, htz, hcap⟩, hBz⟩
end Go.Proofs.YtahdmomadbbhoaaGreat
end
section
namespace Go.Proofs.YtahdmomadbbhoaaGreat
open Go.ChangeShapes Go.WideShapes Go.ChangeAt Go.RowKit
set_option linter.unusedVariables false
set_option linter.unusedSimpArgs false

theorem none_afterP {b : Pc} {r : List Pc} (h : SoH (b :: r)) {a c : Int} (hu : unH a c b = true) : ∀ z ∈ r, unH a c z = false := by
  intro z hz
  have := List.rel_of_pairwise_cons h hz
  rw [unH_no]; rw [unH_iff] at hu; rw [ahH_iff] at this; omega
end Go.Proofs.YtahdmomadbbhoaaGreat
end
