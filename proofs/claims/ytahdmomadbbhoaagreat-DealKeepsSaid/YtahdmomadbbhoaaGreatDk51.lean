import Derived.Test.YtahdmomadbbhoaaGreatDk48
section
namespace Go.Proofs.YtahdmomadbbhoaaGreat
open Go.ChangeShapes Go.WideShapes Go.ChangeAt Go.RowKit
set_option linter.unusedVariables false
set_option linter.unusedSimpArgs false

set_option maxHeartbeats 32000000 in
set_option maxRecDepth 100000 in
theorem dealkeeps_any (a0 : Option Addr) (c0 : Nat) (l : List Po) (a1 : Option Addr) (n1 c1 : Nat) (p : List Fw) (i : Ins) (IA : Option Addr) (IC : Nat) (fa fc ta tc oa oc q pr : Int) (w : World) (hs0 : Sl w a0 (rc Po.cells l)) (hd0 : ∀ g ∈ l, InK w g) (hp20 : p.length ≤ 20) (hpq : ∀ x ∈ p, Fw.in_ x) (hsp : Sl w a1 (rc Fw.cells p)) (HF1 : Hid (∀ V, Below w.heap.size w V → Calls Tryz.prog 29 #[.slice a1 n1 c1] V fun e w' => e = .returned (.slice a1 p.length c1) ∧ Below V.heap.size V w')) (hi0 : InsAt w i IA IC) (hf : In64 fa ∧ In64 fc) (ht : In64 ta ∧ In64 tc) (ho : In64 oa ∧ In64 oc) (h_q : In64 q) (h_pr : In64 pr) :
    Calls Tryz.prog 4 #[.slice a0 l.length c0, .slice a1 n1 c1, insV i IA IC, .agg #[.int .i64 fa, .int .i64 fc], .agg #[.int .i64 ta, .int .i64 tc], .agg #[.int .i64 oa, .int .i64 oc], .int .i64 q, .int .i64 pr] w fun e w' => e = .returned (.bool true) ∧ Below w.heap.size w w' := by
  have hB0 := since_alloc (since_alloc (since_alloc (since_alloc (Below.refl _ w) (.cells #[.int .i64 i.id, .int .i64 i.mult, .int .i64 i.price, .int .i64 i.nxt, .slice IA i.mv.length IC] 26)) (.cells #[.int .i64 fa, .int .i64 fc] 28)) (.cells #[.int .i64 ta, .int .i64 tc] 28)) (.cells #[.int .i64 oa, .int .i64 oc] 28)
  have KI := ((((IX.new w i IA IC 26).below ((Below.refl _ _).alloc (Nat.le_refl _) (.cells #[.int .i64 fa, .int .i64 fc] 28))).below ((Below.refl _ _).alloc (Nat.le_refl _) (.cells #[.int .i64 ta, .int .i64 tc] 28))).below ((Below.refl _ _).alloc (Nat.le_refl _) (.cells #[.int .i64 oa, .int .i64 oc] 28)))
  have KF := (((Bk.new (w.alloc (.cells #[.int .i64 i.id, .int .i64 i.mult, .int .i64 i.price, .int .i64 i.nxt, .slice IA i.mv.length IC] 26)) #[.int .i64 fa, .int .i64 fc] 28).below ((Below.refl _ _).alloc (Nat.le_refl _) (.cells #[.int .i64 ta, .int .i64 tc] 28))).below ((Below.refl _ _).alloc (Nat.le_refl _) (.cells #[.int .i64 oa, .int .i64 oc] 28)))
  rw [World.size_alloc] at KF
  have KT := ((Bk.new ((w.alloc (.cells #[.int .i64 i.id, .int .i64 i.mult, .int .i64 i.price, .int .i64 i.nxt, .slice IA i.mv.length IC] 26)).alloc (.cells #[.int .i64 fa, .int .i64 fc] 28)) #[.int .i64 ta, .int .i64 tc] 28).below ((Below.refl _ _).alloc (Nat.le_refl _) (.cells #[.int .i64 oa, .int .i64 oc] 28)))
  rw [World.size_alloc, World.size_alloc] at KT
  have KO := (Bk.new (((w.alloc (.cells #[.int .i64 i.id, .int .i64 i.mult, .int .i64 i.price, .int .i64 i.nxt, .slice IA i.mv.length IC] 26)).alloc (.cells #[.int .i64 fa, .int .i64 fc] 28)).alloc (.cells #[.int .i64 ta, .int .i64 tc] 28)) #[.int .i64 oa, .int .i64 oc] 28)
  rw [World.size_alloc, World.size_alloc, World.size_alloc] at KO
  have HFW := Lib.hid (fun V (h : Below w.heap.size w V) => few21v_any a0 c0 l a1 n1 c1 p w V h (hs0.below h) hd0 (Lib.hid fun V' h' => HF1.out V' (since_step h h')))
  unfold FewDV at HFW
  have hON := fun V (h : Below w.heap.size w V) => one21_any i IA IC V (hi0.below h)
  have hj := InsAt.one hi0
  have HSP : Hid (∀ V, Below w.heap.size w V → Sl V a1 (rc Fw.cells p)) := Lib.hid fun V h => hsp.below h
  unfold insV at hON ⊢
  generalize oneI i = j at *
  have HON := Lib.hid hON
  have HIJ : Hid (∀ V, Below w.heap.size w V → InsAt V j IA IC) := Lib.hid fun V h => hj.below h
  have hj6 := hj.n64
  clear hs0 hd0 hsp HF1 hi0 hON hj
  go_enter Tryz.func4, Tryz.ntmps4
  go_upto_region 1 with fail
  generalize hWW : ((((w.alloc (.cells #[.int .i64 i.id, .int .i64 i.mult, .int .i64 i.price, .int .i64 i.nxt, .slice IA i.mv.length IC] 26)).alloc (.cells #[.int .i64 fa, .int .i64 fc] 28)).alloc (.cells #[.int .i64 ta, .int .i64 tc] 28)).alloc (.cells #[.int .i64 oa, .int .i64 oc] 28)) = W at *
  clear hWW
  go_cut [17] (fun s17 wx => ∃ (g : Nat) (R : List Po) (cs : List Pc) (A' : Option Addr) (c' : Nat), s17 = .pointer (some ⟨g, 0, none⟩) ∧ Bk wx g #[.slice A' R.length c', .slice a1 p.length c1] ∧ Bk wx w.heap.size #[.int .i64 j.id, .int .i64 j.mult, .int .i64 j.price, .int .i64 j.nxt, .slice IA j.mv.length IC] ∧ Bk wx (w.heap.size + 1) #[.int .i64 fa, .int .i64 fc] ∧ Bk wx (w.heap.size + 1 + 1) #[.int .i64 ta, .int .i64 tc] ∧ Bk wx (w.heap.size + 1 + 1 + 1) #[.int .i64 oa, .int .i64 oc] ∧ Sl wx A' (rc Po.cells R) ∧ PoTab w R cs ∧ R.length ≤ 12 ∧ GoodH cs ∧ KeysH cs ∧ Below w.heap.size w wx)
  case first =>
    focus
      have KI := KI.below (Below.refl _ W).drew
      have KF := KF.below (Below.refl _ W).drew
      have KT := KT.below (Below.refl _ W).drew
      have KO := KO.below (Below.refl _ W).drew
      go_wp2_with fail
      refine wp_region_held_drew (S := (fun V => Below w.heap.size w V)) (by kernel_rfl) (by exact hB0.drew) (fun hHeld => ?_)
      generalize W.drew = VD at *
      refine wpAnyH_take (i := 0) (oi := { dst := some 24, op := _, type := _, pos := _, after := _, guard := _ }) (v := ?_) rfl (by kernel_rfl) (by kernel_rfl) (by kernel_rfl) (fun _ _ _ h => h) (Or.inl ⟨by rfl, ?_⟩) hHeld ?_
      rotate_left
      · (intro w hSw; clear hSw; go_simp <;> with_reducible rfl)
      try simp only [Act.put, List.setIfInBounds_toArray, List.set_cons_zero, List.set_cons_succ]
      refine wpAnyH_take (i := 1) (oi := { dst := some 25, op := _, type := _, pos := _, after := _, guard := _ }) (v := ?_) rfl (by kernel_rfl) (by kernel_rfl) (by kernel_rfl) (fun _ _ _ h => h) (Or.inl ⟨by rfl, ?_⟩) hHeld ?_
      rotate_left
      · (intro w hSw; clear hSw; go_simp <;> with_reducible rfl)
      try simp only [Act.put, List.setIfInBounds_toArray, List.set_cons_zero, List.set_cons_succ]
      refine wpAnyH_ready (rs := [2, 3, 5]) (by kernel_rfl) (by simp) ?_
      refine AllReadyH.cons (o := { dst := some 26, op := _, type := _, pos := _, after := _, guard := _ }) rfl (fun K hK => ?_) (AllReadyH.cons (o := { dst := some 27, op := _, type := _, pos := _, after := _, guard := _ }) rfl (fun K hK => ?_) (AllReadyH.cons (o := { dst := some 17, op := _, type := _, pos := _, after := _, guard := _ }) rfl (fun K hK => ?_) AllReadyH.nil))
      · go_simp
        refine (HFW.out _ hHeld).mono ?_
        rintro e x1 ⟨⟨R, cs, A', c', rfl, ownR, htR, hR, hg, hk⟩, hk1⟩
        have hKeep := since_step hHeld hk1
        have HL := Lies.of_own ownR
        have HQ := Lib.hid (And.intro htR (And.intro hR (And.intro hg hk)))
        clear ownR htR hR hg hk
        have hB9 := Nat.lt_succ_of_le hHeld.size
        have KI := KI.below hk1
        have KF := KF.below hk1
        have KT := KT.below hk1
        have KO := KO.below hk1
        clear hk1
        go_wp2_with fail
        refine hK.out _ _ (by (try dsimp only); exact hKeep) (fun hHeld => ?_)
        clear hK K hKeep
        try simp only [Act.put, List.setIfInBounds_toArray, List.set_cons_zero, List.set_cons_succ]
        refine wpAnyH_ready (rs := [3, 5]) (by kernel_rfl) (by simp) ?_
        refine AllReadyH.cons (o := { dst := some 27, op := _, type := _, pos := _, after := _, guard := _ }) rfl (fun K hK => ?_) (AllReadyH.cons (o := { dst := some 17, op := _, type := _, pos := _, after := _, guard := _ }) rfl (fun K hK => ?_) AllReadyH.nil)
        · have hHd := hHeld
          skip
          obtain ⟨q_, ⟨r0, r1, r2, r3, r4⟩, q__⟩ := KI.got
          have hKeep := hHeld
          go_simp
          refine hK.out _ _ (by (try dsimp only); exact hKeep) (fun hHeld => ?_)
          clear hK K hKeep
          try simp only [Act.put, List.setIfInBounds_toArray, List.set_cons_zero, List.set_cons_succ]
          refine wpAnyH_ready (rs := [4, 5]) (by kernel_rfl) (by simp) ?_
          refine AllReadyH.cons (o := { dst := some 28, op := _, type := _, pos := _, after := _, guard := _ }) rfl (fun K hK => ?_) (AllReadyH.cons (o := { dst := some 17, op := _, type := _, pos := _, after := _, guard := _ }) rfl (fun K hK => ?_) AllReadyH.nil)
          · go_simp
            refine (HON.out _ hHeld).mono ?_
            rintro e x2 ⟨rfl, hk2⟩
            have hKeep := since_step hHeld hk2
            have KI := KI.below hk2
            have KF := KF.below hk2
            have KT := KT.below hk2
            have KO := KO.below hk2
            have HL := HL.below hk2
            clear hk2
            go_wp2_with fail
            refine hK.out _ _ (by (try dsimp only); exact hKeep) (fun hHeld => ?_)
            clear hK K hKeep
            try simp only [Act.put, List.setIfInBounds_toArray, List.set_cons_zero, List.set_cons_succ]
            refine wpAnyH_ready (rs := [5]) (by kernel_rfl) (by simp) ?_
            refine AllReadyH.cons (o := { dst := some 17, op := _, type := _, pos := _, after := _, guard := _ }) rfl (fun K hK => ?_) AllReadyH.nil
            have hHd := hHeld
            skip
            have hg5 : w.heap.size + 1 + 1 + 1 < x2.heap.size := by have h := KO.1; exact h
            have X5 := DB.new x2 30
            have hHp := hHeld
            have hKeep := since_alloc hHeld (.cells #[.slice none 0 0, .slice none 0 0] 30)
            go_simp
            refine hK.out _ _ (by (try dsimp only); exact hKeep) (fun hHeld => ?_)
            clear hK K hKeep
            try simp only [Act.put, List.setIfInBounds_toArray, List.set_cons_zero, List.set_cons_succ]
            refine wpAnyH_ready (rs := [6]) (by kernel_rfl) (by simp) ?_
            refine AllReadyH.cons (o := { dst := none, op := _, type := _, pos := _, after := _, guard := _ }) rfl (fun K hK => ?_) AllReadyH.nil
            have hHd := hHeld
            skip
            obtain ⟨y0, y1, y2, y3, y4⟩ := X5.got
            have D5 := Bk.new x2 #[.slice A' R.length c', .slice a1 p.length c1] 30
            have hA := (Below.refl x2.heap.size x2).alloc (Nat.le_refl _) (.cells #[.slice A' R.length c', .slice a1 p.length c1] 30)
            have KI := KI.below hA
            have KF := KF.below hA
            have KT := KT.below hA
            have KO := KO.below hA
            have HL := HL.below hA
            clear hA
            have hKeep := since_alloc hHp (.cells #[.slice A' R.length c', .slice a1 p.length c1] 30)
            skip
            go_simp
            refine hK.out _ _ (by (try dsimp only); exact hKeep) (fun hHeld => ?_)
            clear hK K hKeep
            try simp only [Act.put, List.setIfInBounds_toArray, List.set_cons_zero, List.set_cons_succ]
            refine wpAnyH_ready (rs := [7]) (by kernel_rfl) (by simp) ?_
            refine AllReadyH.cons (o := { dst := none, op := _, type := _, pos := _, after := _, guard := _ }) rfl (fun K hK => ?_) AllReadyH.nil
            have hHd := hHeld
            skip
            obtain ⟨q_, ⟨r0, r1, r2, r3, r4⟩, ⟨s0, s1, s2, s3, s4⟩⟩ := KI.got
            have D0 := KI.set (.int .i64 j.id) (.int .i64 j.mult) (.int .i64 j.price) (.int .i64 j.nxt) (.slice IA j.mv.length IC)
            have KF := KF.far2 (p := ⟨w.heap.size, 0, none⟩) (by show w.heap.size ≠ w.heap.size + 1; omega) (.int .i64 j.id)
            have KT := KT.far2 (p := ⟨w.heap.size, 0, none⟩) (by show w.heap.size ≠ w.heap.size + 1 + 1; omega) (.int .i64 j.id)
            have KO := KO.far2 (p := ⟨w.heap.size, 0, none⟩) (by show w.heap.size ≠ w.heap.size + 1 + 1 + 1; omega) (.int .i64 j.id)
            have D5 := D5.far2 (p := ⟨w.heap.size, 0, none⟩) (by show w.heap.size ≠ x2.heap.size; omega) (.int .i64 j.id)
            have HL := HL.set (p := ⟨w.heap.size, 0, none⟩) (.inl hB9) (.int .i64 j.id)
            have KF := KF.far2 (p := ⟨w.heap.size, 1, none⟩) (by show w.heap.size ≠ w.heap.size + 1; omega) (.int .i64 j.mult)
            have KT := KT.far2 (p := ⟨w.heap.size, 1, none⟩) (by show w.heap.size ≠ w.heap.size + 1 + 1; omega) (.int .i64 j.mult)
            have KO := KO.far2 (p := ⟨w.heap.size, 1, none⟩) (by show w.heap.size ≠ w.heap.size + 1 + 1 + 1; omega) (.int .i64 j.mult)
            have D5 := D5.far2 (p := ⟨w.heap.size, 1, none⟩) (by show w.heap.size ≠ x2.heap.size; omega) (.int .i64 j.mult)
            have HL := HL.set (p := ⟨w.heap.size, 1, none⟩) (.inl hB9) (.int .i64 j.mult)
            have KF := KF.far2 (p := ⟨w.heap.size, 2, none⟩) (by show w.heap.size ≠ w.heap.size + 1; omega) (.int .i64 j.price)
            have KT := KT.far2 (p := ⟨w.heap.size, 2, none⟩) (by show w.heap.size ≠ w.heap.size + 1 + 1; omega) (.int .i64 j.price)
            have KO := KO.far2 (p := ⟨w.heap.size, 2, none⟩) (by show w.heap.size ≠ w.heap.size + 1 + 1 + 1; omega) (.int .i64 j.price)
            have D5 := D5.far2 (p := ⟨w.heap.size, 2, none⟩) (by show w.heap.size ≠ x2.heap.size; omega) (.int .i64 j.price)
            have HL := HL.set (p := ⟨w.heap.size, 2, none⟩) (.inl hB9) (.int .i64 j.price)
            have KF := KF.far2 (p := ⟨w.heap.size, 3, none⟩) (by show w.heap.size ≠ w.heap.size + 1; omega) (.int .i64 j.nxt)
            have KT := KT.far2 (p := ⟨w.heap.size, 3, none⟩) (by show w.heap.size ≠ w.heap.size + 1 + 1; omega) (.int .i64 j.nxt)
            have KO := KO.far2 (p := ⟨w.heap.size, 3, none⟩) (by show w.heap.size ≠ w.heap.size + 1 + 1 + 1; omega) (.int .i64 j.nxt)
            have D5 := D5.far2 (p := ⟨w.heap.size, 3, none⟩) (by show w.heap.size ≠ x2.heap.size; omega) (.int .i64 j.nxt)
            have HL := HL.set (p := ⟨w.heap.size, 3, none⟩) (.inl hB9) (.int .i64 j.nxt)
            have KF := KF.far2 (p := ⟨w.heap.size, 4, none⟩) (by show w.heap.size ≠ w.heap.size + 1; omega) (.slice IA j.mv.length IC)
            have KT := KT.far2 (p := ⟨w.heap.size, 4, none⟩) (by show w.heap.size ≠ w.heap.size + 1 + 1; omega) (.slice IA j.mv.length IC)
            have KO := KO.far2 (p := ⟨w.heap.size, 4, none⟩) (by show w.heap.size ≠ w.heap.size + 1 + 1 + 1; omega) (.slice IA j.mv.length IC)
            have D5 := D5.far2 (p := ⟨w.heap.size, 4, none⟩) (by show w.heap.size ≠ x2.heap.size; omega) (.slice IA j.mv.length IC)
            have HL := HL.set (p := ⟨w.heap.size, 4, none⟩) (.inl hB9) (.slice IA j.mv.length IC)
            have hKeep := (Below.setCell (Below.setCell (Below.setCell (Below.setCell (Below.setCell hHeld (p := ⟨w.heap.size, 0, none⟩) (Nat.le_refl _) (.int .i64 j.id)) (p := ⟨w.heap.size, 1, none⟩) (Nat.le_refl _) (.int .i64 j.mult)) (p := ⟨w.heap.size, 2, none⟩) (Nat.le_refl _) (.int .i64 j.price)) (p := ⟨w.heap.size, 3, none⟩) (Nat.le_refl _) (.int .i64 j.nxt)) (p := ⟨w.heap.size, 4, none⟩) (Nat.le_refl _) (.slice IA j.mv.length IC))
            skip
            go_simp
            refine hK.out _ _ (by (try dsimp only); exact hKeep) (fun hHeld => ?_)
            clear hK K hKeep
            try simp only [Act.put, List.setIfInBounds_toArray, List.set_cons_zero, List.set_cons_succ]
            refine wpAnyH_done (by kernel_rfl) ?_ _
            go_wp2_with fail
            go_meet
            case rel => exact ⟨_, R, cs, A', c', rfl, D5, D0, KF, KT, KO, HL.1, HQ.out.1, HQ.out.2.1, HQ.out.2.2.1, HQ.out.2.2.2, hHeld⟩
          · have hHd := hHeld
            skip
            have hg5 : w.heap.size + 1 + 1 + 1 < x1.heap.size := by have h := KO.1; exact h
            have X5 := DB.new x1 30
            have hHp := hHeld
            have hA := (Below.refl x1.heap.size x1).alloc (Nat.le_refl _) (.cells #[.slice none 0 0, .slice none 0 0] 30)
            have KI := KI.below hA
            have KF := KF.below hA
            have KT := KT.below hA
            have KO := KO.below hA
            have HL := HL.below hA
            clear hA
            have hX5 : x1.heap.size ≤ x1.heap.size := Nat.le_refl _
            have hKeep := since_alloc hHeld (.cells #[.slice none 0 0, .slice none 0 0] 30)
            go_simp
            refine hK.out _ _ (by (try dsimp only); exact hKeep) (fun hHeld => ?_)
            clear hK K hKeep
            try simp only [Act.put, List.setIfInBounds_toArray, List.set_cons_zero, List.set_cons_succ]
            refine wpAnyH_ready (rs := [4]) (by kernel_rfl) (by simp) ?_
            refine AllReadyH.cons (o := { dst := some 28, op := _, type := _, pos := _, after := _, guard := _ }) rfl (fun K hK => ?_) AllReadyH.nil
            go_simp
            refine (HON.out _ hHeld).mono ?_
            rintro e x2 ⟨rfl, hk2⟩
            have hKeep := since_step hHeld hk2
            have KI := KI.below hk2
            have KF := KF.below hk2
            have KT := KT.below hk2
            have KO := KO.below hk2
            have HL := HL.below hk2
            have X5 := X5.below hk2
            clear hk2
            go_wp2_with fail
            refine hK.out _ _ (by (try dsimp only); exact hKeep) (fun hHeld => ?_)
            clear hK K hKeep
            try simp only [Act.put, List.setIfInBounds_toArray, List.set_cons_zero, List.set_cons_succ]
            refine wpAnyH_ready (rs := [6]) (by kernel_rfl) (by simp) ?_
            refine AllReadyH.cons (o := { dst := none, op := _, type := _, pos := _, after := _, guard := _ }) rfl (fun K hK => ?_) AllReadyH.nil
            have hHd := hHeld
            skip
            obtain ⟨y0, y1, y2, y3, y4⟩ := X5.got
            have D5 := X5.set (.slice A' R.length c') (.slice a1 p.length c1)
            have KI := KI.far (p := ⟨x1.heap.size, 0, none⟩) (by show x1.heap.size ≠ w.heap.size; omega) (.slice A' R.length c')
            have KF := KF.far2 (p := ⟨x1.heap.size, 0, none⟩) (by show x1.heap.size ≠ w.heap.size + 1; omega) (.slice A' R.length c')
            have KT := KT.far2 (p := ⟨x1.heap.size, 0, none⟩) (by show x1.heap.size ≠ w.heap.size + 1 + 1; omega) (.slice A' R.length c')
            have KO := KO.far2 (p := ⟨x1.heap.size, 0, none⟩) (by show x1.heap.size ≠ w.heap.size + 1 + 1 + 1; omega) (.slice A' R.length c')
            have HL := HL.set (p := ⟨x1.heap.size, 0, none⟩) (.inr hX5) (.slice A' R.length c')
            have KI := KI.far (p := ⟨x1.heap.size, 1, none⟩) (by show x1.heap.size ≠ w.heap.size; omega) (.slice a1 p.length c1)
            have KF := KF.far2 (p := ⟨x1.heap.size, 1, none⟩) (by show x1.heap.size ≠ w.heap.size + 1; omega) (.slice a1 p.length c1)
            have KT := KT.far2 (p := ⟨x1.heap.size, 1, none⟩) (by show x1.heap.size ≠ w.heap.size + 1 + 1; omega) (.slice a1 p.length c1)
            have KO := KO.far2 (p := ⟨x1.heap.size, 1, none⟩) (by show x1.heap.size ≠ w.heap.size + 1 + 1 + 1; omega) (.slice a1 p.length c1)
            have HL := HL.set (p := ⟨x1.heap.size, 1, none⟩) (.inr hX5) (.slice a1 p.length c1)
            have hgw : w.heap.size ≤ x1.heap.size := by omega
            have hKeep := Below.setCell (Below.setCell hHeld (p := ⟨x1.heap.size, 0, none⟩) hgw (.slice A' R.length c')) (p := ⟨x1.heap.size, 1, none⟩) hgw (.slice a1 p.length c1)
            skip
            go_simp
            refine hK.out _ _ (by (try dsimp only); exact hKeep) (fun hHeld => ?_)
            clear hK K hKeep
            try simp only [Act.put, List.setIfInBounds_toArray, List.set_cons_zero, List.set_cons_succ]
            refine wpAnyH_ready (rs := [7]) (by kernel_rfl) (by simp) ?_
            refine AllReadyH.cons (o := { dst := none, op := _, type := _, pos := _, after := _, guard := _ }) rfl (fun K hK => ?_) AllReadyH.nil
            have hHd := hHeld
            skip
            obtain ⟨q_, ⟨r0, r1, r2, r3, r4⟩, ⟨s0, s1, s2, s3, s4⟩⟩ := KI.got
            have D0 := KI.set (.int .i64 j.id) (.int .i64 j.mult) (.int .i64 j.price) (.int .i64 j.nxt) (.slice IA j.mv.length IC)
            have KF := KF.far2 (p := ⟨w.heap.size, 0, none⟩) (by show w.heap.size ≠ w.heap.size + 1; omega) (.int .i64 j.id)
            have KT := KT.far2 (p := ⟨w.heap.size, 0, none⟩) (by show w.heap.size ≠ w.heap.size + 1 + 1; omega) (.int .i64 j.id)
            have KO := KO.far2 (p := ⟨w.heap.size, 0, none⟩) (by show w.heap.size ≠ w.heap.size + 1 + 1 + 1; omega) (.int .i64 j.id)
            have D5 := D5.far2 (p := ⟨w.heap.size, 0, none⟩) (by show w.heap.size ≠ x1.heap.size; omega) (.int .i64 j.id)
            have HL := HL.set (p := ⟨w.heap.size, 0, none⟩) (.inl hB9) (.int .i64 j.id)
            have KF := KF.far2 (p := ⟨w.heap.size, 1, none⟩) (by show w.heap.size ≠ w.heap.size + 1; omega) (.int .i64 j.mult)
            have KT := KT.far2 (p := ⟨w.heap.size, 1, none⟩) (by show w.heap.size ≠ w.heap.size + 1 + 1; omega) (.int .i64 j.mult)
            have KO := KO.far2 (p := ⟨w.heap.size, 1, none⟩) (by show w.heap.size ≠ w.heap.size + 1 + 1 + 1; omega) (.int .i64 j.mult)
            have D5 := D5.far2 (p := ⟨w.heap.size, 1, none⟩) (by show w.heap.size ≠ x1.heap.size; omega) (.int .i64 j.mult)
            have HL := HL.set (p := ⟨w.heap.size, 1, none⟩) (.inl hB9) (.int .i64 j.mult)
            have KF := KF.far2 (p := ⟨w.heap.size, 2, none⟩) (by show w.heap.size ≠ w.heap.size + 1; omega) (.int .i64 j.price)
            have KT := KT.far2 (p := ⟨w.heap.size, 2, none⟩) (by show w.heap.size ≠ w.heap.size + 1 + 1; omega) (.int .i64 j.price)
            have KO := KO.far2 (p := ⟨w.heap.size, 2, none⟩) (by show w.heap.size ≠ w.heap.size + 1 + 1 + 1; omega) (.int .i64 j.price)
            have D5 := D5.far2 (p := ⟨w.heap.size, 2, none⟩) (by show w.heap.size ≠ x1.heap.size; omega) (.int .i64 j.price)
            have HL := HL.set (p := ⟨w.heap.size, 2, none⟩) (.inl hB9) (.int .i64 j.price)
            have KF := KF.far2 (p := ⟨w.heap.size, 3, none⟩) (by show w.heap.size ≠ w.heap.size + 1; omega) (.int .i64 j.nxt)
            have KT := KT.far2 (p := ⟨w.heap.size, 3, none⟩) (by show w.heap.size ≠ w.heap.size + 1 + 1; omega) (.int .i64 j.nxt)
            have KO := KO.far2 (p := ⟨w.heap.size, 3, none⟩) (by show w.heap.size ≠ w.heap.size + 1 + 1 + 1; omega) (.int .i64 j.nxt)
            have D5 := D5.far2 (p := ⟨w.heap.size, 3, none⟩) (by show w.heap.size ≠ x1.heap.size; omega) (.int .i64 j.nxt)
            have HL := HL.set (p := ⟨w.heap.size, 3, none⟩) (.inl hB9) (.int .i64 j.nxt)
            have KF := KF.far2 (p := ⟨w.heap.size, 4, none⟩) (by show w.heap.size ≠ w.heap.size + 1; omega) (.slice IA j.mv.length IC)
            have KT := KT.far2 (p := ⟨w.heap.size, 4, none⟩) (by show w.heap.size ≠ w.heap.size + 1 + 1; omega) (.slice IA j.mv.length IC)
            have KO := KO.far2 (p := ⟨w.heap.size, 4, none⟩) (by show w.heap.size ≠ w.heap.size + 1 + 1 + 1; omega) (.slice IA j.mv.length IC)
            have D5 := D5.far2 (p := ⟨w.heap.size, 4, none⟩) (by show w.heap.size ≠ x1.heap.size; omega) (.slice IA j.mv.length IC)
            have HL := HL.set (p := ⟨w.heap.size, 4, none⟩) (.inl hB9) (.slice IA j.mv.length IC)
            have hKeep := (Below.setCell (Below.setCell (Below.setCell (Below.setCell (Below.setCell hHeld (p := ⟨w.heap.size, 0, none⟩) (Nat.le_refl _) (.int .i64 j.id)) (p := ⟨w.heap.size, 1, none⟩) (Nat.le_refl _) (.int .i64 j.mult)) (p := ⟨w.heap.size, 2, none⟩) (Nat.le_refl _) (.int .i64 j.price)) (p := ⟨w.heap.size, 3, none⟩) (Nat.le_refl _) (.int .i64 j.nxt)) (p := ⟨w.heap.size, 4, none⟩) (Nat.le_refl _) (.slice IA j.mv.length IC))
            skip
            go_simp
            refine hK.out _ _ (by (try dsimp only); exact hKeep) (fun hHeld => ?_)
            clear hK K hKeep
            try simp only [Act.put, List.setIfInBounds_toArray, List.set_cons_zero, List.set_cons_succ]
            refine wpAnyH_done (by kernel_rfl) ?_ _
            go_wp2_with fail
            go_meet
            case rel => exact ⟨_, R, cs, A', c', rfl, D5, D0, KF, KT, KO, HL.1, HQ.out.1, HQ.out.2.1, HQ.out.2.2.1, HQ.out.2.2.2, hHeld⟩
        · have hHd := hHeld
          skip
          have hg5 : w.heap.size + 1 + 1 + 1 < x1.heap.size := by have h := KO.1; exact h
          have X5 := DB.new x1 30
          have hHp := hHeld
          have hA := (Below.refl x1.heap.size x1).alloc (Nat.le_refl _) (.cells #[.slice none 0 0, .slice none 0 0] 30)
          have KI := KI.below hA
          have KF := KF.below hA
          have KT := KT.below hA
          have KO := KO.below hA
          have HL := HL.below hA
          clear hA
          have hX5 : x1.heap.size ≤ x1.heap.size := Nat.le_refl _
          have hKeep := since_alloc hHeld (.cells #[.slice none 0 0, .slice none 0 0] 30)
          go_simp
          refine hK.out _ _ (by (try dsimp only); exact hKeep) (fun hHeld => ?_)
          clear hK K hKeep
          try simp only [Act.put, List.setIfInBounds_toArray, List.set_cons_zero, List.set_cons_succ]
          refine wpAnyH_ready (rs := [3]) (by kernel_rfl) (by simp) ?_
          refine AllReadyH.cons (o := { dst := some 27, op := _, type := _, pos := _, after := _, guard := _ }) rfl (fun K hK => ?_) AllReadyH.nil
          have hHd := hHeld
          skip
          obtain ⟨q_, ⟨r0, r1, r2, r3, r4⟩, q__⟩ := KI.got
          have hKeep := hHeld
          go_simp
          refine hK.out _ _ (by (try dsimp only); exact hKeep) (fun hHeld => ?_)
          clear hK K hKeep
          try simp only [Act.put, List.setIfInBounds_toArray, List.set_cons_zero, List.set_cons_succ]
          refine wpAnyH_ready (rs := [4]) (by kernel_rfl) (by simp) ?_
          refine AllReadyH.cons (o := { dst := some 28, op := _, type := _, pos := _, after := _, guard := _ }) rfl (fun K hK => ?_) AllReadyH.nil
          go_simp
          refine (HON.out _ hHeld).mono ?_
          rintro e x2 ⟨rfl, hk2⟩
          have hKeep := since_step hHeld hk2
          have KI := KI.below hk2
          have KF := KF.below hk2
          have KT := KT.below hk2
          have KO := KO.below hk2
          have HL := HL.below hk2
          have X5 := X5.below hk2
          clear hk2
          go_wp2_with fail
          refine hK.out _ _ (by (try dsimp only); exact hKeep) (fun hHeld => ?_)
          clear hK K hKeep
          try simp only [Act.put, List.setIfInBounds_toArray, List.set_cons_zero, List.set_cons_succ]
          refine wpAnyH_ready (rs := [6]) (by kernel_rfl) (by simp) ?_
          refine AllReadyH.cons (o := { dst := none, op := _, type := _, pos := _, after := _, guard := _ }) rfl (fun K hK => ?_) AllReadyH.nil
          have hHd := hHeld
          skip
          obtain ⟨y0, y1, y2, y3, y4⟩ := X5.got
          have D5 := X5.set (.slice A' R.length c') (.slice a1 p.length c1)
          have KI := KI.far (p := ⟨x1.heap.size, 0, none⟩) (by show x1.heap.size ≠ w.heap.size; omega) (.slice A' R.length c')
          have KF := KF.far2 (p := ⟨x1.heap.size, 0, none⟩) (by show x1.heap.size ≠ w.heap.size + 1; omega) (.slice A' R.length c')
          have KT := KT.far2 (p := ⟨x1.heap.size, 0, none⟩) (by show x1.heap.size ≠ w.heap.size + 1 + 1; omega) (.slice A' R.length c')
          have KO := KO.far2 (p := ⟨x1.heap.size, 0, none⟩) (by show x1.heap.size ≠ w.heap.size + 1 + 1 + 1; omega) (.slice A' R.length c')
          have HL := HL.set (p := ⟨x1.heap.size, 0, none⟩) (.inr hX5) (.slice A' R.length c')
          have KI := KI.far (p := ⟨x1.heap.size, 1, none⟩) (by show x1.heap.size ≠ w.heap.size; omega) (.slice a1 p.length c1)
          have KF := KF.far2 (p := ⟨x1.heap.size, 1, none⟩) (by show x1.heap.size ≠ w.heap.size + 1; omega) (.slice a1 p.length c1)
          have KT := KT.far2 (p := ⟨x1.heap.size, 1, none⟩) (by show x1.heap.size ≠ w.heap.size + 1 + 1; omega) (.slice a1 p.length c1)
          have KO := KO.far2 (p := ⟨x1.heap.size, 1, none⟩) (by show x1.heap.size ≠ w.heap.size + 1 + 1 + 1; omega) (.slice a1 p.length c1)
          have HL := HL.set (p := ⟨x1.heap.size, 1, none⟩) (.inr hX5) (.slice a1 p.length c1)
          have hgw : w.heap.size ≤ x1.heap.size := by omega
          have hKeep := Below.setCell (Below.setCell hHeld (p := ⟨x1.heap.size, 0, none⟩) hgw (.slice A' R.length c')) (p := ⟨x1.heap.size, 1, none⟩) hgw (.slice a1 p.length c1)
          skip
          go_simp
          refine hK.out _ _ (by (try dsimp only); exact hKeep) (fun hHeld => ?_)
          clear hK K hKeep
          try simp only [Act.put, List.setIfInBounds_toArray, List.set_cons_zero, List.set_cons_succ]
          refine wpAnyH_ready (rs := [7]) (by kernel_rfl) (by simp) ?_
          refine AllReadyH.cons (o := { dst := none, op := _, type := _, pos := _, after := _, guard := _ }) rfl (fun K hK => ?_) AllReadyH.nil
          have hHd := hHeld
          skip
          obtain ⟨q_, ⟨r0, r1, r2, r3, r4⟩, ⟨s0, s1, s2, s3, s4⟩⟩ := KI.got
          have D0 := KI.set (.int .i64 j.id) (.int .i64 j.mult) (.int .i64 j.price) (.int .i64 j.nxt) (.slice IA j.mv.length IC)
          have KF := KF.far2 (p := ⟨w.heap.size, 0, none⟩) (by show w.heap.size ≠ w.heap.size + 1; omega) (.int .i64 j.id)
          have KT := KT.far2 (p := ⟨w.heap.size, 0, none⟩) (by show w.heap.size ≠ w.heap.size + 1 + 1; omega) (.int .i64 j.id)
          have KO := KO.far2 (p := ⟨w.heap.size, 0, none⟩) (by show w.heap.size ≠ w.heap.size + 1 + 1 + 1; omega) (.int .i64 j.id)
          have D5 := D5.far2 (p := ⟨w.heap.size, 0, none⟩) (by show w.heap.size ≠ x1.heap.size; omega) (.int .i64 j.id)
          have HL := HL.set (p := ⟨w.heap.size, 0, none⟩) (.inl hB9) (.int .i64 j.id)
          have KF := KF.far2 (p := ⟨w.heap.size, 1, none⟩) (by show w.heap.size ≠ w.heap.size + 1; omega) (.int .i64 j.mult)
          have KT := KT.far2 (p := ⟨w.heap.size, 1, none⟩) (by show w.heap.size ≠ w.heap.size + 1 + 1; omega) (.int .i64 j.mult)
          have KO := KO.far2 (p := ⟨w.heap.size, 1, none⟩) (by show w.heap.size ≠ w.heap.size + 1 + 1 + 1; omega) (.int .i64 j.mult)
          have D5 := D5.far2 (p := ⟨w.heap.size, 1, none⟩) (by show w.heap.size ≠ x1.heap.size; omega) (.int .i64 j.mult)
          have HL := HL.set (p := ⟨w.heap.size, 1, none⟩) (.inl hB9) (.int .i64 j.mult)
          have KF := KF.far2 (p := ⟨w.heap.size, 2, none⟩) (by show w.heap.size ≠ w.heap.size + 1; omega) (.int .i64 j.price)
          have KT := KT.far2 (p := ⟨w.heap.size, 2, none⟩) (by show w.heap.size ≠ w.heap.size + 1 + 1; omega) (.int .i64 j.price)
          have KO := KO.far2 (p := ⟨w.heap.size, 2, none⟩) (by show w.heap.size ≠ w.heap.size + 1 + 1 + 1; omega) (.int .i64 j.price)
          have D5 := D5.far2 (p := ⟨w.heap.size, 2, none⟩) (by show w.heap.size ≠ x1.heap.size; omega) (.int .i64 j.price)
          have HL := HL.set (p := ⟨w.heap.size, 2, none⟩) (.inl hB9) (.int .i64 j.price)
          have KF := KF.far2 (p := ⟨w.heap.size, 3, none⟩) (by show w.heap.size ≠ w.heap.size + 1; omega) (.int .i64 j.nxt)
          have KT := KT.far2 (p := ⟨w.heap.size, 3, none⟩) (by show w.heap.size ≠ w.heap.size + 1 + 1; omega) (.int .i64 j.nxt)
          have KO := KO.far2 (p := ⟨w.heap.size, 3, none⟩) (by show w.heap.size ≠ w.heap.size + 1 + 1 + 1; omega) (.int .i64 j.nxt)
          have D5 := D5.far2 (p := ⟨w.heap.size, 3, none⟩) (by show w.heap.size ≠ x1.heap.size; omega) (.int .i64 j.nxt)
          have HL := HL.set (p := ⟨w.heap.size, 3, none⟩) (.inl hB9) (.int .i64 j.nxt)
          have KF := KF.far2 (p := ⟨w.heap.size, 4, none⟩) (by show w.heap.size ≠ w.heap.size + 1; omega) (.slice IA j.mv.length IC)
          have KT := KT.far2 (p := ⟨w.heap.size, 4, none⟩) (by show w.heap.size ≠ w.heap.size + 1 + 1; omega) (.slice IA j.mv.length IC)
          have KO := KO.far2 (p := ⟨w.heap.size, 4, none⟩) (by show w.heap.size ≠ w.heap.size + 1 + 1 + 1; omega) (.slice IA j.mv.length IC)
          have D5 := D5.far2 (p := ⟨w.heap.size, 4, none⟩) (by show w.heap.size ≠ x1.heap.size; omega) (.slice IA j.mv.length IC)
          have HL := HL.set (p := ⟨w.heap.size, 4, none⟩) (.inl hB9) (.slice IA j.mv.length IC)
          have hKeep := (Below.setCell (Below.setCell (Below.setCell (Below.setCell (Below.setCell hHeld (p := ⟨w.heap.size, 0, none⟩) (Nat.le_refl _) (.int .i64 j.id)) (p := ⟨w.heap.size, 1, none⟩) (Nat.le_refl _) (.int .i64 j.mult)) (p := ⟨w.heap.size, 2, none⟩) (Nat.le_refl _) (.int .i64 j.price)) (p := ⟨w.heap.size, 3, none⟩) (Nat.le_refl _) (.int .i64 j.nxt)) (p := ⟨w.heap.size, 4, none⟩) (Nat.le_refl _) (.slice IA j.mv.length IC))
          skip
          go_simp
          refine hK.out _ _ (by (try dsimp only); exact hKeep) (fun hHeld => ?_)
          clear hK K hKeep
          try simp only [Act.put, List.setIfInBounds_toArray, List.set_cons_zero, List.set_cons_succ]
          refine wpAnyH_done (by kernel_rfl) ?_ _
          go_wp2_with fail
          go_meet
          case rel => exact ⟨_, R, cs, A', c', rfl, D5, D0, KF, KT, KO, HL.1, HQ.out.1, HQ.out.2.1, HQ.out.2.2.1, HQ.out.2.2.2, hHeld⟩
      · have hHd := hHeld
        skip
        obtain ⟨q_, ⟨r0, r1, r2, r3, r4⟩, q__⟩ := KI.got
        have hKeep := hHeld
        go_simp
        refine hK.out _ _ (by (try dsimp only); exact hKeep) (fun hHeld => ?_)
        clear hK K hKeep
        try simp only [Act.put, List.setIfInBounds_toArray, List.set_cons_zero, List.set_cons_succ]
        refine wpAnyH_ready (rs := [2, 5]) (by kernel_rfl) (by simp) ?_
        refine AllReadyH.cons (o := { dst := some 26, op := _, type := _, pos := _, after := _, guard := _ }) rfl (fun K hK => ?_) (AllReadyH.cons (o := { dst := some 17, op := _, type := _, pos := _, after := _, guard := _ }) rfl (fun K hK => ?_) AllReadyH.nil)
        · go_simp
          refine (HFW.out _ hHeld).mono ?_
          rintro e x1 ⟨⟨R, cs, A', c', rfl, ownR, htR, hR, hg, hk⟩, hk1⟩
          have hKeep := since_step hHeld hk1
          have HL := Lies.of_own ownR
          have HQ := Lib.hid (And.intro htR (And.intro hR (And.intro hg hk)))
          clear ownR htR hR hg hk
          have hB9 := Nat.lt_succ_of_le hHeld.size
          have KI := KI.below hk1
          have KF := KF.below hk1
          have KT := KT.below hk1
          have KO := KO.below hk1
          clear hk1
          go_wp2_with fail
          refine hK.out _ _ (by (try dsimp only); exact hKeep) (fun hHeld => ?_)
          clear hK K hKeep
          try simp only [Act.put, List.setIfInBounds_toArray, List.set_cons_zero, List.set_cons_succ]
          refine wpAnyH_ready (rs := [4, 5]) (by kernel_rfl) (by simp) ?_
          refine AllReadyH.cons (o := { dst := some 28, op := _, type := _, pos := _, after := _, guard := _ }) rfl (fun K hK => ?_) (AllReadyH.cons (o := { dst := some 17, op := _, type := _, pos := _, after := _, guard := _ }) rfl (fun K hK => ?_) AllReadyH.nil)
          · go_simp
            refine (HON.out _ hHeld).mono ?_
            rintro e x2 ⟨rfl, hk2⟩
            have hKeep := since_step hHeld hk2
            have KI := KI.below hk2
            have KF := KF.below hk2
            have KT := KT.below hk2
            have KO := KO.below hk2
            have HL := HL.below hk2
            clear hk2
            go_wp2_with fail
            refine hK.out _ _ (by (try dsimp only); exact hKeep) (fun hHeld => ?_)
            clear hK K hKeep
            try simp only [Act.put, List.setIfInBounds_toArray, List.set_cons_zero, List.set_cons_succ]
            refine wpAnyH_ready (rs := [5]) (by kernel_rfl) (by simp) ?_
            refine AllReadyH.cons (o := { dst := some 17, op := _, type := _, pos := _, after := _, guard := _ }) rfl (fun K hK => ?_) AllReadyH.nil
            have hHd := hHeld
            skip
            have hg5 : w.heap.size + 1 + 1 + 1 < x2.heap.size := by have h := KO.1; exact h
            have X5 := DB.new x2 30
            have hHp := hHeld
            have hKeep := since_alloc hHeld (.cells #[.slice none 0 0, .slice none 0 0] 30)
            go_simp
            refine hK.out _ _ (by (try dsimp only); exact hKeep) (fun hHeld => ?_)
            clear hK K hKeep
            try simp only [Act.put, List.setIfInBounds_toArray, List.set_cons_zero, List.set_cons_succ]
            refine wpAnyH_ready (rs := [6]) (by kernel_rfl) (by simp) ?_
            refine AllReadyH.cons (o := { dst := none, op := _, type := _, pos := _, after := _, guard := _ }) rfl (fun K hK => ?_) AllReadyH.nil
            have hHd := hHeld
            skip
            obtain ⟨y0, y1, y2, y3, y4⟩ := X5.got
            have D5 := Bk.new x2 #[.slice A' R.length c', .slice a1 p.length c1] 30
            have hA := (Below.refl x2.heap.size x2).alloc (Nat.le_refl _) (.cells #[.slice A' R.length c', .slice a1 p.length c1] 30)
            have KI := KI.below hA
            have KF := KF.below hA
            have KT := KT.below hA
            have KO := KO.below hA
            have HL := HL.below hA
            clear hA
            have hKeep := since_alloc hHp (.cells #[.slice A' R.length c', .slice a1 p.length c1] 30)
            skip
            go_simp
            refine hK.out _ _ (by (try dsimp only); exact hKeep) (fun hHeld => ?_)
            clear hK K hKeep
            try simp only [Act.put, List.setIfInBounds_toArray, List.set_cons_zero, List.set_cons_succ]
            refine wpAnyH_ready (rs := [7]) (by kernel_rfl) (by simp) ?_
            refine AllReadyH.cons (o := { dst := none, op := _, type := _, pos := _, after := _, guard := _ }) rfl (fun K hK => ?_) AllReadyH.nil
            have hHd := hHeld
            skip
            obtain ⟨q_, ⟨r0, r1, r2, r3, r4⟩, ⟨s0, s1, s2, s3, s4⟩⟩ := KI.got
            have D0 := KI.set (.int .i64 j.id) (.int .i64 j.mult) (.int .i64 j.price) (.int .i64 j.nxt) (.slice IA j.mv.length IC)
            have KF := KF.far2 (p := ⟨w.heap.size, 0, none⟩) (by show w.heap.size ≠ w.heap.size + 1; omega) (.int .i64 j.id)
            have KT := KT.far2 (p := ⟨w.heap.size, 0, none⟩) (by show w.heap.size ≠ w.heap.size + 1 + 1; omega) (.int .i64 j.id)
            have KO := KO.far2 (p := ⟨w.heap.size, 0, none⟩) (by show w.heap.size ≠ w.heap.size + 1 + 1 + 1; omega) (.int .i64 j.id)
            have D5 := D5.far2 (p := ⟨w.heap.size, 0, none⟩) (by show w.heap.size ≠ x2.heap.size; omega) (.int .i64 j.id)
            have HL := HL.set (p := ⟨w.heap.size, 0, none⟩) (.inl hB9) (.int .i64 j.id)
            have KF := KF.far2 (p := ⟨w.heap.size, 1, none⟩) (by show w.heap.size ≠ w.heap.size + 1; omega) (.int .i64 j.mult)
            have KT := KT.far2 (p := ⟨w.heap.size, 1, none⟩) (by show w.heap.size ≠ w.heap.size + 1 + 1; omega) (.int .i64 j.mult)
            have KO := KO.far2 (p := ⟨w.heap.size, 1, none⟩) (by show w.heap.size ≠ w.heap.size + 1 + 1 + 1; omega) (.int .i64 j.mult)
            have D5 := D5.far2 (p := ⟨w.heap.size, 1, none⟩) (by show w.heap.size ≠ x2.heap.size; omega) (.int .i64 j.mult)
            have HL := HL.set (p := ⟨w.heap.size, 1, none⟩) (.inl hB9) (.int .i64 j.mult)
            have KF := KF.far2 (p := ⟨w.heap.size, 2, none⟩) (by show w.heap.size ≠ w.heap.size + 1; omega) (.int .i64 j.price)
            have KT := KT.far2 (p := ⟨w.heap.size, 2, none⟩) (by show w.heap.size ≠ w.heap.size + 1 + 1; omega) (.int .i64 j.price)
            have KO := KO.far2 (p := ⟨w.heap.size, 2, none⟩) (by show w.heap.size ≠ w.heap.size + 1 + 1 + 1; omega) (.int .i64 j.price)
            have D5 := D5.far2 (p := ⟨w.heap.size, 2, none⟩) (by show w.heap.size ≠ x2.heap.size; omega) (.int .i64 j.price)
            have HL := HL.set (p := ⟨w.heap.size, 2, none⟩) (.inl hB9) (.int .i64 j.price)
            have KF := KF.far2 (p := ⟨w.heap.size, 3, none⟩) (by show w.heap.size ≠ w.heap.size + 1; omega) (.int .i64 j.nxt)
            have KT := KT.far2 (p := ⟨w.heap.size, 3, none⟩) (by show w.heap.size ≠ w.heap.size + 1 + 1; omega) (.int .i64 j.nxt)
            have KO := KO.far2 (p := ⟨w.heap.size, 3, none⟩) (by show w.heap.size ≠ w.heap.size + 1 + 1 + 1; omega) (.int .i64 j.nxt)
            have D5 := D5.far2 (p := ⟨w.heap.size, 3, none⟩) (by show w.heap.size ≠ x2.heap.size; omega) (.int .i64 j.nxt)
            have HL := HL.set (p := ⟨w.heap.size, 3, none⟩) (.inl hB9) (.int .i64 j.nxt)
            have KF := KF.far2 (p := ⟨w.heap.size, 4, none⟩) (by show w.heap.size ≠ w.heap.size + 1; omega) (.slice IA j.mv.length IC)
            have KT := KT.far2 (p := ⟨w.heap.size, 4, none⟩) (by show w.heap.size ≠ w.heap.size + 1 + 1; omega) (.slice IA j.mv.length IC)
            have KO := KO.far2 (p := ⟨w.heap.size, 4, none⟩) (by show w.heap.size ≠ w.heap.size + 1 + 1 + 1; omega) (.slice IA j.mv.length IC)
            have D5 := D5.far2 (p := ⟨w.heap.size, 4, none⟩) (by show w.heap.size ≠ x2.heap.size; omega) (.slice IA j.mv.length IC)
            have HL := HL.set (p := ⟨w.heap.size, 4, none⟩) (.inl hB9) (.slice IA j.mv.length IC)
            have hKeep := (Below.setCell (Below.setCell (Below.setCell (Below.setCell (Below.setCell hHeld (p := ⟨w.heap.size, 0, none⟩) (Nat.le_refl _) (.int .i64 j.id)) (p := ⟨w.heap.size, 1, none⟩) (Nat.le_refl _) (.int .i64 j.mult)) (p := ⟨w.heap.size, 2, none⟩) (Nat.le_refl _) (.int .i64 j.price)) (p := ⟨w.heap.size, 3, none⟩) (Nat.le_refl _) (.int .i64 j.nxt)) (p := ⟨w.heap.size, 4, none⟩) (Nat.le_refl _) (.slice IA j.mv.length IC))
            skip
            go_simp
            refine hK.out _ _ (by (try dsimp only); exact hKeep) (fun hHeld => ?_)
            clear hK K hKeep
            try simp only [Act.put, List.setIfInBounds_toArray, List.set_cons_zero, List.set_cons_succ]
            refine wpAnyH_done (by kernel_rfl) ?_ _
            go_wp2_with fail
            go_meet
            case rel => exact ⟨_, R, cs, A', c', rfl, D5, D0, KF, KT, KO, HL.1, HQ.out.1, HQ.out.2.1, HQ.out.2.2.1, HQ.out.2.2.2, hHeld⟩
          · have hHd := hHeld
            skip
            have hg5 : w.heap.size + 1 + 1 + 1 < x1.heap.size := by have h := KO.1; exact h
            have X5 := DB.new x1 30
            have hHp := hHeld
            have hA := (Below.refl x1.heap.size x1).alloc (Nat.le_refl _) (.cells #[.slice none 0 0, .slice none 0 0] 30)
            have KI := KI.below hA
            have KF := KF.below hA
            have KT := KT.below hA
            have KO := KO.below hA
            have HL := HL.below hA
            clear hA
            have hX5 : x1.heap.size ≤ x1.heap.size := Nat.le_refl _
            have hKeep := since_alloc hHeld (.cells #[.slice none 0 0, .slice none 0 0] 30)
            go_simp
            refine hK.out _ _ (by (try dsimp only); exact hKeep) (fun hHeld => ?_)
            clear hK K hKeep
            try simp only [Act.put, List.setIfInBounds_toArray, List.set_cons_zero, List.set_cons_succ]
            refine wpAnyH_ready (rs := [4]) (by kernel_rfl) (by simp) ?_
            refine AllReadyH.cons (o := { dst := some 28, op := _, type := _, pos := _, after := _, guard := _ }) rfl (fun K hK => ?_) AllReadyH.nil
            go_simp
            refine (HON.out _ hHeld).mono ?_
            rintro e x2 ⟨rfl, hk2⟩
            have hKeep := since_step hHeld hk2
            have KI := KI.below hk2
            have KF := KF.below hk2
            have KT := KT.below hk2
            have KO := KO.below hk2
            have HL := HL.below hk2
            have X5 := X5.below hk2
            clear hk2
            go_wp2_with fail
            refine hK.out _ _ (by (try dsimp only); exact hKeep) (fun hHeld => ?_)
            clear hK K hKeep
            try simp only [Act.put, List.setIfInBounds_toArray, List.set_cons_zero, List.set_cons_succ]
            refine wpAnyH_ready (rs := [6]) (by kernel_rfl) (by simp) ?_
            refine AllReadyH.cons (o := { dst := none, op := _, type := _, pos := _, after := _, guard := _ }) rfl (fun K hK => ?_) AllReadyH.nil
            have hHd := hHeld
            skip
            obtain ⟨y0, y1, y2, y3, y4⟩ := X5.got
            have D5 := X5.set (.slice A' R.length c') (.slice a1 p.length c1)
            have KI := KI.far (p := ⟨x1.heap.size, 0, none⟩) (by show x1.heap.size ≠ w.heap.size; omega) (.slice A' R.length c')
            have KF := KF.far2 (p := ⟨x1.heap.size, 0, none⟩) (by show x1.heap.size ≠ w.heap.size + 1; omega) (.slice A' R.length c')
            have KT := KT.far2 (p := ⟨x1.heap.size, 0, none⟩) (by show x1.heap.size ≠ w.heap.size + 1 + 1; omega) (.slice A' R.length c')
            have KO := KO.far2 (p := ⟨x1.heap.size, 0, none⟩) (by show x1.heap.size ≠ w.heap.size + 1 + 1 + 1; omega) (.slice A' R.length c')
            have HL := HL.set (p := ⟨x1.heap.size, 0, none⟩) (.inr hX5) (.slice A' R.length c')
            have KI := KI.far (p := ⟨x1.heap.size, 1, none⟩) (by show x1.heap.size ≠ w.heap.size; omega) (.slice a1 p.length c1)
            have KF := KF.far2 (p := ⟨x1.heap.size, 1, none⟩) (by show x1.heap.size ≠ w.heap.size + 1; omega) (.slice a1 p.length c1)
            have KT := KT.far2 (p := ⟨x1.heap.size, 1, none⟩) (by show x1.heap.size ≠ w.heap.size + 1 + 1; omega) (.slice a1 p.length c1)
            have KO := KO.far2 (p := ⟨x1.heap.size, 1, none⟩) (by show x1.heap.size ≠ w.heap.size + 1 + 1 + 1; omega) (.slice a1 p.length c1)
            have HL := HL.set (p := ⟨x1.heap.size, 1, none⟩) (.inr hX5) (.slice a1 p.length c1)
            have hgw : w.heap.size ≤ x1.heap.size := by omega
            have hKeep := Below.setCell (Below.setCell hHeld (p := ⟨x1.heap.size, 0, none⟩) hgw (.slice A' R.length c')) (p := ⟨x1.heap.size, 1, none⟩) hgw (.slice a1 p.length c1)
            skip
            go_simp
            refine hK.out _ _ (by (try dsimp only); exact hKeep) (fun hHeld => ?_)
            clear hK K hKeep
            try simp only [Act.put, List.setIfInBounds_toArray, List.set_cons_zero, List.set_cons_succ]
            refine wpAnyH_ready (rs := [7]) (by kernel_rfl) (by simp) ?_
            refine AllReadyH.cons (o := { dst := none, op := _, type := _, pos := _, after := _, guard := _ }) rfl (fun K hK => ?_) AllReadyH.nil
            have hHd := hHeld
            skip
            obtain ⟨q_, ⟨r0, r1, r2, r3, r4⟩, ⟨s0, s1, s2, s3, s4⟩⟩ := KI.got
            have D0 := KI.set (.int .i64 j.id) (.int .i64 j.mult) (.int .i64 j.price) (.int .i64 j.nxt) (.slice IA j.mv.length IC)
            have KF := KF.far2 (p := ⟨w.heap.size, 0, none⟩) (by show w.heap.size ≠ w.heap.size + 1; omega) (.int .i64 j.id)
            have KT := KT.far2 (p := ⟨w.heap.size, 0, none⟩) (by show w.heap.size ≠ w.heap.size + 1 + 1; omega) (.int .i64 j.id)
            have KO := KO.far2 (p := ⟨w.heap.size, 0, none⟩) (by show w.heap.size ≠ w.heap.size + 1 + 1 + 1; omega) (.int .i64 j.id)
            have D5 := D5.far2 (p := ⟨w.heap.size, 0, none⟩) (by show w.heap.size ≠ x1.heap.size; omega) (.int .i64 j.id)
            have HL := HL.set (p := ⟨w.heap.size, 0, none⟩) (.inl hB9) (.int .i64 j.id)
            have KF := KF.far2 (p := ⟨w.heap.size, 1, none⟩) (by show w.heap.size ≠ w.heap.size + 1; omega) (.int .i64 j.mult)
            have KT := KT.far2 (p := ⟨w.heap.size, 1, none⟩) (by show w.heap.size ≠ w.heap.size + 1 + 1; omega) (.int .i64 j.mult)
            have KO := KO.far2 (p := ⟨w.heap.size, 1, none⟩) (by show w.heap.size ≠ w.heap.size + 1 + 1 + 1; omega) (.int .i64 j.mult)
            have D5 := D5.far2 (p := ⟨w.heap.size, 1, none⟩) (by show w.heap.size ≠ x1.heap.size; omega) (.int .i64 j.mult)
            have HL := HL.set (p := ⟨w.heap.size, 1, none⟩) (.inl hB9) (.int .i64 j.mult)
            have KF := KF.far2 (p := ⟨w.heap.size, 2, none⟩) (by show w.heap.size ≠ w.heap.size + 1; omega) (.int .i64 j.price)
            have KT := KT.far2 (p := ⟨w.heap.size, 2, none⟩) (by show w.heap.size ≠ w.heap.size + 1 + 1; omega) (.int .i64 j.price)
            have KO := KO.far2 (p := ⟨w.heap.size, 2, none⟩) (by show w.heap.size ≠ w.heap.size + 1 + 1 + 1; omega) (.int .i64 j.price)
            have D5 := D5.far2 (p := ⟨w.heap.size, 2, none⟩) (by show w.heap.size ≠ x1.heap.size; omega) (.int .i64 j.price)
            have HL := HL.set (p := ⟨w.heap.size, 2, none⟩) (.inl hB9) (.int .i64 j.price)
            have KF := KF.far2 (p := ⟨w.heap.size, 3, none⟩) (by show w.heap.size ≠ w.heap.size + 1; omega) (.int .i64 j.nxt)
            have KT := KT.far2 (p := ⟨w.heap.size, 3, none⟩) (by show w.heap.size ≠ w.heap.size + 1 + 1; omega) (.int .i64 j.nxt)
            have KO := KO.far2 (p := ⟨w.heap.size, 3, none⟩) (by show w.heap.size ≠ w.heap.size + 1 + 1 + 1; omega) (.int .i64 j.nxt)
            have D5 := D5.far2 (p := ⟨w.heap.size, 3, none⟩) (by show w.heap.size ≠ x1.heap.size; omega) (.int .i64 j.nxt)
            have HL := HL.set (p := ⟨w.heap.size, 3, none⟩) (.inl hB9) (.int .i64 j.nxt)
            have KF := KF.far2 (p := ⟨w.heap.size, 4, none⟩) (by show w.heap.size ≠ w.heap.size + 1; omega) (.slice IA j.mv.length IC)
            have KT := KT.far2 (p := ⟨w.heap.size, 4, none⟩) (by show w.heap.size ≠ w.heap.size + 1 + 1; omega) (.slice IA j.mv.length IC)
            have KO := KO.far2 (p := ⟨w.heap.size, 4, none⟩) (by show w.heap.size ≠ w.heap.size + 1 + 1 + 1; omega) (.slice IA j.mv.length IC)
            have D5 := D5.far2 (p := ⟨w.heap.size, 4, none⟩) (by show w.heap.size ≠ x1.heap.size; omega) (.slice IA j.mv.length IC)
            have HL := HL.set (p := ⟨w.heap.size, 4, none⟩) (.inl hB9) (.slice IA j.mv.length IC)
            have hKeep := (Below.setCell (Below.setCell (Below.setCell (Below.setCell (Below.setCell hHeld (p := ⟨w.heap.size, 0, none⟩) (Nat.le_refl _) (.int .i64 j.id)) (p := ⟨w.heap.size, 1, none⟩) (Nat.le_refl _) (.int .i64 j.mult)) (p := ⟨w.heap.size, 2, none⟩) (Nat.le_refl _) (.int .i64 j.price)) (p := ⟨w.heap.size, 3, none⟩) (Nat.le_refl _) (.int .i64 j.nxt)) (p := ⟨w.heap.size, 4, none⟩) (Nat.le_refl _) (.slice IA j.mv.length IC))
            skip
            go_simp
            refine hK.out _ _ (by (try dsimp only); exact hKeep) (fun hHeld => ?_)
            clear hK K hKeep
            try simp only [Act.put, List.setIfInBounds_toArray, List.set_cons_zero, List.set_cons_succ]
            refine wpAnyH_done (by kernel_rfl) ?_ _
            go_wp2_with fail
            go_meet
            case rel => exact ⟨_, R, cs, A', c', rfl, D5, D0, KF, KT, KO, HL.1, HQ.out.1, HQ.out.2.1, HQ.out.2.2.1, HQ.out.2.2.2, hHeld⟩
        · have hHd := hHeld
          skip
          have hg5 : w.heap.size + 1 + 1 + 1 < VD.heap.size := by have h := KO.1; exact h
          have X5 := DB.new VD 30
          have hHp := hHeld
          have hA := (Below.refl VD.heap.size VD).alloc (Nat.le_refl _) (.cells #[.slice none 0 0, .slice none 0 0] 30)
          have KI := KI.below hA
          have KF := KF.below hA
          have KT := KT.below hA
          have KO := KO.below hA
          clear hA
          have hKeep := since_alloc hHeld (.cells #[.slice none 0 0, .slice none 0 0] 30)
          go_simp
          refine hK.out _ _ (by (try dsimp only); exact hKeep) (fun hHeld => ?_)
          clear hK K hKeep
          try simp only [Act.put, List.setIfInBounds_toArray, List.set_cons_zero, List.set_cons_succ]
          refine wpAnyH_ready (rs := [2]) (by kernel_rfl) (by simp) ?_
          refine AllReadyH.cons (o := { dst := some 26, op := _, type := _, pos := _, after := _, guard := _ }) rfl (fun K hK => ?_) AllReadyH.nil
          go_simp
          refine (HFW.out _ hHeld).mono ?_
          rintro e x1 ⟨⟨R, cs, A', c', rfl, ownR, htR, hR, hg, hk⟩, hk1⟩
          have hKeep := since_step hHeld hk1
          have HL := Lies.of_own ownR
          have HQ := Lib.hid (And.intro htR (And.intro hR (And.intro hg hk)))
          clear ownR htR hR hg hk
          have hB9 := Nat.lt_succ_of_le hHeld.size
          have hX5 := Nat.lt_succ_of_lt X5.1.1
          have KI := KI.below hk1
          have KF := KF.below hk1
          have KT := KT.below hk1
          have KO := KO.below hk1
          have X5 := X5.below hk1
          clear hk1
          go_wp2_with fail
          refine hK.out _ _ (by (try dsimp only); exact hKeep) (fun hHeld => ?_)
          clear hK K hKeep
          try simp only [Act.put, List.setIfInBounds_toArray, List.set_cons_zero, List.set_cons_succ]
          refine wpAnyH_ready (rs := [4]) (by kernel_rfl) (by simp) ?_
          refine AllReadyH.cons (o := { dst := some 28, op := _, type := _, pos := _, after := _, guard := _ }) rfl (fun K hK => ?_) AllReadyH.nil
          go_simp
          refine (HON.out _ hHeld).mono ?_
          rintro e x2 ⟨rfl, hk2⟩
          have hKeep := since_step hHeld hk2
          have KI := KI.below hk2
          have KF := KF.below hk2
          have KT := KT.below hk2
          have KO := KO.below hk2
          have HL := HL.below hk2
          have X5 := X5.below hk2
          clear hk2
          go_wp2_with fail
          refine hK.out _ _ (by (try dsimp only); exact hKeep) (fun hHeld => ?_)
          clear hK K hKeep
          try simp only [Act.put, List.setIfInBounds_toArray, List.set_cons_zero, List.set_cons_succ]
          refine wpAnyH_ready (rs := [6]) (by kernel_rfl) (by simp) ?_
          refine AllReadyH.cons (o := { dst := none, op := _, type := _, pos := _, after := _, guard := _ }) rfl (fun K hK => ?_) AllReadyH.nil
          have hHd := hHeld
          skip
          obtain ⟨y0, y1, y2, y3, y4⟩ := X5.got
          have D5 := X5.set (.slice A' R.length c') (.slice a1 p.length c1)
          have KI := KI.far (p := ⟨VD.heap.size, 0, none⟩) (by show VD.heap.size ≠ w.heap.size; omega) (.slice A' R.length c')
          have KF := KF.far2 (p := ⟨VD.heap.size, 0, none⟩) (by show VD.heap.size ≠ w.heap.size + 1; omega) (.slice A' R.length c')
          have KT := KT.far2 (p := ⟨VD.heap.size, 0, none⟩) (by show VD.heap.size ≠ w.heap.size + 1 + 1; omega) (.slice A' R.length c')
          have KO := KO.far2 (p := ⟨VD.heap.size, 0, none⟩) (by show VD.heap.size ≠ w.heap.size + 1 + 1 + 1; omega) (.slice A' R.length c')
          have HL := HL.set (p := ⟨VD.heap.size, 0, none⟩) (.inl hX5) (.slice A' R.length c')
          have KI := KI.far (p := ⟨VD.heap.size, 1, none⟩) (by show VD.heap.size ≠ w.heap.size; omega) (.slice a1 p.length c1)
          have KF := KF.far2 (p := ⟨VD.heap.size, 1, none⟩) (by show VD.heap.size ≠ w.heap.size + 1; omega) (.slice a1 p.length c1)
          have KT := KT.far2 (p := ⟨VD.heap.size, 1, none⟩) (by show VD.heap.size ≠ w.heap.size + 1 + 1; omega) (.slice a1 p.length c1)
          have KO := KO.far2 (p := ⟨VD.heap.size, 1, none⟩) (by show VD.heap.size ≠ w.heap.size + 1 + 1 + 1; omega) (.slice a1 p.length c1)
          have HL := HL.set (p := ⟨VD.heap.size, 1, none⟩) (.inl hX5) (.slice a1 p.length c1)
          have hgw : w.heap.size ≤ VD.heap.size := by omega
          have hKeep := Below.setCell (Below.setCell hHeld (p := ⟨VD.heap.size, 0, none⟩) hgw (.slice A' R.length c')) (p := ⟨VD.heap.size, 1, none⟩) hgw (.slice a1 p.length c1)
          skip
          go_simp
          refine hK.out _ _ (by (try dsimp only); exact hKeep) (fun hHeld => ?_)
          clear hK K hKeep
          try simp only [Act.put, List.setIfInBounds_toArray, List.set_cons_zero, List.set_cons_succ]
          refine wpAnyH_ready (rs := [7]) (by kernel_rfl) (by simp) ?_
          refine AllReadyH.cons (o := { dst := none, op := _, type := _, pos := _, after := _, guard := _ }) rfl (fun K hK => ?_) AllReadyH.nil
          have hHd := hHeld
          skip
          obtain ⟨q_, ⟨r0, r1, r2, r3, r4⟩, ⟨s0, s1, s2, s3, s4⟩⟩ := KI.got
          have D0 := KI.set (.int .i64 j.id) (.int .i64 j.mult) (.int .i64 j.price) (.int .i64 j.nxt) (.slice IA j.mv.length IC)
          have KF := KF.far2 (p := ⟨w.heap.size, 0, none⟩) (by show w.heap.size ≠ w.heap.size + 1; omega) (.int .i64 j.id)
          have KT := KT.far2 (p := ⟨w.heap.size, 0, none⟩) (by show w.heap.size ≠ w.heap.size + 1 + 1; omega) (.int .i64 j.id)
          have KO := KO.far2 (p := ⟨w.heap.size, 0, none⟩) (by show w.heap.size ≠ w.heap.size + 1 + 1 + 1; omega) (.int .i64 j.id)
          have D5 := D5.far2 (p := ⟨w.heap.size, 0, none⟩) (by show w.heap.size ≠ VD.heap.size; omega) (.int .i64 j.id)
          have HL := HL.set (p := ⟨w.heap.size, 0, none⟩) (.inl hB9) (.int .i64 j.id)
          have KF := KF.far2 (p := ⟨w.heap.size, 1, none⟩) (by show w.heap.size ≠ w.heap.size + 1; omega) (.int .i64 j.mult)
          have KT := KT.far2 (p := ⟨w.heap.size, 1, none⟩) (by show w.heap.size ≠ w.heap.size + 1 + 1; omega) (.int .i64 j.mult)
          have KO := KO.far2 (p := ⟨w.heap.size, 1, none⟩) (by show w.heap.size ≠ w.heap.size + 1 + 1 + 1; omega) (.int .i64 j.mult)
          have D5 := D5.far2 (p := ⟨w.heap.size, 1, none⟩) (by show w.heap.size ≠ VD.heap.size; omega) (.int .i64 j.mult)
          have HL := HL.set (p := ⟨w.heap.size, 1, none⟩) (.inl hB9) (.int .i64 j.mult)
          have KF := KF.far2 (p := ⟨w.heap.size, 2, none⟩) (by show w.heap.size ≠ w.heap.size + 1; omega) (.int .i64 j.price)
          have KT := KT.far2 (p := ⟨w.heap.size, 2, none⟩) (by show w.heap.size ≠ w.heap.size + 1 + 1; omega) (.int .i64 j.price)
          have KO := KO.far2 (p := ⟨w.heap.size, 2, none⟩) (by show w.heap.size ≠ w.heap.size + 1 + 1 + 1; omega) (.int .i64 j.price)
          have D5 := D5.far2 (p := ⟨w.heap.size, 2, none⟩) (by show w.heap.size ≠ VD.heap.size; omega) (.int .i64 j.price)
          have HL := HL.set (p := ⟨w.heap.size, 2, none⟩) (.inl hB9) (.int .i64 j.price)
          have KF := KF.far2 (p := ⟨w.heap.size, 3, none⟩) (by show w.heap.size ≠ w.heap.size + 1; omega) (.int .i64 j.nxt)
          have KT := KT.far2 (p := ⟨w.heap.size, 3, none⟩) (by show w.heap.size ≠ w.heap.size + 1 + 1; omega) (.int .i64 j.nxt)
          have KO := KO.far2 (p := ⟨w.heap.size, 3, none⟩) (by show w.heap.size ≠ w.heap.size + 1 + 1 + 1; omega) (.int .i64 j.nxt)
          have D5 := D5.far2 (p := ⟨w.heap.size, 3, none⟩) (by show w.heap.size ≠ VD.heap.size; omega) (.int .i64 j.nxt)
          have HL := HL.set (p := ⟨w.heap.size, 3, none⟩) (.inl hB9) (.int .i64 j.nxt)
          have KF := KF.far2 (p := ⟨w.heap.size, 4, none⟩) (by show w.heap.size ≠ w.heap.size + 1; omega) (.slice IA j.mv.length IC)
          have KT := KT.far2 (p := ⟨w.heap.size, 4, none⟩) (by show w.heap.size ≠ w.heap.size + 1 + 1; omega) (.slice IA j.mv.length IC)
          have KO := KO.far2 (p := ⟨w.heap.size, 4, none⟩) (by show w.heap.size ≠ w.heap.size + 1 + 1 + 1; omega) (.slice IA j.mv.length IC)
          have D5 := D5.far2 (p := ⟨w.heap.size, 4, none⟩) (by show w.heap.size ≠ VD.heap.size; omega) (.slice IA j.mv.length IC)
          have HL := HL.set (p := ⟨w.heap.size, 4, none⟩) (.inl hB9) (.slice IA j.mv.length IC)
          have hKeep := (Below.setCell (Below.setCell (Below.setCell (Below.setCell (Below.setCell hHeld (p := ⟨w.heap.size, 0, none⟩) (Nat.le_refl _) (.int .i64 j.id)) (p := ⟨w.heap.size, 1, none⟩) (Nat.le_refl _) (.int .i64 j.mult)) (p := ⟨w.heap.size, 2, none⟩) (Nat.le_refl _) (.int .i64 j.price)) (p := ⟨w.heap.size, 3, none⟩) (Nat.le_refl _) (.int .i64 j.nxt)) (p := ⟨w.heap.size, 4, none⟩) (Nat.le_refl _) (.slice IA j.mv.length IC))
          skip
          go_simp
          refine hK.out _ _ (by (try dsimp only); exact hKeep) (fun hHeld => ?_)
          clear hK K hKeep
          try simp only [Act.put, List.setIfInBounds_toArray, List.set_cons_zero, List.set_cons_succ]
          refine wpAnyH_done (by kernel_rfl) ?_ _
          go_wp2_with fail
          go_meet
          case rel => exact ⟨_, R, cs, A', c', rfl, D5, D0, KF, KT, KO, HL.1, HQ.out.1, HQ.out.2.1, HQ.out.2.2.1, HQ.out.2.2.2, hHeld⟩
      · have hHd := hHeld
        skip
        have hg5 : w.heap.size + 1 + 1 + 1 < VD.heap.size := by have h := KO.1; exact h
        have X5 := DB.new VD 30
        have hHp := hHeld
        have hA := (Below.refl VD.heap.size VD).alloc (Nat.le_refl _) (.cells #[.slice none 0 0, .slice none 0 0] 30)
        have KI := KI.below hA
        have KF := KF.below hA
        have KT := KT.below hA
        have KO := KO.below hA
        clear hA
        have hKeep := since_alloc hHeld (.cells #[.slice none 0 0, .slice none 0 0] 30)
        go_simp
        refine hK.out _ _ (by (try dsimp only); exact hKeep) (fun hHeld => ?_)
        clear hK K hKeep
        try simp only [Act.put, List.setIfInBounds_toArray, List.set_cons_zero, List.set_cons_succ]
        refine wpAnyH_ready (rs := [2, 3]) (by kernel_rfl) (by simp) ?_
        refine AllReadyH.cons (o := { dst := some 26, op := _, type := _, pos := _, after := _, guard := _ }) rfl (fun K hK => ?_) (AllReadyH.cons (o := { dst := some 27, op := _, type := _, pos := _, after := _, guard := _ }) rfl (fun K hK => ?_) AllReadyH.nil)
        · go_simp
          refine (HFW.out _ hHeld).mono ?_
          rintro e x1 ⟨⟨R, cs, A', c', rfl, ownR, htR, hR, hg, hk⟩, hk1⟩
          have hKeep := since_step hHeld hk1
          have HL := Lies.of_own ownR
          have HQ := Lib.hid (And.intro htR (And.intro hR (And.intro hg hk)))
          clear ownR htR hR hg hk
          have hB9 := Nat.lt_succ_of_le hHeld.size
          have hX5 := Nat.lt_succ_of_lt X5.1.1
          have KI := KI.below hk1
          have KF := KF.below hk1
          have KT := KT.below hk1
          have KO := KO.below hk1
          have X5 := X5.below hk1
          clear hk1
          go_wp2_with fail
          refine hK.out _ _ (by (try dsimp only); exact hKeep) (fun hHeld => ?_)
          clear hK K hKeep
          try simp only [Act.put, List.setIfInBounds_toArray, List.set_cons_zero, List.set_cons_succ]
          refine wpAnyH_ready (rs := [3]) (by kernel_rfl) (by simp) ?_
          refine AllReadyH.cons (o := { dst := some 27, op := _, type := _, pos := _, after := _, guard := _ }) rfl (fun K hK => ?_) AllReadyH.nil
          have hHd := hHeld
          skip
          obtain ⟨q_, ⟨r0, r1, r2, r3, r4⟩, q__⟩ := KI.got
          have hKeep := hHeld
          go_simp
          refine hK.out _ _ (by (try dsimp only); exact hKeep) (fun hHeld => ?_)
          clear hK K hKeep
          try simp only [Act.put, List.setIfInBounds_toArray, List.set_cons_zero, List.set_cons_succ]
          refine wpAnyH_ready (rs := [4]) (by kernel_rfl) (by simp) ?_
          refine AllReadyH.cons (o := { dst := some 28, op := _, type := _, pos := _, after := _, guard := _ }) rfl (fun K hK => ?_) AllReadyH.nil
          go_simp
          refine (HON.out _ hHeld).mono ?_
          rintro e x2 ⟨rfl, hk2⟩
          have hKeep := since_step hHeld hk2
          have KI := KI.below hk2
          have KF := KF.below hk2
          have KT := KT.below hk2
          have KO := KO.below hk2
          have HL := HL.below hk2
          have X5 := X5.below hk2
          clear hk2
          go_wp2_with fail
          refine hK.out _ _ (by (try dsimp only); exact hKeep) (fun hHeld => ?_)
          clear hK K hKeep
          try simp only [Act.put, List.setIfInBounds_toArray, List.set_cons_zero, List.set_cons_succ]
          refine wpAnyH_ready (rs := [6]) (by kernel_rfl) (by simp) ?_
          refine AllReadyH.cons (o := { dst := none, op := _, type := _, pos := _, after := _, guard := _ }) rfl (fun K hK => ?_) AllReadyH.nil
          have hHd := hHeld
          skip
          obtain ⟨y0, y1, y2, y3, y4⟩ := X5.got
          have D5 := X5.set (.slice A' R.length c') (.slice a1 p.length c1)
          have KI := KI.far (p := ⟨VD.heap.size, 0, none⟩) (by show VD.heap.size ≠ w.heap.size; omega) (.slice A' R.length c')
          have KF := KF.far2 (p := ⟨VD.heap.size, 0, none⟩) (by show VD.heap.size ≠ w.heap.size + 1; omega) (.slice A' R.length c')
          have KT := KT.far2 (p := ⟨VD.heap.size, 0, none⟩) (by show VD.heap.size ≠ w.heap.size + 1 + 1; omega) (.slice A' R.length c')
          have KO := KO.far2 (p := ⟨VD.heap.size, 0, none⟩) (by show VD.heap.size ≠ w.heap.size + 1 + 1 + 1; omega) (.slice A' R.length c')
          have HL := HL.set (p := ⟨VD.heap.size, 0, none⟩) (.inl hX5) (.slice A' R.length c')
          have KI := KI.far (p := ⟨VD.heap.size, 1, none⟩) (by show VD.heap.size ≠ w.heap.size; omega) (.slice a1 p.length c1)
          have KF := KF.far2 (p := ⟨VD.heap.size, 1, none⟩) (by show VD.heap.size ≠ w.heap.size + 1; omega) (.slice a1 p.length c1)
          have KT := KT.far2 (p := ⟨VD.heap.size, 1, none⟩) (by show VD.heap.size ≠ w.heap.size + 1 + 1; omega) (.slice a1 p.length c1)
          have KO := KO.far2 (p := ⟨VD.heap.size, 1, none⟩) (by show VD.heap.size ≠ w.heap.size + 1 + 1 + 1; omega) (.slice a1 p.length c1)
          have HL := HL.set (p := ⟨VD.heap.size, 1, none⟩) (.inl hX5) (.slice a1 p.length c1)
          have hgw : w.heap.size ≤ VD.heap.size := by omega
          have hKeep := Below.setCell (Below.setCell hHeld (p := ⟨VD.heap.size, 0, none⟩) hgw (.slice A' R.length c')) (p := ⟨VD.heap.size, 1, none⟩) hgw (.slice a1 p.length c1)
          skip
          go_simp
          refine hK.out _ _ (by (try dsimp only); exact hKeep) (fun hHeld => ?_)
          clear hK K hKeep
          try simp only [Act.put, List.setIfInBounds_toArray, List.set_cons_zero, List.set_cons_succ]
          refine wpAnyH_ready (rs := [7]) (by kernel_rfl) (by simp) ?_
          refine AllReadyH.cons (o := { dst := none, op := _, type := _, pos := _, after := _, guard := _ }) rfl (fun K hK => ?_) AllReadyH.nil
          have hHd := hHeld
          skip
          obtain ⟨q_, ⟨r0, r1, r2, r3, r4⟩, ⟨s0, s1, s2, s3, s4⟩⟩ := KI.got
          have D0 := KI.set (.int .i64 j.id) (.int .i64 j.mult) (.int .i64 j.price) (.int .i64 j.nxt) (.slice IA j.mv.length IC)
          have KF := KF.far2 (p := ⟨w.heap.size, 0, none⟩) (by show w.heap.size ≠ w.heap.size + 1; omega) (.int .i64 j.id)
          have KT := KT.far2 (p := ⟨w.heap.size, 0, none⟩) (by show w.heap.size ≠ w.heap.size + 1 + 1; omega) (.int .i64 j.id)
          have KO := KO.far2 (p := ⟨w.heap.size, 0, none⟩) (by show w.heap.size ≠ w.heap.size + 1 + 1 + 1; omega) (.int .i64 j.id)
          have D5 := D5.far2 (p := ⟨w.heap.size, 0, none⟩) (by show w.heap.size ≠ VD.heap.size; omega) (.int .i64 j.id)
          have HL := HL.set (p := ⟨w.heap.size, 0, none⟩) (.inl hB9) (.int .i64 j.id)
          have KF := KF.far2 (p := ⟨w.heap.size, 1, none⟩) (by show w.heap.size ≠ w.heap.size + 1; omega) (.int .i64 j.mult)
          have KT := KT.far2 (p := ⟨w.heap.size, 1, none⟩) (by show w.heap.size ≠ w.heap.size + 1 + 1; omega) (.int .i64 j.mult)
          have KO := KO.far2 (p := ⟨w.heap.size, 1, none⟩) (by show w.heap.size ≠ w.heap.size + 1 + 1 + 1; omega) (.int .i64 j.mult)
          have D5 := D5.far2 (p := ⟨w.heap.size, 1, none⟩) (by show w.heap.size ≠ VD.heap.size; omega) (.int .i64 j.mult)
          have HL := HL.set (p := ⟨w.heap.size, 1, none⟩) (.inl hB9) (.int .i64 j.mult)
          have KF := KF.far2 (p := ⟨w.heap.size, 2, none⟩) (by show w.heap.size ≠ w.heap.size + 1; omega) (.int .i64 j.price)
          have KT := KT.far2 (p := ⟨w.heap.size, 2, none⟩) (by show w.heap.size ≠ w.heap.size + 1 + 1; omega) (.int .i64 j.price)
          have KO := KO.far2 (p := ⟨w.heap.size, 2, none⟩) (by show w.heap.size ≠ w.heap.size + 1 + 1 + 1; omega) (.int .i64 j.price)
          have D5 := D5.far2 (p := ⟨w.heap.size, 2, none⟩) (by show w.heap.size ≠ VD.heap.size; omega) (.int .i64 j.price)
          have HL := HL.set (p := ⟨w.heap.size, 2, none⟩) (.inl hB9) (.int .i64 j.price)
          have KF := KF.far2 (p := ⟨w.heap.size, 3, none⟩) (by show w.heap.size ≠ w.heap.size + 1; omega) (.int .i64 j.nxt)
          have KT := KT.far2 (p := ⟨w.heap.size, 3, none⟩) (by show w.heap.size ≠ w.heap.size + 1 + 1; omega) (.int .i64 j.nxt)
          have KO := KO.far2 (p := ⟨w.heap.size, 3, none⟩) (by show w.heap.size ≠ w.heap.size + 1 + 1 + 1; omega) (.int .i64 j.nxt)
          have D5 := D5.far2 (p := ⟨w.heap.size, 3, none⟩) (by show w.heap.size ≠ VD.heap.size; omega) (.int .i64 j.nxt)
          have HL := HL.set (p := ⟨w.heap.size, 3, none⟩) (.inl hB9) (.int .i64 j.nxt)
          have KF := KF.far2 (p := ⟨w.heap.size, 4, none⟩) (by show w.heap.size ≠ w.heap.size + 1; omega) (.slice IA j.mv.length IC)
          have KT := KT.far2 (p := ⟨w.heap.size, 4, none⟩) (by show w.heap.size ≠ w.heap.size + 1 + 1; omega) (.slice IA j.mv.length IC)
          have KO := KO.far2 (p := ⟨w.heap.size, 4, none⟩) (by show w.heap.size ≠ w.heap.size + 1 + 1 + 1; omega) (.slice IA j.mv.length IC)
          have D5 := D5.far2 (p := ⟨w.heap.size, 4, none⟩) (by show w.heap.size ≠ VD.heap.size; omega) (.slice IA j.mv.length IC)
          have HL := HL.set (p := ⟨w.heap.size, 4, none⟩) (.inl hB9) (.slice IA j.mv.length IC)
          have hKeep := (Below.setCell (Below.setCell (Below.setCell (Below.setCell (Below.setCell hHeld (p := ⟨w.heap.size, 0, none⟩) (Nat.le_refl _) (.int .i64 j.id)) (p := ⟨w.heap.size, 1, none⟩) (Nat.le_refl _) (.int .i64 j.mult)) (p := ⟨w.heap.size, 2, none⟩) (Nat.le_refl _) (.int .i64 j.price)) (p := ⟨w.heap.size, 3, none⟩) (Nat.le_refl _) (.int .i64 j.nxt)) (p := ⟨w.heap.size, 4, none⟩) (Nat.le_refl _) (.slice IA j.mv.length IC))
          skip
          go_simp
          refine hK.out _ _ (by (try dsimp only); exact hKeep) (fun hHeld => ?_)
          clear hK K hKeep
          try simp only [Act.put, List.setIfInBounds_toArray, List.set_cons_zero, List.set_cons_succ]
          refine wpAnyH_done (by kernel_rfl) ?_ _
          go_wp2_with fail
          go_meet
          case rel => exact ⟨_, R, cs, A', c', rfl, D5, D0, KF, KT, KO, HL.1, HQ.out.1, HQ.out.2.1, HQ.out.2.2.1, HQ.out.2.2.2, hHeld⟩
        · have hHd := hHeld
          skip
          obtain ⟨q_, ⟨r0, r1, r2, r3, r4⟩, q__⟩ := KI.got
          have hKeep := hHeld
          go_simp
          refine hK.out _ _ (by (try dsimp only); exact hKeep) (fun hHeld => ?_)
          clear hK K hKeep
          try simp only [Act.put, List.setIfInBounds_toArray, List.set_cons_zero, List.set_cons_succ]
          refine wpAnyH_ready (rs := [2]) (by kernel_rfl) (by simp) ?_
          refine AllReadyH.cons (o := { dst := some 26, op := _, type := _, pos := _, after := _, guard := _ }) rfl (fun K hK => ?_) AllReadyH.nil
          go_simp
          refine (HFW.out _ hHeld).mono ?_
          rintro e x1 ⟨⟨R, cs, A', c', rfl, ownR, htR, hR, hg, hk⟩, hk1⟩
          have hKeep := since_step hHeld hk1
          have HL := Lies.of_own ownR
          have HQ := Lib.hid (And.intro htR (And.intro hR (And.intro hg hk)))
          clear ownR htR hR hg hk
          have hB9 := Nat.lt_succ_of_le hHeld.size
          have hX5 := Nat.lt_succ_of_lt X5.1.1
          have KI := KI.below hk1
          have KF := KF.below hk1
          have KT := KT.below hk1
          have KO := KO.below hk1
          have X5 := X5.below hk1
          clear hk1
          go_wp2_with fail
          refine hK.out _ _ (by (try dsimp only); exact hKeep) (fun hHeld => ?_)
          clear hK K hKeep
          try simp only [Act.put, List.setIfInBounds_toArray, List.set_cons_zero, List.set_cons_succ]
          refine wpAnyH_ready (rs := [4]) (by kernel_rfl) (by simp) ?_
          refine AllReadyH.cons (o := { dst := some 28, op := _, type := _, pos := _, after := _, guard := _ }) rfl (fun K hK => ?_) AllReadyH.nil
          go_simp
          refine (HON.out _ hHeld).mono ?_
          rintro e x2 ⟨rfl, hk2⟩
          have hKeep := since_step hHeld hk2
          have KI := KI.below hk2
          have KF := KF.below hk2
          have KT := KT.below hk2
          have KO := KO.below hk2
          have HL := HL.below hk2
          have X5 := X5.below hk2
          clear hk2
          go_wp2_with fail
          refine hK.out _ _ (by (try dsimp only); exact hKeep) (fun hHeld => ?_)
          clear hK K hKeep
          try simp only [Act.put, List.setIfInBounds_toArray, List.set_cons_zero, List.set_cons_succ]
          refine wpAnyH_ready (rs := [6]) (by kernel_rfl) (by simp) ?_
          refine AllReadyH.cons (o := { dst := none, op := _, type := _, pos := _, after := _, guard := _ }) rfl (fun K hK => ?_) AllReadyH.nil
          have hHd := hHeld
          skip
          obtain ⟨y0, y1, y2, y3, y4⟩ := X5.got
          have D5 := X5.set (.slice A' R.length c') (.slice a1 p.length c1)
          have KI := KI.far (p := ⟨VD.heap.size, 0, none⟩) (by show VD.heap.size ≠ w.heap.size; omega) (.slice A' R.length c')
          have KF := KF.far2 (p := ⟨VD.heap.size, 0, none⟩) (by show VD.heap.size ≠ w.heap.size + 1; omega) (.slice A' R.length c')
          have KT := KT.far2 (p := ⟨VD.heap.size, 0, none⟩) (by show VD.heap.size ≠ w.heap.size + 1 + 1; omega) (.slice A' R.length c')
          have KO := KO.far2 (p := ⟨VD.heap.size, 0, none⟩) (by show VD.heap.size ≠ w.heap.size + 1 + 1 + 1; omega) (.slice A' R.length c')
          have HL := HL.set (p := ⟨VD.heap.size, 0, none⟩) (.inl hX5) (.slice A' R.length c')
          have KI := KI.far (p := ⟨VD.heap.size, 1, none⟩) (by show VD.heap.size ≠ w.heap.size; omega) (.slice a1 p.length c1)
          have KF := KF.far2 (p := ⟨VD.heap.size, 1, none⟩) (by show VD.heap.size ≠ w.heap.size + 1; omega) (.slice a1 p.length c1)
          have KT := KT.far2 (p := ⟨VD.heap.size, 1, none⟩) (by show VD.heap.size ≠ w.heap.size + 1 + 1; omega) (.slice a1 p.length c1)
          have KO := KO.far2 (p := ⟨VD.heap.size, 1, none⟩) (by show VD.heap.size ≠ w.heap.size + 1 + 1 + 1; omega) (.slice a1 p.length c1)
          have HL := HL.set (p := ⟨VD.heap.size, 1, none⟩) (.inl hX5) (.slice a1 p.length c1)
          have hgw : w.heap.size ≤ VD.heap.size := by omega
          have hKeep := Below.setCell (Below.setCell hHeld (p := ⟨VD.heap.size, 0, none⟩) hgw (.slice A' R.length c')) (p := ⟨VD.heap.size, 1, none⟩) hgw (.slice a1 p.length c1)
          skip
          go_simp
          refine hK.out _ _ (by (try dsimp only); exact hKeep) (fun hHeld => ?_)
          clear hK K hKeep
          try simp only [Act.put, List.setIfInBounds_toArray, List.set_cons_zero, List.set_cons_succ]
          refine wpAnyH_ready (rs := [7]) (by kernel_rfl) (by simp) ?_
          refine AllReadyH.cons (o := { dst := none, op := _, type := _, pos := _, after := _, guard := _ }) rfl (fun K hK => ?_) AllReadyH.nil
          have hHd := hHeld
          skip
          obtain ⟨q_, ⟨r0, r1, r2, r3, r4⟩, ⟨s0, s1, s2, s3, s4⟩⟩ := KI.got
          have D0 := KI.set (.int .i64 j.id) (.int .i64 j.mult) (.int .i64 j.price) (.int .i64 j.nxt) (.slice IA j.mv.length IC)
          have KF := KF.far2 (p := ⟨w.heap.size, 0, none⟩) (by show w.heap.size ≠ w.heap.size + 1; omega) (.int .i64 j.id)
          have KT := KT.far2 (p := ⟨w.heap.size, 0, none⟩) (by show w.heap.size ≠ w.heap.size + 1 + 1; omega) (.int .i64 j.id)
          have KO := KO.far2 (p := ⟨w.heap.size, 0, none⟩) (by show w.heap.size ≠ w.heap.size + 1 + 1 + 1; omega) (.int .i64 j.id)
          have D5 := D5.far2 (p := ⟨w.heap.size, 0, none⟩) (by show w.heap.size ≠ VD.heap.size; omega) (.int .i64 j.id)
          have HL := HL.set (p := ⟨w.heap.size, 0, none⟩) (.inl hB9) (.int .i64 j.id)
          have KF := KF.far2 (p := ⟨w.heap.size, 1, none⟩) (by show w.heap.size ≠ w.heap.size + 1; omega) (.int .i64 j.mult)
          have KT := KT.far2 (p := ⟨w.heap.size, 1, none⟩) (by show w.heap.size ≠ w.heap.size + 1 + 1; omega) (.int .i64 j.mult)
          have KO := KO.far2 (p := ⟨w.heap.size, 1, none⟩) (by show w.heap.size ≠ w.heap.size + 1 + 1 + 1; omega) (.int .i64 j.mult)
          have D5 := D5.far2 (p := ⟨w.heap.size, 1, none⟩) (by show w.heap.size ≠ VD.heap.size; omega) (.int .i64 j.mult)
          have HL := HL.set (p := ⟨w.heap.size, 1, none⟩) (.inl hB9) (.int .i64 j.mult)
          have KF := KF.far2 (p := ⟨w.heap.size, 2, none⟩) (by show w.heap.size ≠ w.heap.size + 1; omega) (.int .i64 j.price)
          have KT := KT.far2 (p := ⟨w.heap.size, 2, none⟩) (by show w.heap.size ≠ w.heap.size + 1 + 1; omega) (.int .i64 j.price)
          have KO := KO.far2 (p := ⟨w.heap.size, 2, none⟩) (by show w.heap.size ≠ w.heap.size + 1 + 1 + 1; omega) (.int .i64 j.price)
          have D5 := D5.far2 (p := ⟨w.heap.size, 2, none⟩) (by show w.heap.size ≠ VD.heap.size; omega) (.int .i64 j.price)
          have HL := HL.set (p := ⟨w.heap.size, 2, none⟩) (.inl hB9) (.int .i64 j.price)
          have KF := KF.far2 (p := ⟨w.heap.size, 3, none⟩) (by show w.heap.size ≠ w.heap.size + 1; omega) (.int .i64 j.nxt)
          have KT := KT.far2 (p := ⟨w.heap.size, 3, none⟩) (by show w.heap.size ≠ w.heap.size + 1 + 1; omega) (.int .i64 j.nxt)
          have KO := KO.far2 (p := ⟨w.heap.size, 3, none⟩) (by show w.heap.size ≠ w.heap.size + 1 + 1 + 1; omega) (.int .i64 j.nxt)
          have D5 := D5.far2 (p := ⟨w.heap.size, 3, none⟩) (by show w.heap.size ≠ VD.heap.size; omega) (.int .i64 j.nxt)
          have HL := HL.set (p := ⟨w.heap.size, 3, none⟩) (.inl hB9) (.int .i64 j.nxt)
          have KF := KF.far2 (p := ⟨w.heap.size, 4, none⟩) (by show w.heap.size ≠ w.heap.size + 1; omega) (.slice IA j.mv.length IC)
          have KT := KT.far2 (p := ⟨w.heap.size, 4, none⟩) (by show w.heap.size ≠ w.heap.size + 1 + 1; omega) (.slice IA j.mv.length IC)
          have KO := KO.far2 (p := ⟨w.heap.size, 4, none⟩) (by show w.heap.size ≠ w.heap.size + 1 + 1 + 1; omega) (.slice IA j.mv.length IC)
          have D5 := D5.far2 (p := ⟨w.heap.size, 4, none⟩) (by show w.heap.size ≠ VD.heap.size; omega) (.slice IA j.mv.length IC)
          have HL := HL.set (p := ⟨w.heap.size, 4, none⟩) (.inl hB9) (.slice IA j.mv.length IC)
          have hKeep := (Below.setCell (Below.setCell (Below.setCell (Below.setCell (Below.setCell hHeld (p := ⟨w.heap.size, 0, none⟩) (Nat.le_refl _) (.int .i64 j.id)) (p := ⟨w.heap.size, 1, none⟩) (Nat.le_refl _) (.int .i64 j.mult)) (p := ⟨w.heap.size, 2, none⟩) (Nat.le_refl _) (.int .i64 j.price)) (p := ⟨w.heap.size, 3, none⟩) (Nat.le_refl _) (.int .i64 j.nxt)) (p := ⟨w.heap.size, 4, none⟩) (Nat.le_refl _) (.slice IA j.mv.length IC))
          skip
          go_simp
          refine hK.out _ _ (by (try dsimp only); exact hKeep) (fun hHeld => ?_)
          clear hK K hKeep
          try simp only [Act.put, List.setIfInBounds_toArray, List.set_cons_zero, List.set_cons_succ]
          refine wpAnyH_done (by kernel_rfl) ?_ _
          go_wp2_with fail
          go_meet
          case rel => exact ⟨_, R, cs, A', c', rfl, D5, D0, KF, KT, KO, HL.1, HQ.out.1, HQ.out.2.1, HQ.out.2.2.1, HQ.out.2.2.2, hHeld⟩
  case rest =>
    have HLV := Lib.hid (fun V => lives21_any V)
    obtain ⟨g, R, cs, A', c', rfl, KD, KI, KF, KT, KO, hsR, htR, hR, hgd, hky, hB⟩ := hcut
    generalize hw1 : wc = y0 at *
    clear hw1
    have D0 : Dk y0 A' R cs a1 p := ⟨hsR, htR.below hB, HSP.out _ hB⟩
    have HJW : Hid (∀ V, Below y0.heap.size y0 V → InsAt V j IA IC) := Lib.hid fun V h => HIJ.out _ (hB.trans (h.mono hB.size))
    have HDW : Hid (∀ V, Below y0.heap.size y0 V → Dk V A' R cs a1 p) := Lib.hid fun V h => D0.below h
    have hR8 : R.length ≤ 800000 := by omega
    have hcsn : cs.length ≤ 12 := by have := htR.1; omega
    have hcl4 : ∀ g ∈ cs, g.L.length ≤ 400000 := fun g hg => Nat.le_trans (hgd.1 g hg) (by omega)
    have hcl9 : ∀ g ∈ cs, g.L.length ≤ 900000 := fun g hg => Nat.le_trans (hgd.1 g hg) (by omega)
    clear hsR htR HFW HON HSP HIJ D0 hB0
    have HAT := Lib.hid (fun V (h : Below y0.heap.size y0 V) => dat_any A' c' R cs a1 c1 p j IA IC fa fc ta tc q pr V hR8 hcl4 hgd.2 (by omega) hpq ⟨hf.1, hf.2, ht.1, ht.2⟩ h_q h_pr (HDW.out V h) (HJW.out V h))
    have HA3 := Lib.hid (fun V (h : Below y0.heap.size y0 V) => dat_any A' c' R cs a1 c1 p j IA IC fa fc ta tc q j.price V hR8 hcl4 hgd.2 (by omega) hpq ⟨hf.1, hf.2, ht.1, ht.2⟩ h_q hj6.2.2.1 (HDW.out V h) (HJW.out V h))
    obtain ⟨n, B, P, hT⟩ : ∃ n B P, dealR cs p j fa fc ta tc q pr = (n, B, P) := ⟨_, _, _, rfl⟩
    obtain ⟨hbB, hbP, hbL⟩ := deal_bd hgd.1 hT
    have hB6 := deal_in6 hgd.2 hT
    have hP6 := deal_inF hpq ⟨hf.1, hf.2, ht.1, ht.2⟩ hT
    rw [hT] at HAT
    simp only at HAT
    unfold DRes insV at HAT
    have hB4 : ∀ g ∈ B, g.L.length ≤ 400000 := fun g hg => Nat.le_trans (hbL g hg) (by omega)
    have hB9 : ∀ g ∈ B, g.L.length ≤ 900000 := fun g hg => Nat.le_trans (hbL g hg) (by omega)
    have HA2 := Lib.hid (fun A1 k1 m1 A2 k2 V (hm : m1.length ≤ 800000) (hd : Dk V A1 m1 B A2 P) (h : Below y0.heap.size y0 V) => dat_any A1 k1 m1 B A2 k2 P j IA IC ta tc fa fc q pr V hm hB4 hB6 (by omega) hP6 ⟨ht.1, ht.2, hf.1, hf.2⟩ h_q h_pr hd (HJW.out V h))
    obtain ⟨n2, B2, P2, hT2⟩ : ∃ n' B' P', dealR B P j ta tc fa fc q pr = (n', B', P') := ⟨_, _, _, rfl⟩
    rw [hT2] at HA2
    simp only at HA2
    unfold DRes insV at HA2
    obtain ⟨n3, B3, P3, hT3⟩ : ∃ n B P, dealR cs p j fa fc ta tc q j.price = (n, B, P) := ⟨_, _, _, rfl⟩
    obtain ⟨_, hbP3, _⟩ := deal_bd hgd.1 hT3
    rw [hT3] at HA3
    simp only at HA3
    unfold DRes insV at HA3
    have HB14 : Hid (B.length ≤ 14) := Lib.hid (by omega)
    have HER : Hid (n ≠ 0 → B = [] ∧ P = []) := Lib.hid fun h => dealR_errs hT h
    have HBK : Hid (n = 0 → n2 = 0 → B2 = cs ∧ P2 = p) := Lib.hid fun h1 h2 => by subst h1; subst h2; exact deal_back hT hT2
    have HST : Hid (n3 = 0 → getF P3 fa fc = getF p fa fc) := Lib.hid fun h => by subst h; exact deal_stands hT3
    have HKP : Hid (n = 0 → balP B = balP cs ∧ totF P = totF p ∧ isH B = true ∧ isF P = true) := Lib.hid fun h => by subst h; exact deal_keeps hT
    have HOT : Hid (n = 0 → ¬ (oa = fa ∧ oc = fc) → ¬ (oa = ta ∧ oc = tc) → lotsH B oa oc = lotsH cs oa oc ∧ getF P oa oc = getF p oa oc) := Lib.hid fun h h1 h2 => by subst h; exact deal_other hT h1 h2
    have HBB := Lib.hid (fun A1 k1 m1 V (hm : m1.length ≤ 900000) h1 h2 => bbal_any A1 k1 m1 B V hm hB9 hB6 h1 h2)
    have HBC := Lib.hid (fun V (h : Below y0.heap.size y0 V) => bbal_any A' c' R cs V (by omega) hcl9 hgd.2 (HDW.out V h).s (HDW.out V h).t)
    have HTB := Lib.hid (fun A1 k1 V h => ptotal_any A1 k1 P V (by omega) (fun y hy => (hP6 y hy).2.2) h)
    have HTC := Lib.hid (fun V (h : Below y0.heap.size y0 V) => ptotal_any a1 c1 p V (by omega) (fun y hy => (hpq y hy).2.2) (HDW.out V h).f)
    have HIB := Lib.hid (fun A1 k1 m1 A2 k2 V (hm : m1.length ≤ 900000) (hd : Dk V A1 m1 B A2 P) => dis_any A1 k1 m1 B A2 k2 P V hm hB9 (by omega) hd)
    have HLB := Lib.hid (fun A1 k1 m1 V (hm : m1.length ≤ 900000) h1 h2 => hlots_any A1 k1 m1 B oa oc V hm hB9 h1 h2)
    have HLC := Lib.hid (fun V (h : Below y0.heap.size y0 V) => hlots_any A' c' R cs oa oc V (by omega) hcl9 (HDW.out V h).s (HDW.out V h).t)
    have HVS := Lib.hid (fun A1 A2 k1 k2 V h1 h2 => rvsame_any_self A1 A2 k1 k2 (lotsH cs oa oc) V (by have := lotsH_len hgd.1 oa oc; omega) h1 h2)
    have HGB := Lib.hid (fun A1 k1 a c V h => pget_any A1 k1 P a c V (by omega) h)
    have HGC := Lib.hid (fun a c V (h : Below y0.heap.size y0 V) => pget_any a1 c1 p a c V (by omega) (HDW.out V h).f)
    have HG3 := Lib.hid (fun A1 k1 V h => pget_any A1 k1 P3 fa fc V (by omega) h)
    have HSE := Lib.hid (fun A1 k1 m1 A2 k2 A3 k3 m3 A4 k4 V (hm : m1.length ≤ 900000) h1 h2 => rdsame_self A1 k1 m1 A2 k2 A3 k3 m3 A4 k4 cs p V hm hcl9 (by omega) h1 h2)
    have HM5 : Hid (cs.length ≤ 900000) := Lib.hid (by omega)
    clear hT hT2 hT3 hbB hbP hbP3 hbL hB4 hB9 hB6 hP6 hgd hky hcl4 hcl9 hcsn hR hR8 hp20 hpq hf ht ho h_q h_pr
    have hC := Below.refl y0.heap.size y0
    obtain ⟨KD_l, KD_c⟩ := id KD
    have KD_0 := KD_c 0
    have KD_1 := KD_c 1
    simp at KD_0 KD_1
    clear KD_c
    obtain ⟨KI_l, KI_c⟩ := id KI
    have KI_0 := KI_c 0
    have KI_1 := KI_c 1
    have KI_2 := KI_c 2
    have KI_3 := KI_c 3
    have KI_4 := KI_c 4
    simp at KI_0 KI_1 KI_2 KI_3 KI_4
    clear KI_c
    obtain ⟨KF_l, KF_c⟩ := id KF
    have KF_0 := KF_c 0
    have KF_1 := KF_c 1
    simp at KF_0 KF_1
    clear KF_c
    obtain ⟨KT_l, KT_c⟩ := id KT
    have KT_0 := KT_c 0
    have KT_1 := KT_c 1
    simp at KT_0 KT_1
    clear KT_c
    obtain ⟨KO_l, KO_c⟩ := id KO
    have KO_0 := KO_c 0
    have KO_1 := KO_c 1
    simp at KO_0 KO_1
    clear KO_c
    go_wp2_with fail
    refine (HAT.out _ hC).mono ?_
    rintro e z1 ⟨⟨m5, A5, k5, A6, k6, rfl, D5⟩, hb⟩
    have hC := since_step hC hb
    have KD := KD.below hb
    have KI := KI.below hb
    have KF := KF.below hb
    have KT := KT.below hb
    have KO := KO.below hb
    clear hb
    clear KD_l KD_0 KD_1 KI_l KI_0 KI_1 KI_2 KI_3 KI_4 KF_l KF_0 KF_1 KT_l KT_0 KT_1 KO_l KO_0 KO_1
    have hA := (Below.refl z1.heap.size z1).alloc (Nat.le_refl _) (.cells #[.slice A5 m5.length k5, .slice A6 P.length k6] 30)
    have K6 := Bk.new z1 #[.slice A5 m5.length k5, .slice A6 P.length k6] 30
    have KD := KD.below hA
    have KI := KI.below hA
    have KF := KF.below hA
    have KT := KT.below hA
    have KO := KO.below hA
    have D5 := D5.below hA
    have hC := since_step hC hA
    clear hA
    go_upto_region 3 with fail
    generalize hYY : z1.alloc (.cells #[.slice A5 m5.length k5, .slice A6 P.length k6] 30) = Y3 at *
    generalize hGG : z1.heap.size = gY3 at *
    clear hYY hGG
    clear HAT
    by_cases hn : n = 0
    · have bn : (n != 0) = false := by rw [hn]; rfl
      obtain ⟨hk1, hk2, hk3, hk4⟩ := HKP.out hn
      rw [hk1] at HBB
      rw [hk2] at HTB
      rw [hk3, hk4, Bool.and_self] at HIB
      have HOT := Lib.hid (HOT.out hn)
      have HBK := Lib.hid (HBK.out hn)
      clear hn HKP HER hk1 hk2 hk3 hk4
      have HM14 : Hid (m5.length ≤ 800000) := Lib.hid (by rw [D5.t.1]; have := HB14.out; omega)
      have HM15 : Hid (m5.length ≤ 900000) := Lib.hid (by have := HM14.out; omega)
      generalize balP cs = bb at *
      have bbb : (bb != bb) = false := by simp
      generalize hiN (totF p) = th at *
      generalize loN (totF p) = tl at *
      have tt1 : (th == th) = true := by simp
      have tt2 : (tl == tl) = true := by simp
      have tt3 : (th != th) = false := by simp
      have tt4 : (tl != tl) = false := by simp
      go_upto_region 5 with fail
      go_cut [68] (fun s68 wx => s68 = .bool false ∧ Below Y3.heap.size Y3 wx)
      case first =>
        focus
          have HQ : Hid (∀ V, Below Y3.heap.size Y3 V → (V.cell? ⟨g, 0, none⟩ = some ((.slice A' R.length c')) ∧ V.cell? ⟨g, 1, none⟩ = some ((.slice a1 p.length c1))) ∧ (V.cell? ⟨gY3, 0, none⟩ = some (.slice A5 m5.length k5) ∧ V.cell? ⟨gY3, 1, none⟩ = some (.slice A6 P.length k6)) ∧ (V.cell? ⟨w.heap.size + 1, 0, none⟩ = some (.int .i64 fa) ∧ V.cell? ⟨w.heap.size + 1, 1, none⟩ = some (.int .i64 fc)) ∧ (V.cell? ⟨w.heap.size + 1 + 1, 0, none⟩ = some (.int .i64 ta) ∧ V.cell? ⟨w.heap.size + 1 + 1, 1, none⟩ = some (.int .i64 tc)) ∧ (V.cell? ⟨w.heap.size + 1 + 1 + 1, 0, none⟩ = some (.int .i64 oa) ∧ V.cell? ⟨w.heap.size + 1 + 1 + 1, 1, none⟩ = some (.int .i64 oc))) := Lib.hid fun V h => ⟨⟨(KD.below h).2 0, (KD.below h).2 1⟩, ⟨(K6.below h).2 0, (K6.below h).2 1⟩, ⟨(KF.below h).2 0, (KF.below h).2 1⟩, ⟨(KT.below h).2 0, (KT.below h).2 1⟩, ⟨(KO.below h).2 0, (KO.below h).2 1⟩⟩
          have HYC : Hid (∀ V, Below Y3.heap.size Y3 V → Below y0.heap.size y0 V) := Lib.hid fun V h => hC.trans (h.mono hC.size)
          have HDD : Hid (∀ V, Below Y3.heap.size Y3 V → Dk V A5 m5 B A6 P) := Lib.hid fun V h => D5.below h
          clear KD KI KF KT KO K6 D5 hC HOT HBK HST HLB HLC HVS HGB HGC HG3 HSE HA2 HA3
          go_wp2_with fail
          refine wp_region_held_drew (S := (fun V => Below Y3.heap.size Y3 V)) (by kernel_rfl) (by exact (Below.refl _ _).drew) (fun hHeld => ?_)
          refine wpAnyH_take (i := 0) (oi := { dst := some 48, op := _, type := _, pos := _, after := _, guard := _ }) (v := ?_) rfl (by kernel_rfl) (by kernel_rfl) (by kernel_rfl) (fun _ _ _ h => h) (Or.inl ⟨by rfl, ?_⟩) hHeld ?_
          rotate_left
          · (intro w hSw; clear hSw; go_simp <;> with_reducible rfl)
          try simp only [Act.put, List.setIfInBounds_toArray, List.set_cons_zero, List.set_cons_succ]
          refine wpAnyH_take (i := 1) (oi := { dst := some 49, op := _, type := _, pos := _, after := _, guard := _ }) (v := ?_) rfl (by kernel_rfl) (by kernel_rfl) (by kernel_rfl) (fun _ _ _ h => h) (Or.inl ⟨by rfl, ?_⟩) hHeld ?_
          rotate_left
          · (intro w hSw; obtain ⟨⟨d0, d1⟩, ⟨a0_, a1_⟩, ⟨f0, f1⟩, ⟨u0, u1⟩, ⟨o0, o1⟩⟩ := HQ.out _ (hSw); go_simp <;> with_reducible rfl)
          try simp only [Act.put, List.setIfInBounds_toArray, List.set_cons_zero, List.set_cons_succ]
          refine wpAnyH_take (i := 3) (oi := { dst := some 51, op := _, type := _, pos := _, after := _, guard := _ }) (v := ?_) rfl (by kernel_rfl) (by kernel_rfl) (by kernel_rfl) (fun _ _ _ h => h) (Or.inl ⟨by rfl, ?_⟩) hHeld ?_
          rotate_left
          · (intro w hSw; clear hSw; go_simp <;> with_reducible rfl)
          try simp only [Act.put, List.setIfInBounds_toArray, List.set_cons_zero, List.set_cons_succ]
          refine wpAnyH_take (i := 4) (oi := { dst := some 52, op := _, type := _, pos := _, after := _, guard := _ }) (v := ?_) rfl (by kernel_rfl) (by kernel_rfl) (by kernel_rfl) (fun _ _ _ h => h) (Or.inl ⟨by rfl, ?_⟩) hHeld ?_
          rotate_left
          · (intro w hSw; obtain ⟨⟨d0, d1⟩, ⟨a0_, a1_⟩, ⟨f0, f1⟩, ⟨u0, u1⟩, ⟨o0, o1⟩⟩ := HQ.out _ (hSw); go_simp <;> with_reducible rfl)
          try simp only [Act.put, List.setIfInBounds_toArray, List.set_cons_zero, List.set_cons_succ]
          refine wpAnyH_ready (rs := [2]) (by kernel_rfl) (by simp) ?_
          refine AllReadyH.cons (o := { dst := some 50, op := _, type := _, pos := _, after := _, guard := _ }) rfl (fun K hK => ?_) AllReadyH.nil
          go_simp
          refine (HBB.out _ _ _ _ HM15.out (HDD.out _ hHeld).s (HDD.out _ hHeld).t).mono ?_
          rintro e x1 ⟨rfl, hk1⟩
          have hKeep := since_step hHeld hk1
          clear hk1
          go_wp2_with fail
          refine hK.out _ _ (by (try dsimp only); exact hKeep) (fun hHeld => ?_)
          clear hK K hKeep
          try simp only [Act.put, List.setIfInBounds_toArray, List.set_cons_zero, List.set_cons_succ]
          refine wpAnyH_ready (rs := [5]) (by kernel_rfl) (by simp) ?_
          refine AllReadyH.cons (o := { dst := some 53, op := _, type := _, pos := _, after := _, guard := _ }) rfl (fun K hK => ?_) AllReadyH.nil
          go_simp
          refine (HBC.out _ (HYC.out _ hHeld)).mono ?_
          rintro e x2 ⟨rfl, hk1⟩
          have hKeep := since_step hHeld hk1
          clear hk1
          go_wp2_with fail
          refine hK.out _ _ (by (try dsimp only); exact hKeep) (fun hHeld => ?_)
          clear hK K hKeep
          try simp only [Act.put, List.setIfInBounds_toArray, List.set_cons_zero, List.set_cons_succ]
          refine wpAnyH_take (i := 6) (oi := { dst := some 54, op := _, type := _, pos := _, after := _, guard := _ }) (v := ?_) rfl (by kernel_rfl) (by kernel_rfl) (by kernel_rfl) (fun _ _ _ h => h) (Or.inl ⟨by rfl, ?_⟩) hHeld ?_
          rotate_left
          · (intro w hSw; clear hSw; go_simp <;> with_reducible rfl)
          try simp only [Act.put, List.setIfInBounds_toArray, List.set_cons_zero, List.set_cons_succ]
          refine wpAnyH_take (i := 7) (oi := { dst := some 55, op := _, type := _, pos := _, after := _, guard := _ }) (v := ?_) rfl (by kernel_rfl) (by kernel_rfl) (by kernel_rfl) (fun _ _ _ h => h) (Or.inl ⟨by rfl, ?_⟩) hHeld ?_
          rotate_left
          · (intro w hSw; clear hSw; go_simp <;> with_reducible rfl)
          try simp only [Act.put, List.setIfInBounds_toArray, List.set_cons_zero, List.set_cons_succ]
          refine wpAnyH_take (i := 8) (oi := { dst := some 56, op := _, type := _, pos := _, after := _, guard := _ }) (v := ?_) rfl (by kernel_rfl) (by kernel_rfl) (by kernel_rfl) (fun _ _ _ h => h) (Or.inl ⟨by rfl, ?_⟩) hHeld ?_
          rotate_left
          · (intro w hSw; clear hSw; go_simp <;> with_reducible rfl)
          try simp only [Act.put, List.setIfInBounds_toArray, List.set_cons_zero, List.set_cons_succ]
          refine wpAnyH_take (i := 9) (oi := { dst := some 57, op := _, type := _, pos := _, after := _, guard := _ }) (v := ?_) rfl (by kernel_rfl) (by kernel_rfl) (by kernel_rfl) (fun _ _ _ h => h) (Or.inl ⟨by rfl, ?_⟩) hHeld ?_
          rotate_left
          · (intro w hSw; obtain ⟨⟨d0, d1⟩, ⟨a0_, a1_⟩, ⟨f0, f1⟩, ⟨u0, u1⟩, ⟨o0, o1⟩⟩ := HQ.out _ (hSw); go_simp <;> with_reducible rfl)
          try simp only [Act.put, List.setIfInBounds_toArray, List.set_cons_zero, List.set_cons_succ]
          refine wpAnyH_take (i := 11) (oi := { dst := some 59, op := _, type := _, pos := _, after := _, guard := _ }) (v := ?_) rfl (by kernel_rfl) (by kernel_rfl) (by kernel_rfl) (fun _ _ _ h => h) (Or.inl ⟨by rfl, ?_⟩) hHeld ?_
          rotate_left
          · (intro w hSw; clear hSw; go_simp <;> with_reducible rfl)
          try simp only [Act.put, List.setIfInBounds_toArray, List.set_cons_zero, List.set_cons_succ]
          refine wpAnyH_take (i := 12) (oi := { dst := some 60, op := _, type := _, pos := _, after := _, guard := _ }) (v := ?_) rfl (by kernel_rfl) (by kernel_rfl) (by kernel_rfl) (fun _ _ _ h => h) (Or.inl ⟨by rfl, ?_⟩) hHeld ?_
          rotate_left
          · (intro w hSw; obtain ⟨⟨d0, d1⟩, ⟨a0_, a1_⟩, ⟨f0, f1⟩, ⟨u0, u1⟩, ⟨o0, o1⟩⟩ := HQ.out _ (hSw); go_simp <;> with_reducible rfl)
          try simp only [Act.put, List.setIfInBounds_toArray, List.set_cons_zero, List.set_cons_succ]
          refine wpAnyH_ready (rs := [10]) (by kernel_rfl) (by simp) ?_
          refine AllReadyH.cons (o := { dst := some 58, op := _, type := _, pos := _, after := _, guard := _ }) rfl (fun K hK => ?_) AllReadyH.nil
          go_simp
          refine (HTB.out _ _ _ (HDD.out _ hHeld).f).mono ?_
          rintro e x3 ⟨rfl, hk1⟩
          have hKeep := since_step hHeld hk1
          clear hk1
          go_wp2_with fail
          refine hK.out _ _ (by (try dsimp only); exact hKeep) (fun hHeld => ?_)
          clear hK K hKeep
          try simp only [Act.put, List.setIfInBounds_toArray, List.set_cons_zero, List.set_cons_succ]
          refine wpAnyH_ready (rs := [13]) (by kernel_rfl) (by simp) ?_
          refine AllReadyH.cons (o := { dst := some 61, op := _, type := _, pos := _, after := _, guard := _ }) rfl (fun K hK => ?_) AllReadyH.nil
          go_simp
          refine (HTC.out _ (HYC.out _ hHeld)).mono ?_
          rintro e x4 ⟨rfl, hk1⟩
          have hKeep := since_step hHeld hk1
          clear hk1
          go_wp2_with fail
          refine hK.out _ _ (by (try dsimp only); exact hKeep) (fun hHeld => ?_)
          clear hK K hKeep
          try simp only [Act.put, List.setIfInBounds_toArray, List.set_cons_zero, List.set_cons_succ]
          refine wpAnyH_take (i := 14) (oi := { dst := some 62, op := _, type := _, pos := _, after := _, guard := _ }) (v := ?_) rfl (by kernel_rfl) (by kernel_rfl) (by kernel_rfl) (fun _ _ _ h => h) (Or.inl ⟨by rfl, ?_⟩) hHeld ?_
          rotate_left
          · (intro w hSw; clear hSw; go_simp <;> with_reducible rfl)
          try simp only [Act.put, List.setIfInBounds_toArray, List.set_cons_zero, List.set_cons_succ]
          refine wpAnyH_take (i := 15) (oi := { dst := some 63, op := _, type := _, pos := _, after := _, guard := _ }) (v := ?_) rfl (by kernel_rfl) (by kernel_rfl) (by kernel_rfl) (fun _ _ _ h => h) (Or.inl ⟨by rfl, ?_⟩) hHeld ?_
          rotate_left
          · (intro w hSw; clear hSw; go_simp <;> with_reducible rfl)
          try simp only [Act.put, List.setIfInBounds_toArray, List.set_cons_zero, List.set_cons_succ]
          refine wpAnyH_take (i := 16) (oi := { dst := some 64, op := _, type := _, pos := _, after := _, guard := _ }) (v := ?_) rfl (by kernel_rfl) (by kernel_rfl) (by kernel_rfl) (fun _ _ _ h => h) (Or.inl ⟨by rfl, ?_⟩) hHeld ?_
          rotate_left
          · (intro w hSw; clear hSw; go_simp <;> with_reducible rfl)
          try simp only [Act.put, List.setIfInBounds_toArray, List.set_cons_zero, List.set_cons_succ]
          refine wpAnyH_take (i := 17) (oi := { dst := some 65, op := _, type := _, pos := _, after := _, guard := _ }) (v := ?_) rfl (by kernel_rfl) (by kernel_rfl) (by kernel_rfl) (fun _ _ _ h => h) (Or.inl ⟨by rfl, ?_⟩) hHeld ?_
          rotate_left
          · (intro w hSw; obtain ⟨⟨d0, d1⟩, ⟨a0_, a1_⟩, ⟨f0, f1⟩, ⟨u0, u1⟩, ⟨o0, o1⟩⟩ := HQ.out _ (hSw); go_simp <;> with_reducible rfl)
          try simp only [Act.put, List.setIfInBounds_toArray, List.set_cons_zero, List.set_cons_succ]
          refine wpAnyH_ready (rs := [18]) (by kernel_rfl) (by simp) ?_
          refine AllReadyH.cons (o := { dst := some 66, op := _, type := _, pos := _, after := _, guard := _ }) rfl (fun K hK => ?_) AllReadyH.nil
          go_simp
          refine (HIB.out _ _ _ _ _ _ HM15.out (HDD.out _ hHeld)).mono ?_
          rintro e x5 ⟨rfl, hk1⟩
          have hKeep := since_step hHeld hk1
          clear hk1
          go_wp2_with fail
          refine hK.out _ _ (by (try dsimp only); exact hKeep) (fun hHeld => ?_)
          clear hK K hKeep
          try simp only [Act.put, List.setIfInBounds_toArray, List.set_cons_zero, List.set_cons_succ]
          refine wpAnyH_take (i := 19) (oi := { dst := some 67, op := _, type := _, pos := _, after := _, guard := _ }) (v := ?_) rfl (by kernel_rfl) (by kernel_rfl) (by kernel_rfl) (fun _ _ _ h => h) (Or.inl ⟨by rfl, ?_⟩) hHeld ?_
          rotate_left
          · (intro w hSw; clear hSw; go_simp <;> with_reducible rfl)
          try simp only [Act.put, List.setIfInBounds_toArray, List.set_cons_zero, List.set_cons_succ]
          refine wpAnyH_take (i := 20) (oi := { dst := some 68, op := _, type := _, pos := _, after := _, guard := _ }) (v := ?_) rfl (by kernel_rfl) (by kernel_rfl) (by kernel_rfl) (fun _ _ _ h => h) (Or.inl ⟨by rfl, ?_⟩) hHeld ?_
          rotate_left
          · (intro w hSw; clear hSw; go_simp <;> with_reducible rfl)
          try simp only [Act.put, List.setIfInBounds_toArray, List.set_cons_zero, List.set_cons_succ]
          refine wpAnyH_done (by kernel_rfl) ?_ _
          go_wp2_with fail
          go_meet
          case rel => exact ⟨rfl, hHeld⟩
      case rest =>
        obtain ⟨rfl, hbx⟩ := hcut
        have KD := KD.below hbx
        have KI := KI.below hbx
        have KF := KF.below hbx
        have KT := KT.below hbx
        have KO := KO.below hbx
        have D5 := D5.below hbx
        have K6 := K6.below hbx
        have hC := since_step hC hbx
        clear hbx HBB HBC HTB HTC HIB bbb tt1 tt2 tt3 tt4
        go_upto_region 7 with fail
        generalize hw5 : wc = Y7 at *
        clear hw5
        go_cut [99] (fun s99 wx => s99 = .bool false ∧ Below Y7.heap.size Y7 wx)
        case first =>
          have HQ : Hid (∀ V, Below Y7.heap.size Y7 V → (V.cell? ⟨g, 0, none⟩ = some ((.slice A' R.length c')) ∧ V.cell? ⟨g, 1, none⟩ = some ((.slice a1 p.length c1))) ∧ (V.cell? ⟨gY3, 0, none⟩ = some (.slice A5 m5.length k5) ∧ V.cell? ⟨gY3, 1, none⟩ = some (.slice A6 P.length k6)) ∧ (V.cell? ⟨w.heap.size + 1, 0, none⟩ = some (.int .i64 fa) ∧ V.cell? ⟨w.heap.size + 1, 1, none⟩ = some (.int .i64 fc)) ∧ (V.cell? ⟨w.heap.size + 1 + 1, 0, none⟩ = some (.int .i64 ta) ∧ V.cell? ⟨w.heap.size + 1 + 1, 1, none⟩ = some (.int .i64 tc)) ∧ (V.cell? ⟨w.heap.size + 1 + 1 + 1, 0, none⟩ = some (.int .i64 oa) ∧ V.cell? ⟨w.heap.size + 1 + 1 + 1, 1, none⟩ = some (.int .i64 oc))) := Lib.hid fun V h => ⟨⟨(KD.below h).2 0, (KD.below h).2 1⟩, ⟨(K6.below h).2 0, (K6.below h).2 1⟩, ⟨(KF.below h).2 0, (KF.below h).2 1⟩, ⟨(KT.below h).2 0, (KT.below h).2 1⟩, ⟨(KO.below h).2 0, (KO.below h).2 1⟩⟩
          have HYC : Hid (∀ V, Below Y7.heap.size Y7 V → Below y0.heap.size y0 V) := Lib.hid fun V h => hC.trans (h.mono hC.size)
          have HDD : Hid (∀ V, Below Y7.heap.size Y7 V → Dk V A5 m5 B A6 P) := Lib.hid fun V h => D5.below h
          clear KD KI KF KT KO K6 D5 hC HBK HST HG3 HSE HA2 HA3
          by_cases f1 : oa = fa
          · by_cases f2 : oc = fc
            · have hf1 := Lib.hid f1
              have hf2 := Lib.hid f2
              clear f1 f2
              focus
                clear HOT
                have bf1 : (oa != fa) = false := by rw [hf1.out]; simp
                have bf2 : (oc != fc) = false := by rw [hf2.out]; simp
                have cf1 : (oa == fa) = true := by rw [hf1.out]; simp
                have cf2 : (oc == fc) = true := by rw [hf2.out]; simp
                clear hf1 hf2
                go_wp2_with fail
                refine wp_region_held_drew (S := (fun V => Below Y7.heap.size Y7 V)) (by kernel_rfl) (by exact (Below.refl _ _).drew) (fun hHeld => ?_)
                refine wpAnyH_take (i := 0) (oi := { dst := some 69, op := _, type := _, pos := _, after := _, guard := _ }) (v := ?_) rfl (by kernel_rfl) (by kernel_rfl) (by kernel_rfl) (fun _ _ _ h => h) (Or.inl ⟨by rfl, ?_⟩) hHeld ?_
                rotate_left
                · (intro w hSw; obtain ⟨⟨d0, d1⟩, ⟨a0_, a1_⟩, ⟨f0, f1⟩, ⟨u0, u1⟩, ⟨o0, o1⟩⟩ := HQ.out _ (hSw); go_simp <;> with_reducible rfl)
                try simp only [Act.put, List.setIfInBounds_toArray, List.set_cons_zero, List.set_cons_succ]
                refine wpAnyH_take (i := 1) (oi := { dst := some 70, op := _, type := _, pos := _, after := _, guard := _ }) (v := ?_) rfl (by kernel_rfl) (by kernel_rfl) (by kernel_rfl) (fun _ _ _ h => h) (Or.inl ⟨by rfl, ?_⟩) hHeld ?_
                rotate_left
                · (intro w hSw; obtain ⟨⟨d0, d1⟩, ⟨a0_, a1_⟩, ⟨f0, f1⟩, ⟨u0, u1⟩, ⟨o0, o1⟩⟩ := HQ.out _ (hSw); go_simp <;> with_reducible rfl)
                try simp only [Act.put, List.setIfInBounds_toArray, List.set_cons_zero, List.set_cons_succ]
                refine wpAnyH_take (i := 2) (oi := { dst := some 71, op := _, type := _, pos := _, after := _, guard := _ }) (v := ?_) rfl (by kernel_rfl) (by kernel_rfl) (by kernel_rfl) (fun _ _ _ h => h) (Or.inl ⟨by rfl, ?_⟩) hHeld ?_
                rotate_left
                · (intro w hSw; clear hSw; go_simp <;> with_reducible rfl)
                try simp only [Act.put, List.setIfInBounds_toArray, List.set_cons_zero, List.set_cons_succ]
                refine wpAnyH_take (i := 3) (oi := { dst := some 72, op := _, type := _, pos := _, after := _, guard := _ }) (v := ?_) rfl (by kernel_rfl) (by kernel_rfl) (by kernel_rfl) (fun _ _ _ h => h) (Or.inl ⟨by rfl, ?_⟩) hHeld ?_
                rotate_left
                · (intro w hSw; clear hSw; go_simp <;> with_reducible rfl)
                try simp only [Act.put, List.setIfInBounds_toArray, List.set_cons_zero, List.set_cons_succ]
                refine wpAnyH_take (i := 4) (oi := { dst := some 73, op := _, type := _, pos := _, after := _, guard := _ }) (v := undef) rfl (by kernel_rfl) (by kernel_rfl) (by kernel_rfl) (fun _ _ _ h => h) (Or.inr ⟨by rfl, rfl⟩) hHeld ?_
                try simp only [Act.put, List.setIfInBounds_toArray, List.set_cons_zero, List.set_cons_succ]
                refine wpAnyH_take (i := 5) (oi := { dst := some 74, op := _, type := _, pos := _, after := _, guard := _ }) (v := undef) rfl (by kernel_rfl) (by kernel_rfl) (by kernel_rfl) (fun _ _ _ h => h) (Or.inr ⟨by rfl, rfl⟩) hHeld ?_
                try simp only [Act.put, List.setIfInBounds_toArray, List.set_cons_zero, List.set_cons_succ]
                refine wpAnyH_take (i := 6) (oi := { dst := some 75, op := _, type := _, pos := _, after := _, guard := _ }) (v := undef) rfl (by kernel_rfl) (by kernel_rfl) (by kernel_rfl) (fun _ _ _ h => h) (Or.inr ⟨by rfl, rfl⟩) hHeld ?_
                try simp only [Act.put, List.setIfInBounds_toArray, List.set_cons_zero, List.set_cons_succ]
                refine wpAnyH_take (i := 7) (oi := { dst := some 76, op := _, type := _, pos := _, after := _, guard := _ }) (v := ?_) rfl (by kernel_rfl) (by kernel_rfl) (by kernel_rfl) (fun _ _ _ h => h) (Or.inl ⟨by rfl, ?_⟩) hHeld ?_
                rotate_left
                · (intro w hSw; clear hSw; go_simp <;> with_reducible rfl)
                try simp only [Act.put, List.setIfInBounds_toArray, List.set_cons_zero, List.set_cons_succ]
                refine wpAnyH_take (i := 8) (oi := { dst := some 77, op := _, type := _, pos := _, after := _, guard := _ }) (v := ?_) rfl (by kernel_rfl) (by kernel_rfl) (by kernel_rfl) (fun _ _ _ h => h) (Or.inl ⟨by rfl, ?_⟩) hHeld ?_
                rotate_left
                · (intro w hSw; clear hSw; go_simp <;> with_reducible rfl)
                try simp only [Act.put, List.setIfInBounds_toArray, List.set_cons_zero, List.set_cons_succ]
                refine wpAnyH_take (i := 9) (oi := { dst := some 78, op := _, type := _, pos := _, after := _, guard := _ }) (v := undef) rfl (by kernel_rfl) (by kernel_rfl) (by kernel_rfl) (fun _ _ _ h => h) (Or.inr ⟨by rfl, rfl⟩) hHeld ?_
                try simp only [Act.put, List.setIfInBounds_toArray, List.set_cons_zero, List.set_cons_succ]
                refine wpAnyH_take (i := 10) (oi := { dst := some 79, op := _, type := _, pos := _, after := _, guard := _ }) (v := undef) rfl (by kernel_rfl) (by kernel_rfl) (by kernel_rfl) (fun _ _ _ h => h) (Or.inr ⟨by rfl, rfl⟩) hHeld ?_
                try simp only [Act.put, List.setIfInBounds_toArray, List.set_cons_zero, List.set_cons_succ]
                refine wpAnyH_take (i := 11) (oi := { dst := some 80, op := _, type := _, pos := _, after := _, guard := _ }) (v := undef) rfl (by kernel_rfl) (by kernel_rfl) (by kernel_rfl) (fun _ _ _ h => h) (Or.inr ⟨by rfl, rfl⟩) hHeld ?_
                try simp only [Act.put, List.setIfInBounds_toArray, List.set_cons_zero, List.set_cons_succ]
                refine wpAnyH_take (i := 12) (oi := { dst := some 81, op := _, type := _, pos := _, after := _, guard := _ }) (v := undef) rfl (by kernel_rfl) (by kernel_rfl) (by kernel_rfl) (fun _ _ _ h => h) (Or.inr ⟨by rfl, rfl⟩) hHeld ?_
                try simp only [Act.put, List.setIfInBounds_toArray, List.set_cons_zero, List.set_cons_succ]
                refine wpAnyH_take (i := 13) (oi := { dst := some 82, op := _, type := _, pos := _, after := _, guard := _ }) (v := undef) rfl (by kernel_rfl) (by kernel_rfl) (by kernel_rfl) (fun _ _ _ h => h) (Or.inr ⟨by rfl, rfl⟩) hHeld ?_
                try simp only [Act.put, List.setIfInBounds_toArray, List.set_cons_zero, List.set_cons_succ]
                refine wpAnyH_take (i := 14) (oi := { dst := some 83, op := _, type := _, pos := _, after := _, guard := _ }) (v := undef) rfl (by kernel_rfl) (by kernel_rfl) (by kernel_rfl) (fun _ _ _ h => h) (Or.inr ⟨by rfl, rfl⟩) hHeld ?_
                try simp only [Act.put, List.setIfInBounds_toArray, List.set_cons_zero, List.set_cons_succ]
                refine wpAnyH_take (i := 15) (oi := { dst := some 84, op := _, type := _, pos := _, after := _, guard := _ }) (v := undef) rfl (by kernel_rfl) (by kernel_rfl) (by kernel_rfl) (fun _ _ _ h => h) (Or.inr ⟨by rfl, rfl⟩) hHeld ?_
                try simp only [Act.put, List.setIfInBounds_toArray, List.set_cons_zero, List.set_cons_succ]
                refine wpAnyH_take (i := 16) (oi := { dst := some 85, op := _, type := _, pos := _, after := _, guard := _ }) (v := undef) rfl (by kernel_rfl) (by kernel_rfl) (by kernel_rfl) (fun _ _ _ h => h) (Or.inr ⟨by rfl, rfl⟩) hHeld ?_
                try simp only [Act.put, List.setIfInBounds_toArray, List.set_cons_zero, List.set_cons_succ]
                refine wpAnyH_take (i := 17) (oi := { dst := some 86, op := _, type := _, pos := _, after := _, guard := _ }) (v := undef) rfl (by kernel_rfl) (by kernel_rfl) (by kernel_rfl) (fun _ _ _ h => h) (Or.inr ⟨by rfl, rfl⟩) hHeld ?_
                try simp only [Act.put, List.setIfInBounds_toArray, List.set_cons_zero, List.set_cons_succ]
                refine wpAnyH_take (i := 18) (oi := { dst := some 87, op := _, type := _, pos := _, after := _, guard := _ }) (v := undef) rfl (by kernel_rfl) (by kernel_rfl) (by kernel_rfl) (fun _ _ _ h => h) (Or.inr ⟨by rfl, rfl⟩) hHeld ?_
                try simp only [Act.put, List.setIfInBounds_toArray, List.set_cons_zero, List.set_cons_succ]
                refine wpAnyH_take (i := 19) (oi := { dst := some 88, op := _, type := _, pos := _, after := _, guard := _ }) (v := undef) rfl (by kernel_rfl) (by kernel_rfl) (by kernel_rfl) (fun _ _ _ h => h) (Or.inr ⟨by rfl, rfl⟩) hHeld ?_
                try simp only [Act.put, List.setIfInBounds_toArray, List.set_cons_zero, List.set_cons_succ]
                refine wpAnyH_take (i := 20) (oi := { dst := some 89, op := _, type := _, pos := _, after := _, guard := _ }) (v := undef) rfl (by kernel_rfl) (by kernel_rfl) (by kernel_rfl) (fun _ _ _ h => h) (Or.inr ⟨by rfl, rfl⟩) hHeld ?_
                try simp only [Act.put, List.setIfInBounds_toArray, List.set_cons_zero, List.set_cons_succ]
                refine wpAnyH_take (i := 21) (oi := { dst := some 90, op := _, type := _, pos := _, after := _, guard := _ }) (v := undef) rfl (by kernel_rfl) (by kernel_rfl) (by kernel_rfl) (fun _ _ _ h => h) (Or.inr ⟨by rfl, rfl⟩) hHeld ?_
                try simp only [Act.put, List.setIfInBounds_toArray, List.set_cons_zero, List.set_cons_succ]
                refine wpAnyH_take (i := 22) (oi := { dst := some 91, op := _, type := _, pos := _, after := _, guard := _ }) (v := undef) rfl (by kernel_rfl) (by kernel_rfl) (by kernel_rfl) (fun _ _ _ h => h) (Or.inr ⟨by rfl, rfl⟩) hHeld ?_
                try simp only [Act.put, List.setIfInBounds_toArray, List.set_cons_zero, List.set_cons_succ]
                refine wpAnyH_take (i := 23) (oi := { dst := some 92, op := _, type := _, pos := _, after := _, guard := _ }) (v := undef) rfl (by kernel_rfl) (by kernel_rfl) (by kernel_rfl) (fun _ _ _ h => h) (Or.inr ⟨by rfl, rfl⟩) hHeld ?_
                try simp only [Act.put, List.setIfInBounds_toArray, List.set_cons_zero, List.set_cons_succ]
                refine wpAnyH_take (i := 24) (oi := { dst := some 93, op := _, type := _, pos := _, after := _, guard := _ }) (v := undef) rfl (by kernel_rfl) (by kernel_rfl) (by kernel_rfl) (fun _ _ _ h => h) (Or.inr ⟨by rfl, rfl⟩) hHeld ?_
                try simp only [Act.put, List.setIfInBounds_toArray, List.set_cons_zero, List.set_cons_succ]
                refine wpAnyH_take (i := 25) (oi := { dst := some 94, op := _, type := _, pos := _, after := _, guard := _ }) (v := undef) rfl (by kernel_rfl) (by kernel_rfl) (by kernel_rfl) (fun _ _ _ h => h) (Or.inr ⟨by rfl, rfl⟩) hHeld ?_
                try simp only [Act.put, List.setIfInBounds_toArray, List.set_cons_zero, List.set_cons_succ]
                refine wpAnyH_take (i := 26) (oi := { dst := some 95, op := _, type := _, pos := _, after := _, guard := _ }) (v := undef) rfl (by kernel_rfl) (by kernel_rfl) (by kernel_rfl) (fun _ _ _ h => h) (Or.inr ⟨by rfl, rfl⟩) hHeld ?_
                try simp only [Act.put, List.setIfInBounds_toArray, List.set_cons_zero, List.set_cons_succ]
                refine wpAnyH_take (i := 27) (oi := { dst := some 96, op := _, type := _, pos := _, after := _, guard := _ }) (v := undef) rfl (by kernel_rfl) (by kernel_rfl) (by kernel_rfl) (fun _ _ _ h => h) (Or.inr ⟨by rfl, rfl⟩) hHeld ?_
                try simp only [Act.put, List.setIfInBounds_toArray, List.set_cons_zero, List.set_cons_succ]
                refine wpAnyH_take (i := 28) (oi := { dst := some 97, op := _, type := _, pos := _, after := _, guard := _ }) (v := undef) rfl (by kernel_rfl) (by kernel_rfl) (by kernel_rfl) (fun _ _ _ h => h) (Or.inr ⟨by rfl, rfl⟩) hHeld ?_
                try simp only [Act.put, List.setIfInBounds_toArray, List.set_cons_zero, List.set_cons_succ]
                refine wpAnyH_take (i := 29) (oi := { dst := some 98, op := _, type := _, pos := _, after := _, guard := _ }) (v := undef) rfl (by kernel_rfl) (by kernel_rfl) (by kernel_rfl) (fun _ _ _ h => h) (Or.inr ⟨by rfl, rfl⟩) hHeld ?_
                try simp only [Act.put, List.setIfInBounds_toArray, List.set_cons_zero, List.set_cons_succ]
                refine wpAnyH_take (i := 30) (oi := { dst := some 99, op := _, type := _, pos := _, after := _, guard := _ }) (v := ?_) rfl (by kernel_rfl) (by kernel_rfl) (by kernel_rfl) (fun _ _ _ h => h) (Or.inl ⟨by rfl, ?_⟩) hHeld ?_
                rotate_left
                · (intro w hSw; clear hSw; go_simp <;> with_reducible rfl)
                try simp only [Act.put, List.setIfInBounds_toArray, List.set_cons_zero, List.set_cons_succ]
                refine wpAnyH_done (by kernel_rfl) ?_ _
                go_wp2_with fail
                go_meet
                case rel => exact ⟨rfl, hHeld⟩
            · have hf1 := Lib.hid f1
              have hf2 := Lib.hid f2
              clear f1 f2
              by_cases t1 : oa = ta
              · by_cases t2 : oc = tc
                · have ht1 := Lib.hid t1
                  have ht2 := Lib.hid t2
                  clear t1 t2
                  focus
                    clear HOT
                    have bf1 : (oa != fa) = false := by rw [hf1.out]; simp
                    have bf2 : (oc != fc) = true := by simpa using hf2.out
                    have cf1 : (oa == fa) = true := by rw [hf1.out]; simp
                    have cf2 : (oc == fc) = false := by simpa using hf2.out
                    clear hf1 hf2
                    have bt1 : (oa != ta) = false := by rw [ht1.out]; simp
                    have bt2 : (oc != tc) = false := by rw [ht2.out]; simp
                    have ct1 : (oa == ta) = true := by rw [ht1.out]; simp
                    have ct2 : (oc == tc) = true := by rw [ht2.out]; simp
                    clear ht1 ht2
                    go_wp2_with fail
                    refine wp_region_held_drew (S := (fun V => Below Y7.heap.size Y7 V)) (by kernel_rfl) (by exact (Below.refl _ _).drew) (fun hHeld => ?_)
                    refine wpAnyH_take (i := 0) (oi := { dst := some 69, op := _, type := _, pos := _, after := _, guard := _ }) (v := ?_) rfl (by kernel_rfl) (by kernel_rfl) (by kernel_rfl) (fun _ _ _ h => h) (Or.inl ⟨by rfl, ?_⟩) hHeld ?_
                    rotate_left
                    · (intro w hSw; obtain ⟨⟨d0, d1⟩, ⟨a0_, a1_⟩, ⟨f0, f1⟩, ⟨u0, u1⟩, ⟨o0, o1⟩⟩ := HQ.out _ (hSw); go_simp <;> with_reducible rfl)
                    try simp only [Act.put, List.setIfInBounds_toArray, List.set_cons_zero, List.set_cons_succ]
                    refine wpAnyH_take (i := 1) (oi := { dst := some 70, op := _, type := _, pos := _, after := _, guard := _ }) (v := ?_) rfl (by kernel_rfl) (by kernel_rfl) (by kernel_rfl) (fun _ _ _ h => h) (Or.inl ⟨by rfl, ?_⟩) hHeld ?_
                    rotate_left
                    · (intro w hSw; obtain ⟨⟨d0, d1⟩, ⟨a0_, a1_⟩, ⟨f0, f1⟩, ⟨u0, u1⟩, ⟨o0, o1⟩⟩ := HQ.out _ (hSw); go_simp <;> with_reducible rfl)
                    try simp only [Act.put, List.setIfInBounds_toArray, List.set_cons_zero, List.set_cons_succ]
                    refine wpAnyH_take (i := 2) (oi := { dst := some 71, op := _, type := _, pos := _, after := _, guard := _ }) (v := ?_) rfl (by kernel_rfl) (by kernel_rfl) (by kernel_rfl) (fun _ _ _ h => h) (Or.inl ⟨by rfl, ?_⟩) hHeld ?_
                    rotate_left
                    · (intro w hSw; clear hSw; go_simp <;> with_reducible rfl)
                    try simp only [Act.put, List.setIfInBounds_toArray, List.set_cons_zero, List.set_cons_succ]
                    refine wpAnyH_take (i := 3) (oi := { dst := some 72, op := _, type := _, pos := _, after := _, guard := _ }) (v := ?_) rfl (by kernel_rfl) (by kernel_rfl) (by kernel_rfl) (fun _ _ _ h => h) (Or.inl ⟨by rfl, ?_⟩) hHeld ?_
                    rotate_left
                    · (intro w hSw; clear hSw; go_simp <;> with_reducible rfl)
                    try simp only [Act.put, List.setIfInBounds_toArray, List.set_cons_zero, List.set_cons_succ]
                    refine wpAnyH_take (i := 4) (oi := { dst := some 73, op := _, type := _, pos := _, after := _, guard := _ }) (v := ?_) rfl (by kernel_rfl) (by kernel_rfl) (by kernel_rfl) (fun _ _ _ h => h) (Or.inl ⟨by rfl, ?_⟩) hHeld ?_
                    rotate_left
                    · (intro w hSw; obtain ⟨⟨d0, d1⟩, ⟨a0_, a1_⟩, ⟨f0, f1⟩, ⟨u0, u1⟩, ⟨o0, o1⟩⟩ := HQ.out _ (hSw); go_simp <;> with_reducible rfl)
                    try simp only [Act.put, List.setIfInBounds_toArray, List.set_cons_zero, List.set_cons_succ]
                    refine wpAnyH_take (i := 5) (oi := { dst := some 74, op := _, type := _, pos := _, after := _, guard := _ }) (v := ?_) rfl (by kernel_rfl) (by kernel_rfl) (by kernel_rfl) (fun _ _ _ h => h) (Or.inl ⟨by rfl, ?_⟩) hHeld ?_
                    rotate_left
                    · (intro w hSw; obtain ⟨⟨d0, d1⟩, ⟨a0_, a1_⟩, ⟨f0, f1⟩, ⟨u0, u1⟩, ⟨o0, o1⟩⟩ := HQ.out _ (hSw); go_simp <;> with_reducible rfl)
                    try simp only [Act.put, List.setIfInBounds_toArray, List.set_cons_zero, List.set_cons_succ]
                    refine wpAnyH_take (i := 6) (oi := { dst := some 75, op := _, type := _, pos := _, after := _, guard := _ }) (v := ?_) rfl (by kernel_rfl) (by kernel_rfl) (by kernel_rfl) (fun _ _ _ h => h) (Or.inl ⟨by rfl, ?_⟩) hHeld ?_
                    rotate_left
                    · (intro w hSw; clear hSw; go_simp <;> with_reducible rfl)
                    try simp only [Act.put, List.setIfInBounds_toArray, List.set_cons_zero, List.set_cons_succ]
                    refine wpAnyH_take (i := 7) (oi := { dst := some 76, op := _, type := _, pos := _, after := _, guard := _ }) (v := ?_) rfl (by kernel_rfl) (by kernel_rfl) (by kernel_rfl) (fun _ _ _ h => h) (Or.inl ⟨by rfl, ?_⟩) hHeld ?_
                    rotate_left
                    · (intro w hSw; clear hSw; go_simp <;> with_reducible rfl)
                    try simp only [Act.put, List.setIfInBounds_toArray, List.set_cons_zero, List.set_cons_succ]
                    refine wpAnyH_take (i := 8) (oi := { dst := some 77, op := _, type := _, pos := _, after := _, guard := _ }) (v := ?_) rfl (by kernel_rfl) (by kernel_rfl) (by kernel_rfl) (fun _ _ _ h => h) (Or.inl ⟨by rfl, ?_⟩) hHeld ?_
                    rotate_left
                    · (intro w hSw; clear hSw; go_simp <;> with_reducible rfl)
                    try simp only [Act.put, List.setIfInBounds_toArray, List.set_cons_zero, List.set_cons_succ]
                    refine wpAnyH_take (i := 9) (oi := { dst := some 78, op := _, type := _, pos := _, after := _, guard := _ }) (v := undef) rfl (by kernel_rfl) (by kernel_rfl) (by kernel_rfl) (fun _ _ _ h => h) (Or.inr ⟨by rfl, rfl⟩) hHeld ?_
                    try simp only [Act.put, List.setIfInBounds_toArray, List.set_cons_zero, List.set_cons_succ]
                    refine wpAnyH_take (i := 10) (oi := { dst := some 79, op := _, type := _, pos := _, after := _, guard := _ }) (v := undef) rfl (by kernel_rfl) (by kernel_rfl) (by kernel_rfl) (fun _ _ _ h => h) (Or.inr ⟨by rfl, rfl⟩) hHeld ?_
                    try simp only [Act.put, List.setIfInBounds_toArray, List.set_cons_zero, List.set_cons_succ]
                    refine wpAnyH_take (i := 11) (oi := { dst := some 80, op := _, type := _, pos := _, after := _, guard := _ }) (v := undef) rfl (by kernel_rfl) (by kernel_rfl) (by kernel_rfl) (fun _ _ _ h => h) (Or.inr ⟨by rfl, rfl⟩) hHeld ?_
                    try simp only [Act.put, List.setIfInBounds_toArray, List.set_cons_zero, List.set_cons_succ]
                    refine wpAnyH_take (i := 12) (oi := { dst := some 81, op := _, type := _, pos := _, after := _, guard := _ }) (v := undef) rfl (by kernel_rfl) (by kernel_rfl) (by kernel_rfl) (fun _ _ _ h => h) (Or.inr ⟨by rfl, rfl⟩) hHeld ?_
                    try simp only [Act.put, List.setIfInBounds_toArray, List.set_cons_zero, List.set_cons_succ]
                    refine wpAnyH_take (i := 13) (oi := { dst := some 82, op := _, type := _, pos := _, after := _, guard := _ }) (v := undef) rfl (by kernel_rfl) (by kernel_rfl) (by kernel_rfl) (fun _ _ _ h => h) (Or.inr ⟨by rfl, rfl⟩) hHeld ?_
                    try simp only [Act.put, List.setIfInBounds_toArray, List.set_cons_zero, List.set_cons_succ]
                    refine wpAnyH_take (i := 14) (oi := { dst := some 83, op := _, type := _, pos := _, after := _, guard := _ }) (v := undef) rfl (by kernel_rfl) (by kernel_rfl) (by kernel_rfl) (fun _ _ _ h => h) (Or.inr ⟨by rfl, rfl⟩) hHeld ?_
                    try simp only [Act.put, List.setIfInBounds_toArray, List.set_cons_zero, List.set_cons_succ]
                    refine wpAnyH_take (i := 15) (oi := { dst := some 84, op := _, type := _, pos := _, after := _, guard := _ }) (v := undef) rfl (by kernel_rfl) (by kernel_rfl) (by kernel_rfl) (fun _ _ _ h => h) (Or.inr ⟨by rfl, rfl⟩) hHeld ?_
                    try simp only [Act.put, List.setIfInBounds_toArray, List.set_cons_zero, List.set_cons_succ]
                    refine wpAnyH_take (i := 16) (oi := { dst := some 85, op := _, type := _, pos := _, after := _, guard := _ }) (v := undef) rfl (by kernel_rfl) (by kernel_rfl) (by kernel_rfl) (fun _ _ _ h => h) (Or.inr ⟨by rfl, rfl⟩) hHeld ?_
                    try simp only [Act.put, List.setIfInBounds_toArray, List.set_cons_zero, List.set_cons_succ]
                    refine wpAnyH_take (i := 17) (oi := { dst := some 86, op := _, type := _, pos := _, after := _, guard := _ }) (v := undef) rfl (by kernel_rfl) (by kernel_rfl) (by kernel_rfl) (fun _ _ _ h => h) (Or.inr ⟨by rfl, rfl⟩) hHeld ?_
                    try simp only [Act.put, List.setIfInBounds_toArray, List.set_cons_zero, List.set_cons_succ]
                    refine wpAnyH_take (i := 18) (oi := { dst := some 87, op := _, type := _, pos := _, after := _, guard := _ }) (v := undef) rfl (by kernel_rfl) (by kernel_rfl) (by kernel_rfl) (fun _ _ _ h => h) (Or.inr ⟨by rfl, rfl⟩) hHeld ?_
                    try simp only [Act.put, List.setIfInBounds_toArray, List.set_cons_zero, List.set_cons_succ]
                    refine wpAnyH_take (i := 19) (oi := { dst := some 88, op := _, type := _, pos := _, after := _, guard := _ }) (v := undef) rfl (by kernel_rfl) (by kernel_rfl) (by kernel_rfl) (fun _ _ _ h => h) (Or.inr ⟨by rfl, rfl⟩) hHeld ?_
                    try simp only [Act.put, List.setIfInBounds_toArray, List.set_cons_zero, List.set_cons_succ]
                    refine wpAnyH_take (i := 20) (oi := { dst := some 89, op := _, type := _, pos := _, after := _, guard := _ }) (v := undef) rfl (by kernel_rfl) (by kernel_rfl) (by kernel_rfl) (fun _ _ _ h => h) (Or.inr ⟨by rfl, rfl⟩) hHeld ?_
                    try simp only [Act.put, List.setIfInBounds_toArray, List.set_cons_zero, List.set_cons_succ]
                    refine wpAnyH_take (i := 21) (oi := { dst := some 90, op := _, type := _, pos := _, after := _, guard := _ }) (v := undef) rfl (by kernel_rfl) (by kernel_rfl) (by kernel_rfl) (fun _ _ _ h => h) (Or.inr ⟨by rfl, rfl⟩) hHeld ?_
                    try simp only [Act.put, List.setIfInBounds_toArray, List.set_cons_zero, List.set_cons_succ]
                    refine wpAnyH_take (i := 22) (oi := { dst := some 91, op := _, type := _, pos := _, after := _, guard := _ }) (v := undef) rfl (by kernel_rfl) (by kernel_rfl) (by kernel_rfl) (fun _ _ _ h => h) (Or.inr ⟨by rfl, rfl⟩) hHeld ?_
                    try simp only [Act.put, List.setIfInBounds_toArray, List.set_cons_zero, List.set_cons_succ]
                    refine wpAnyH_take (i := 23) (oi := { dst := some 92, op := _, type := _, pos := _, after := _, guard := _ }) (v := undef) rfl (by kernel_rfl) (by kernel_rfl) (by kernel_rfl) (fun _ _ _ h => h) (Or.inr ⟨by rfl, rfl⟩) hHeld ?_
                    try simp only [Act.put, List.setIfInBounds_toArray, List.set_cons_zero, List.set_cons_succ]
                    refine wpAnyH_take (i := 24) (oi := { dst := some 93, op := _, type := _, pos := _, after := _, guard := _ }) (v := undef) rfl (by kernel_rfl) (by kernel_rfl) (by kernel_rfl) (fun _ _ _ h => h) (Or.inr ⟨by rfl, rfl⟩) hHeld ?_
                    try simp only [Act.put, List.setIfInBounds_toArray, List.set_cons_zero, List.set_cons_succ]
                    refine wpAnyH_take (i := 25) (oi := { dst := some 94, op := _, type := _, pos := _, after := _, guard := _ }) (v := undef) rfl (by kernel_rfl) (by kernel_rfl) (by kernel_rfl) (fun _ _ _ h => h) (Or.inr ⟨by rfl, rfl⟩) hHeld ?_
                    try simp only [Act.put, List.setIfInBounds_toArray, List.set_cons_zero, List.set_cons_succ]
                    refine wpAnyH_take (i := 26) (oi := { dst := some 95, op := _, type := _, pos := _, after := _, guard := _ }) (v := undef) rfl (by kernel_rfl) (by kernel_rfl) (by kernel_rfl) (fun _ _ _ h => h) (Or.inr ⟨by rfl, rfl⟩) hHeld ?_
                    try simp only [Act.put, List.setIfInBounds_toArray, List.set_cons_zero, List.set_cons_succ]
                    refine wpAnyH_take (i := 27) (oi := { dst := some 96, op := _, type := _, pos := _, after := _, guard := _ }) (v := undef) rfl (by kernel_rfl) (by kernel_rfl) (by kernel_rfl) (fun _ _ _ h => h) (Or.inr ⟨by rfl, rfl⟩) hHeld ?_
                    try simp only [Act.put, List.setIfInBounds_toArray, List.set_cons_zero, List.set_cons_succ]
                    refine wpAnyH_take (i := 28) (oi := { dst := some 97, op := _, type := _, pos := _, after := _, guard := _ }) (v := undef) rfl (by kernel_rfl) (by kernel_rfl) (by kernel_rfl) (fun _ _ _ h => h) (Or.inr ⟨by rfl, rfl⟩) hHeld ?_
                    try simp only [Act.put, List.setIfInBounds_toArray, List.set_cons_zero, List.set_cons_succ]
                    refine wpAnyH_take (i := 29) (oi := { dst := some 98, op := _, type := _, pos := _, after := _, guard := _ }) (v := undef) rfl (by kernel_rfl) (by kernel_rfl) (by kernel_rfl) (fun _ _ _ h => h) (Or.inr ⟨by rfl, rfl⟩) hHeld ?_
                    try simp only [Act.put, List.setIfInBounds_toArray, List.set_cons_zero, List.set_cons_succ]
                    refine wpAnyH_take (i := 30) (oi := { dst := some 99, op := _, type := _, pos := _, after := _, guard := _ }) (v := ?_) rfl (by kernel_rfl) (by kernel_rfl) (by kernel_rfl) (fun _ _ _ h => h) (Or.inl ⟨by rfl, ?_⟩) hHeld ?_
                    rotate_left
                    · (intro w hSw; clear hSw; go_simp <;> with_reducible rfl)
                    try simp only [Act.put, List.setIfInBounds_toArray, List.set_cons_zero, List.set_cons_succ]
                    refine wpAnyH_done (by kernel_rfl) ?_ _
                    go_wp2_with fail
                    go_meet
                    case rel => exact ⟨rfl, hHeld⟩
                · have ht1 := Lib.hid t1
                  have ht2 := Lib.hid t2
                  clear t1 t2
                  focus
                    obtain ⟨hl, hg_⟩ := HOT.out (fun h => hf2.out h.2) (fun h => ht2.out h.2)
                    rw [hl] at HLB
                    have HGB := Lib.hid (fun A1 k1 V h => HGB.out A1 k1 oa oc V h)
                    rw [hg_] at HGB
                    clear hl hg_
                    have HGC := Lib.hid (fun V h => HGC.out oa oc V h)
                    generalize lotsH cs oa oc = L1 at *
                    generalize getF p oa oc = gv at *
                    have gg1 : (gv != gv) = false := by simp
                    have gg2 : (gv == gv) = true := by simp
                    clear HOT
                    have bf1 : (oa != fa) = false := by rw [hf1.out]; simp
                    have bf2 : (oc != fc) = true := by simpa using hf2.out
                    have cf1 : (oa == fa) = true := by rw [hf1.out]; simp
                    have cf2 : (oc == fc) = false := by simpa using hf2.out
                    clear hf1 hf2
                    have bt1 : (oa != ta) = false := by rw [ht1.out]; simp
                    have bt2 : (oc != tc) = true := by simpa using ht2.out
                    have ct1 : (oa == ta) = true := by rw [ht1.out]; simp
                    have ct2 : (oc == tc) = false := by simpa using ht2.out
                    clear ht1 ht2
                    go_wp2_with fail
                    refine wp_region_held_drew (S := (fun V => Below Y7.heap.size Y7 V)) (by kernel_rfl) (by exact (Below.refl _ _).drew) (fun hHeld => ?_)
                    refine wpAnyH_take (i := 0) (oi := { dst := some 69, op := _, type := _, pos := _, after := _, guard := _ }) (v := ?_) rfl (by kernel_rfl) (by kernel_rfl) (by kernel_rfl) (fun _ _ _ h => h) (Or.inl ⟨by rfl, ?_⟩) hHeld ?_
                    rotate_left
                    · (intro w hSw; obtain ⟨⟨d0, d1⟩, ⟨a0_, a1_⟩, ⟨f0, f1⟩, ⟨u0, u1⟩, ⟨o0, o1⟩⟩ := HQ.out _ (hSw); go_simp <;> with_reducible rfl)
                    try simp only [Act.put, List.setIfInBounds_toArray, List.set_cons_zero, List.set_cons_succ]
                    refine wpAnyH_take (i := 1) (oi := { dst := some 70, op := _, type := _, pos := _, after := _, guard := _ }) (v := ?_) rfl (by kernel_rfl) (by kernel_rfl) (by kernel_rfl) (fun _ _ _ h => h) (Or.inl ⟨by rfl, ?_⟩) hHeld ?_
                    rotate_left
                    · (intro w hSw; obtain ⟨⟨d0, d1⟩, ⟨a0_, a1_⟩, ⟨f0, f1⟩, ⟨u0, u1⟩, ⟨o0, o1⟩⟩ := HQ.out _ (hSw); go_simp <;> with_reducible rfl)
                    try simp only [Act.put, List.setIfInBounds_toArray, List.set_cons_zero, List.set_cons_succ]
                    refine wpAnyH_take (i := 2) (oi := { dst := some 71, op := _, type := _, pos := _, after := _, guard := _ }) (v := ?_) rfl (by kernel_rfl) (by kernel_rfl) (by kernel_rfl) (fun _ _ _ h => h) (Or.inl ⟨by rfl, ?_⟩) hHeld ?_
                    rotate_left
                    · (intro w hSw; clear hSw; go_simp <;> with_reducible rfl)
                    try simp only [Act.put, List.setIfInBounds_toArray, List.set_cons_zero, List.set_cons_succ]
                    refine wpAnyH_take (i := 3) (oi := { dst := some 72, op := _, type := _, pos := _, after := _, guard := _ }) (v := ?_) rfl (by kernel_rfl) (by kernel_rfl) (by kernel_rfl) (fun _ _ _ h => h) (Or.inl ⟨by rfl, ?_⟩) hHeld ?_
                    rotate_left
                    · (intro w hSw; clear hSw; go_simp <;> with_reducible rfl)
                    try simp only [Act.put, List.setIfInBounds_toArray, List.set_cons_zero, List.set_cons_succ]
                    refine wpAnyH_take (i := 4) (oi := { dst := some 73, op := _, type := _, pos := _, after := _, guard := _ }) (v := ?_) rfl (by kernel_rfl) (by kernel_rfl) (by kernel_rfl) (fun _ _ _ h => h) (Or.inl ⟨by rfl, ?_⟩) hHeld ?_
                    rotate_left
                    · (intro w hSw; obtain ⟨⟨d0, d1⟩, ⟨a0_, a1_⟩, ⟨f0, f1⟩, ⟨u0, u1⟩, ⟨o0, o1⟩⟩ := HQ.out _ (hSw); go_simp <;> with_reducible rfl)
                    try simp only [Act.put, List.setIfInBounds_toArray, List.set_cons_zero, List.set_cons_succ]
                    refine wpAnyH_take (i := 5) (oi := { dst := some 74, op := _, type := _, pos := _, after := _, guard := _ }) (v := ?_) rfl (by kernel_rfl) (by kernel_rfl) (by kernel_rfl) (fun _ _ _ h => h) (Or.inl ⟨by rfl, ?_⟩) hHeld ?_
                    rotate_left
                    · (intro w hSw; obtain ⟨⟨d0, d1⟩, ⟨a0_, a1_⟩, ⟨f0, f1⟩, ⟨u0, u1⟩, ⟨o0, o1⟩⟩ := HQ.out _ (hSw); go_simp <;> with_reducible rfl)
                    try simp only [Act.put, List.setIfInBounds_toArray, List.set_cons_zero, List.set_cons_succ]
                    refine wpAnyH_take (i := 6) (oi := { dst := some 75, op := _, type := _, pos := _, after := _, guard := _ }) (v := ?_) rfl (by kernel_rfl) (by kernel_rfl) (by kernel_rfl) (fun _ _ _ h => h) (Or.inl ⟨by rfl, ?_⟩) hHeld ?_
                    rotate_left
                    · (intro w hSw; clear hSw; go_simp <;> with_reducible rfl)
                    try simp only [Act.put, List.setIfInBounds_toArray, List.set_cons_zero, List.set_cons_succ]
                    refine wpAnyH_take (i := 7) (oi := { dst := some 76, op := _, type := _, pos := _, after := _, guard := _ }) (v := ?_) rfl (by kernel_rfl) (by kernel_rfl) (by kernel_rfl) (fun _ _ _ h => h) (Or.inl ⟨by rfl, ?_⟩) hHeld ?_
                    rotate_left
                    · (intro w hSw; clear hSw; go_simp <;> with_reducible rfl)
                    try simp only [Act.put, List.setIfInBounds_toArray, List.set_cons_zero, List.set_cons_succ]
                    refine wpAnyH_take (i := 8) (oi := { dst := some 77, op := _, type := _, pos := _, after := _, guard := _ }) (v := ?_) rfl (by kernel_rfl) (by kernel_rfl) (by kernel_rfl) (fun _ _ _ h => h) (Or.inl ⟨by rfl, ?_⟩) hHeld ?_
                    rotate_left
                    · (intro w hSw; clear hSw; go_simp <;> with_reducible rfl)
                    try simp only [Act.put, List.setIfInBounds_toArray, List.set_cons_zero, List.set_cons_succ]
                    refine wpAnyH_take (i := 9) (oi := { dst := some 78, op := _, type := _, pos := _, after := _, guard := _ }) (v := ?_) rfl (by kernel_rfl) (by kernel_rfl) (by kernel_rfl) (fun _ _ _ h => h) (Or.inl ⟨by rfl, ?_⟩) hHeld ?_
                    rotate_left
                    · (intro w hSw; clear hSw; go_simp <;> with_reducible rfl)
                    try simp only [Act.put, List.setIfInBounds_toArray, List.set_cons_zero, List.set_cons_succ]
                    refine wpAnyH_take (i := 10) (oi := { dst := some 79, op := _, type := _, pos := _, after := _, guard := _ }) (v := ?_) rfl (by kernel_rfl) (by kernel_rfl) (by kernel_rfl) (fun _ _ _ h => h) (Or.inl ⟨by rfl, ?_⟩) hHeld ?_
                    rotate_left
                    · (intro w hSw; obtain ⟨⟨d0, d1⟩, ⟨a0_, a1_⟩, ⟨f0, f1⟩, ⟨u0, u1⟩, ⟨o0, o1⟩⟩ := HQ.out _ (hSw); go_simp <;> with_reducible rfl)
                    try simp only [Act.put, List.setIfInBounds_toArray, List.set_cons_zero, List.set_cons_succ]
                    refine wpAnyH_take (i := 11) (oi := { dst := some 80, op := _, type := _, pos := _, after := _, guard := _ }) (v := ?_) rfl (by kernel_rfl) (by kernel_rfl) (by kernel_rfl) (fun _ _ _ h => h) (Or.inl ⟨by rfl, ?_⟩) hHeld ?_
                    rotate_left
                    · (intro w hSw; obtain ⟨⟨d0, d1⟩, ⟨a0_, a1_⟩, ⟨f0, f1⟩, ⟨u0, u1⟩, ⟨o0, o1⟩⟩ := HQ.out _ (hSw); go_simp <;> with_reducible rfl)
                    try simp only [Act.put, List.setIfInBounds_toArray, List.set_cons_zero, List.set_cons_succ]
                    refine wpAnyH_take (i := 13) (oi := { dst := some 82, op := _, type := _, pos := _, after := _, guard := _ }) (v := ?_) rfl (by kernel_rfl) (by kernel_rfl) (by kernel_rfl) (fun _ _ _ h => h) (Or.inl ⟨by rfl, ?_⟩) hHeld ?_
                    rotate_left
                    · (intro w hSw; clear hSw; go_simp <;> with_reducible rfl)
                    try simp only [Act.put, List.setIfInBounds_toArray, List.set_cons_zero, List.set_cons_succ]
                    refine wpAnyH_take (i := 14) (oi := { dst := some 83, op := _, type := _, pos := _, after := _, guard := _ }) (v := ?_) rfl (by kernel_rfl) (by kernel_rfl) (by kernel_rfl) (fun _ _ _ h => h) (Or.inl ⟨by rfl, ?_⟩) hHeld ?_
                    rotate_left
                    · (intro w hSw; obtain ⟨⟨d0, d1⟩, ⟨a0_, a1_⟩, ⟨f0, f1⟩, ⟨u0, u1⟩, ⟨o0, o1⟩⟩ := HQ.out _ (hSw); go_simp <;> with_reducible rfl)
                    try simp only [Act.put, List.setIfInBounds_toArray, List.set_cons_zero, List.set_cons_succ]
                    refine wpAnyH_take (i := 15) (oi := { dst := some 84, op := _, type := _, pos := _, after := _, guard := _ }) (v := ?_) rfl (by kernel_rfl) (by kernel_rfl) (by kernel_rfl) (fun _ _ _ h => h) (Or.inl ⟨by rfl, ?_⟩) hHeld ?_
                    rotate_left
                    · (intro w hSw; obtain ⟨⟨d0, d1⟩, ⟨a0_, a1_⟩, ⟨f0, f1⟩, ⟨u0, u1⟩, ⟨o0, o1⟩⟩ := HQ.out _ (hSw); go_simp <;> with_reducible rfl)
                    try simp only [Act.put, List.setIfInBounds_toArray, List.set_cons_zero, List.set_cons_succ]
                    refine wpAnyH_ready (rs := [12]) (by kernel_rfl) (by simp) ?_
                    refine AllReadyH.cons (o := { dst := some 81, op := _, type := _, pos := _, after := _, guard := _ }) rfl (fun K hK => ?_) AllReadyH.nil
                    go_simp
                    refine (HLB.out _ _ _ _ HM15.out (HDD.out _ hHeld).s (HDD.out _ hHeld).t).mono ?_
                    rintro e x1 ⟨⟨A9, c9, rfl, o9⟩, hk1⟩
                    have hKeep := since_step hHeld hk1
                    have s9 := Sl.of_own o9
                    clear o9
                    clear hk1
                    go_wp2_with fail
                    refine hK.out _ _ (by (try dsimp only); exact hKeep) (fun hHeld => ?_)
                    clear hK K hKeep
                    try simp only [Act.put, List.setIfInBounds_toArray, List.set_cons_zero, List.set_cons_succ]
                    refine wpAnyH_ready (rs := [16]) (by kernel_rfl) (by simp) ?_
                    refine AllReadyH.cons (o := { dst := some 85, op := _, type := _, pos := _, after := _, guard := _ }) rfl (fun K hK => ?_) AllReadyH.nil
                    go_simp
                    refine (HLC.out _ (HYC.out _ hHeld)).mono ?_
                    rintro e x2 ⟨⟨A10, c10, rfl, o10⟩, hk1⟩
                    have hKeep := since_step hHeld hk1
                    have s9 := s9.below hk1
                    have s10 := Sl.of_own o10
                    clear o10
                    clear hk1
                    go_wp2_with fail
                    refine hK.out _ _ (by (try dsimp only); exact hKeep) (fun hHeld => ?_)
                    clear hK K hKeep
                    try simp only [Act.put, List.setIfInBounds_toArray, List.set_cons_zero, List.set_cons_succ]
                    refine wpAnyH_ready (rs := [17]) (by kernel_rfl) (by simp) ?_
                    refine AllReadyH.cons (o := { dst := some 86, op := _, type := _, pos := _, after := _, guard := _ }) rfl (fun K hK => ?_) AllReadyH.nil
                    go_simp
                    refine (HVS.out _ _ _ _ _ s9 s10).mono ?_
                    rintro e x3 ⟨rfl, hk1⟩
                    have hKeep := since_step hHeld hk1
                    clear s9 s10
                    clear hk1
                    go_wp2_with fail
                    refine hK.out _ _ (by (try dsimp only); exact hKeep) (fun hHeld => ?_)
                    clear hK K hKeep
                    try simp only [Act.put, List.setIfInBounds_toArray, List.set_cons_zero, List.set_cons_succ]
                    refine wpAnyH_take (i := 18) (oi := { dst := some 87, op := _, type := _, pos := _, after := _, guard := _ }) (v := ?_) rfl (by kernel_rfl) (by kernel_rfl) (by kernel_rfl) (fun _ _ _ h => h) (Or.inl ⟨by rfl, ?_⟩) hHeld ?_
                    rotate_left
                    · (intro w hSw; clear hSw; go_simp <;> with_reducible rfl)
                    try simp only [Act.put, List.setIfInBounds_toArray, List.set_cons_zero, List.set_cons_succ]
                    refine wpAnyH_take (i := 19) (oi := { dst := some 88, op := _, type := _, pos := _, after := _, guard := _ }) (v := ?_) rfl (by kernel_rfl) (by kernel_rfl) (by kernel_rfl) (fun _ _ _ h => h) (Or.inl ⟨by rfl, ?_⟩) hHeld ?_
                    rotate_left
                    · (intro w hSw; clear hSw; go_simp <;> with_reducible rfl)
                    try simp only [Act.put, List.setIfInBounds_toArray, List.set_cons_zero, List.set_cons_succ]
                    refine wpAnyH_take (i := 20) (oi := { dst := some 89, op := _, type := _, pos := _, after := _, guard := _ }) (v := ?_) rfl (by kernel_rfl) (by kernel_rfl) (by kernel_rfl) (fun _ _ _ h => h) (Or.inl ⟨by rfl, ?_⟩) hHeld ?_
                    rotate_left
                    · (intro w hSw; clear hSw; go_simp <;> with_reducible rfl)
                    try simp only [Act.put, List.setIfInBounds_toArray, List.set_cons_zero, List.set_cons_succ]
                    refine wpAnyH_take (i := 21) (oi := { dst := some 90, op := _, type := _, pos := _, after := _, guard := _ }) (v := ?_) rfl (by kernel_rfl) (by kernel_rfl) (by kernel_rfl) (fun _ _ _ h => h) (Or.inl ⟨by rfl, ?_⟩) hHeld ?_
                    rotate_left
                    · (intro w hSw; obtain ⟨⟨d0, d1⟩, ⟨a0_, a1_⟩, ⟨f0, f1⟩, ⟨u0, u1⟩, ⟨o0, o1⟩⟩ := HQ.out _ (hSw); go_simp <;> with_reducible rfl)
                    try simp only [Act.put, List.setIfInBounds_toArray, List.set_cons_zero, List.set_cons_succ]
                    refine wpAnyH_take (i := 22) (oi := { dst := some 91, op := _, type := _, pos := _, after := _, guard := _ }) (v := ?_) rfl (by kernel_rfl) (by kernel_rfl) (by kernel_rfl) (fun _ _ _ h => h) (Or.inl ⟨by rfl, ?_⟩) hHeld ?_
                    rotate_left
                    · (intro w hSw; obtain ⟨⟨d0, d1⟩, ⟨a0_, a1_⟩, ⟨f0, f1⟩, ⟨u0, u1⟩, ⟨o0, o1⟩⟩ := HQ.out _ (hSw); go_simp <;> with_reducible rfl)
                    try simp only [Act.put, List.setIfInBounds_toArray, List.set_cons_zero, List.set_cons_succ]
                    refine wpAnyH_take (i := 24) (oi := { dst := some 93, op := _, type := _, pos := _, after := _, guard := _ }) (v := ?_) rfl (by kernel_rfl) (by kernel_rfl) (by kernel_rfl) (fun _ _ _ h => h) (Or.inl ⟨by rfl, ?_⟩) hHeld ?_
                    rotate_left
                    · (intro w hSw; clear hSw; go_simp <;> with_reducible rfl)
                    try simp only [Act.put, List.setIfInBounds_toArray, List.set_cons_zero, List.set_cons_succ]
                    refine wpAnyH_take (i := 25) (oi := { dst := some 94, op := _, type := _, pos := _, after := _, guard := _ }) (v := ?_) rfl (by kernel_rfl) (by kernel_rfl) (by kernel_rfl) (fun _ _ _ h => h) (Or.inl ⟨by rfl, ?_⟩) hHeld ?_
                    rotate_left
                    · (intro w hSw; obtain ⟨⟨d0, d1⟩, ⟨a0_, a1_⟩, ⟨f0, f1⟩, ⟨u0, u1⟩, ⟨o0, o1⟩⟩ := HQ.out _ (hSw); go_simp <;> with_reducible rfl)
                    try simp only [Act.put, List.setIfInBounds_toArray, List.set_cons_zero, List.set_cons_succ]
                    refine wpAnyH_take (i := 26) (oi := { dst := some 95, op := _, type := _, pos := _, after := _, guard := _ }) (v := ?_) rfl (by kernel_rfl) (by kernel_rfl) (by kernel_rfl) (fun _ _ _ h => h) (Or.inl ⟨by rfl, ?_⟩) hHeld ?_
                    rotate_left
                    · (intro w hSw; obtain ⟨⟨d0, d1⟩, ⟨a0_, a1_⟩, ⟨f0, f1⟩, ⟨u0, u1⟩, ⟨o0, o1⟩⟩ := HQ.out _ (hSw); go_simp <;> with_reducible rfl)
                    try simp only [Act.put, List.setIfInBounds_toArray, List.set_cons_zero, List.set_cons_succ]
                    refine wpAnyH_ready (rs := [23]) (by kernel_rfl) (by simp) ?_
                    refine AllReadyH.cons (o := { dst := some 92, op := _, type := _, pos := _, after := _, guard := _ }) rfl (fun K hK => ?_) AllReadyH.nil
                    go_simp
                    refine (HGB.out _ _ _ (HDD.out _ hHeld).f).mono ?_
                    rintro e x4 ⟨rfl, hk1⟩
                    have hKeep := since_step hHeld hk1
                    clear hk1
                    go_wp2_with fail
                    refine hK.out _ _ (by (try dsimp only); exact hKeep) (fun hHeld => ?_)
                    clear hK K hKeep
                    try simp only [Act.put, List.setIfInBounds_toArray, List.set_cons_zero, List.set_cons_succ]
                    refine wpAnyH_ready (rs := [27]) (by kernel_rfl) (by simp) ?_
                    refine AllReadyH.cons (o := { dst := some 96, op := _, type := _, pos := _, after := _, guard := _ }) rfl (fun K hK => ?_) AllReadyH.nil
                    go_simp
                    refine (HGC.out _ (HYC.out _ hHeld)).mono ?_
                    rintro e x5 ⟨rfl, hk1⟩
                    have hKeep := since_step hHeld hk1
                    clear hk1
                    go_wp2_with fail
                    refine hK.out _ _ (by (try dsimp only); exact hKeep) (fun hHeld => ?_)
                    clear hK K hKeep
                    try simp only [Act.put, List.setIfInBounds_toArray, List.set_cons_zero, List.set_cons_succ]
                    refine wpAnyH_take (i := 28) (oi := { dst := some 97, op := _, type := _, pos := _, after := _, guard := _ }) (v := ?_) rfl (by kernel_rfl) (by kernel_rfl) (by kernel_rfl) (fun _ _ _ h => h) (Or.inl ⟨by rfl, ?_⟩) hHeld ?_
                    rotate_left
                    · (intro w hSw; clear hSw; go_simp <;> with_reducible rfl)
                    try simp only [Act.put, List.setIfInBounds_toArray, List.set_cons_zero, List.set_cons_succ]
                    refine wpAnyH_take (i := 29) (oi := { dst := some 98, op := _, type := _, pos := _, after := _, guard := _ }) (v := ?_) rfl (by kernel_rfl) (by kernel_rfl) (by kernel_rfl) (fun _ _ _ h => h) (Or.inl ⟨by rfl, ?_⟩) hHeld ?_
                    rotate_left
                    · (intro w hSw; clear hSw; go_simp <;> with_reducible rfl)
                    try simp only [Act.put, List.setIfInBounds_toArray, List.set_cons_zero, List.set_cons_succ]
                    refine wpAnyH_take (i := 30) (oi := { dst := some 99, op := _, type := _, pos := _, after := _, guard := _ }) (v := ?_) rfl (by kernel_rfl) (by kernel_rfl) (by kernel_rfl) (fun _ _ _ h => h) (Or.inl ⟨by rfl, ?_⟩) hHeld ?_
                    rotate_left
                    · (intro w hSw; clear hSw; go_simp <;> with_reducible rfl)
                    try simp only [Act.put, List.setIfInBounds_toArray, List.set_cons_zero, List.set_cons_succ]
                    refine wpAnyH_done (by kernel_rfl) ?_ _
                    go_wp2_with fail
                    go_meet
                    case rel => exact ⟨rfl, hHeld⟩
              · have ht1 := Lib.hid t1
                clear t1
                focus
                  obtain ⟨hl, hg_⟩ := HOT.out (fun h => hf2.out h.2) (fun h => ht1.out h.1)
                  rw [hl] at HLB
                  have HGB := Lib.hid (fun A1 k1 V h => HGB.out A1 k1 oa oc V h)
                  rw [hg_] at HGB
                  clear hl hg_
                  have HGC := Lib.hid (fun V h => HGC.out oa oc V h)
                  generalize lotsH cs oa oc = L1 at *
                  generalize getF p oa oc = gv at *
                  have gg1 : (gv != gv) = false := by simp
                  have gg2 : (gv == gv) = true := by simp
                  clear HOT
                  have bf1 : (oa != fa) = false := by rw [hf1.out]; simp
                  have bf2 : (oc != fc) = true := by simpa using hf2.out
                  have cf1 : (oa == fa) = true := by rw [hf1.out]; simp
                  have cf2 : (oc == fc) = false := by simpa using hf2.out
                  clear hf1 hf2
                  have bt1 : (oa != ta) = true := by simpa using ht1.out
                  have ct1 : (oa == ta) = false := by simpa using ht1.out
                  clear ht1
                  go_wp2_with fail
                  refine wp_region_held_drew (S := (fun V => Below Y7.heap.size Y7 V)) (by kernel_rfl) (by exact (Below.refl _ _).drew) (fun hHeld => ?_)
                  refine wpAnyH_take (i := 0) (oi := { dst := some 69, op := _, type := _, pos := _, after := _, guard := _ }) (v := ?_) rfl (by kernel_rfl) (by kernel_rfl) (by kernel_rfl) (fun _ _ _ h => h) (Or.inl ⟨by rfl, ?_⟩) hHeld ?_
                  rotate_left
                  · (intro w hSw; obtain ⟨⟨d0, d1⟩, ⟨a0_, a1_⟩, ⟨f0, f1⟩, ⟨u0, u1⟩, ⟨o0, o1⟩⟩ := HQ.out _ (hSw); go_simp <;> with_reducible rfl)
                  try simp only [Act.put, List.setIfInBounds_toArray, List.set_cons_zero, List.set_cons_succ]
                  refine wpAnyH_take (i := 1) (oi := { dst := some 70, op := _, type := _, pos := _, after := _, guard := _ }) (v := ?_) rfl (by kernel_rfl) (by kernel_rfl) (by kernel_rfl) (fun _ _ _ h => h) (Or.inl ⟨by rfl, ?_⟩) hHeld ?_
                  rotate_left
                  · (intro w hSw; obtain ⟨⟨d0, d1⟩, ⟨a0_, a1_⟩, ⟨f0, f1⟩, ⟨u0, u1⟩, ⟨o0, o1⟩⟩ := HQ.out _ (hSw); go_simp <;> with_reducible rfl)
                  try simp only [Act.put, List.setIfInBounds_toArray, List.set_cons_zero, List.set_cons_succ]
                  refine wpAnyH_take (i := 2) (oi := { dst := some 71, op := _, type := _, pos := _, after := _, guard := _ }) (v := ?_) rfl (by kernel_rfl) (by kernel_rfl) (by kernel_rfl) (fun _ _ _ h => h) (Or.inl ⟨by rfl, ?_⟩) hHeld ?_
                  rotate_left
                  · (intro w hSw; clear hSw; go_simp <;> with_reducible rfl)
                  try simp only [Act.put, List.setIfInBounds_toArray, List.set_cons_zero, List.set_cons_succ]
                  refine wpAnyH_take (i := 3) (oi := { dst := some 72, op := _, type := _, pos := _, after := _, guard := _ }) (v := ?_) rfl (by kernel_rfl) (by kernel_rfl) (by kernel_rfl) (fun _ _ _ h => h) (Or.inl ⟨by rfl, ?_⟩) hHeld ?_
                  rotate_left
                  · (intro w hSw; clear hSw; go_simp <;> with_reducible rfl)
                  try simp only [Act.put, List.setIfInBounds_toArray, List.set_cons_zero, List.set_cons_succ]
                  refine wpAnyH_take (i := 4) (oi := { dst := some 73, op := _, type := _, pos := _, after := _, guard := _ }) (v := ?_) rfl (by kernel_rfl) (by kernel_rfl) (by kernel_rfl) (fun _ _ _ h => h) (Or.inl ⟨by rfl, ?_⟩) hHeld ?_
                  rotate_left
                  · (intro w hSw; obtain ⟨⟨d0, d1⟩, ⟨a0_, a1_⟩, ⟨f0, f1⟩, ⟨u0, u1⟩, ⟨o0, o1⟩⟩ := HQ.out _ (hSw); go_simp <;> with_reducible rfl)
                  try simp only [Act.put, List.setIfInBounds_toArray, List.set_cons_zero, List.set_cons_succ]
                  refine wpAnyH_take (i := 5) (oi := { dst := some 74, op := _, type := _, pos := _, after := _, guard := _ }) (v := ?_) rfl (by kernel_rfl) (by kernel_rfl) (by kernel_rfl) (fun _ _ _ h => h) (Or.inl ⟨by rfl, ?_⟩) hHeld ?_
                  rotate_left
                  · (intro w hSw; obtain ⟨⟨d0, d1⟩, ⟨a0_, a1_⟩, ⟨f0, f1⟩, ⟨u0, u1⟩, ⟨o0, o1⟩⟩ := HQ.out _ (hSw); go_simp <;> with_reducible rfl)
                  try simp only [Act.put, List.setIfInBounds_toArray, List.set_cons_zero, List.set_cons_succ]
                  refine wpAnyH_take (i := 6) (oi := { dst := some 75, op := _, type := _, pos := _, after := _, guard := _ }) (v := ?_) rfl (by kernel_rfl) (by kernel_rfl) (by kernel_rfl) (fun _ _ _ h => h) (Or.inl ⟨by rfl, ?_⟩) hHeld ?_
                  rotate_left
                  · (intro w hSw; clear hSw; go_simp <;> with_reducible rfl)
                  try simp only [Act.put, List.setIfInBounds_toArray, List.set_cons_zero, List.set_cons_succ]
                  refine wpAnyH_take (i := 7) (oi := { dst := some 76, op := _, type := _, pos := _, after := _, guard := _ }) (v := ?_) rfl (by kernel_rfl) (by kernel_rfl) (by kernel_rfl) (fun _ _ _ h => h) (Or.inl ⟨by rfl, ?_⟩) hHeld ?_
                  rotate_left
                  · (intro w hSw; clear hSw; go_simp <;> with_reducible rfl)
                  try simp only [Act.put, List.setIfInBounds_toArray, List.set_cons_zero, List.set_cons_succ]
                  refine wpAnyH_take (i := 8) (oi := { dst := some 77, op := _, type := _, pos := _, after := _, guard := _ }) (v := ?_) rfl (by kernel_rfl) (by kernel_rfl) (by kernel_rfl) (fun _ _ _ h => h) (Or.inl ⟨by rfl, ?_⟩) hHeld ?_
                  rotate_left
                  · (intro w hSw; clear hSw; go_simp <;> with_reducible rfl)
                  try simp only [Act.put, List.setIfInBounds_toArray, List.set_cons_zero, List.set_cons_succ]
                  refine wpAnyH_take (i := 9) (oi := { dst := some 78, op := _, type := _, pos := _, after := _, guard := _ }) (v := ?_) rfl (by kernel_rfl) (by kernel_rfl) (by kernel_rfl) (fun _ _ _ h => h) (Or.inl ⟨by rfl, ?_⟩) hHeld ?_
                  rotate_left
                  · (intro w hSw; clear hSw; go_simp <;> with_reducible rfl)
                  try simp only [Act.put, List.setIfInBounds_toArray, List.set_cons_zero, List.set_cons_succ]
                  refine wpAnyH_take (i := 10) (oi := { dst := some 79, op := _, type := _, pos := _, after := _, guard := _ }) (v := ?_) rfl (by kernel_rfl) (by kernel_rfl) (by kernel_rfl) (fun _ _ _ h => h) (Or.inl ⟨by rfl, ?_⟩) hHeld ?_
                  rotate_left
                  · (intro w hSw; obtain ⟨⟨d0, d1⟩, ⟨a0_, a1_⟩, ⟨f0, f1⟩, ⟨u0, u1⟩, ⟨o0, o1⟩⟩ := HQ.out _ (hSw); go_simp <;> with_reducible rfl)
                  try simp only [Act.put, List.setIfInBounds_toArray, List.set_cons_zero, List.set_cons_succ]
                  refine wpAnyH_take (i := 11) (oi := { dst := some 80, op := _, type := _, pos := _, after := _, guard := _ }) (v := ?_) rfl (by kernel_rfl) (by kernel_rfl) (by kernel_rfl) (fun _ _ _ h => h) (Or.inl ⟨by rfl, ?_⟩) hHeld ?_
                  rotate_left
                  · (intro w hSw; obtain ⟨⟨d0, d1⟩, ⟨a0_, a1_⟩, ⟨f0, f1⟩, ⟨u0, u1⟩, ⟨o0, o1⟩⟩ := HQ.out _ (hSw); go_simp <;> with_reducible rfl)
                  try simp only [Act.put, List.setIfInBounds_toArray, List.set_cons_zero, List.set_cons_succ]
                  refine wpAnyH_take (i := 13) (oi := { dst := some 82, op := _, type := _, pos := _, after := _, guard := _ }) (v := ?_) rfl (by kernel_rfl) (by kernel_rfl) (by kernel_rfl) (fun _ _ _ h => h) (Or.inl ⟨by rfl, ?_⟩) hHeld ?_
                  rotate_left
                  · (intro w hSw; clear hSw; go_simp <;> with_reducible rfl)
                  try simp only [Act.put, List.setIfInBounds_toArray, List.set_cons_zero, List.set_cons_succ]
                  refine wpAnyH_take (i := 14) (oi := { dst := some 83, op := _, type := _, pos := _, after := _, guard := _ }) (v := ?_) rfl (by kernel_rfl) (by kernel_rfl) (by kernel_rfl) (fun _ _ _ h => h) (Or.inl ⟨by rfl, ?_⟩) hHeld ?_
                  rotate_left
                  · (intro w hSw; obtain ⟨⟨d0, d1⟩, ⟨a0_, a1_⟩, ⟨f0, f1⟩, ⟨u0, u1⟩, ⟨o0, o1⟩⟩ := HQ.out _ (hSw); go_simp <;> with_reducible rfl)
                  try simp only [Act.put, List.setIfInBounds_toArray, List.set_cons_zero, List.set_cons_succ]
                  refine wpAnyH_take (i := 15) (oi := { dst := some 84, op := _, type := _, pos := _, after := _, guard := _ }) (v := ?_) rfl (by kernel_rfl) (by kernel_rfl) (by kernel_rfl) (fun _ _ _ h => h) (Or.inl ⟨by rfl, ?_⟩) hHeld ?_
                  rotate_left
                  · (intro w hSw; obtain ⟨⟨d0, d1⟩, ⟨a0_, a1_⟩, ⟨f0, f1⟩, ⟨u0, u1⟩, ⟨o0, o1⟩⟩ := HQ.out _ (hSw); go_simp <;> with_reducible rfl)
                  try simp only [Act.put, List.setIfInBounds_toArray, List.set_cons_zero, List.set_cons_succ]
                  refine wpAnyH_ready (rs := [12]) (by kernel_rfl) (by simp) ?_
                  refine AllReadyH.cons (o := { dst := some 81, op := _, type := _, pos := _, after := _, guard := _ }) rfl (fun K hK => ?_) AllReadyH.nil
                  go_simp
                  refine (HLB.out _ _ _ _ HM15.out (HDD.out _ hHeld).s (HDD.out _ hHeld).t).mono ?_
                  rintro e x1 ⟨⟨A9, c9, rfl, o9⟩, hk1⟩
                  have hKeep := since_step hHeld hk1
                  have s9 := Sl.of_own o9
                  clear o9
                  clear hk1
                  go_wp2_with fail
                  refine hK.out _ _ (by (try dsimp only); exact hKeep) (fun hHeld => ?_)
                  clear hK K hKeep
                  try simp only [Act.put, List.setIfInBounds_toArray, List.set_cons_zero, List.set_cons_succ]
                  refine wpAnyH_ready (rs := [16]) (by kernel_rfl) (by simp) ?_
                  refine AllReadyH.cons (o := { dst := some 85, op := _, type := _, pos := _, after := _, guard := _ }) rfl (fun K hK => ?_) AllReadyH.nil
                  go_simp
                  refine (HLC.out _ (HYC.out _ hHeld)).mono ?_
                  rintro e x2 ⟨⟨A10, c10, rfl, o10⟩, hk1⟩
                  have hKeep := since_step hHeld hk1
                  have s9 := s9.below hk1
                  have s10 := Sl.of_own o10
                  clear o10
                  clear hk1
                  go_wp2_with fail
                  refine hK.out _ _ (by (try dsimp only); exact hKeep) (fun hHeld => ?_)
                  clear hK K hKeep
                  try simp only [Act.put, List.setIfInBounds_toArray, List.set_cons_zero, List.set_cons_succ]
                  refine wpAnyH_ready (rs := [17]) (by kernel_rfl) (by simp) ?_
                  refine AllReadyH.cons (o := { dst := some 86, op := _, type := _, pos := _, after := _, guard := _ }) rfl (fun K hK => ?_) AllReadyH.nil
                  go_simp
                  refine (HVS.out _ _ _ _ _ s9 s10).mono ?_
                  rintro e x3 ⟨rfl, hk1⟩
                  have hKeep := since_step hHeld hk1
                  clear s9 s10
                  clear hk1
                  go_wp2_with fail
                  refine hK.out _ _ (by (try dsimp only); exact hKeep) (fun hHeld => ?_)
                  clear hK K hKeep
                  try simp only [Act.put, List.setIfInBounds_toArray, List.set_cons_zero, List.set_cons_succ]
                  refine wpAnyH_take (i := 18) (oi := { dst := some 87, op := _, type := _, pos := _, after := _, guard := _ }) (v := ?_) rfl (by kernel_rfl) (by kernel_rfl) (by kernel_rfl) (fun _ _ _ h => h) (Or.inl ⟨by rfl, ?_⟩) hHeld ?_
                  rotate_left
                  · (intro w hSw; clear hSw; go_simp <;> with_reducible rfl)
                  try simp only [Act.put, List.setIfInBounds_toArray, List.set_cons_zero, List.set_cons_succ]
                  refine wpAnyH_take (i := 19) (oi := { dst := some 88, op := _, type := _, pos := _, after := _, guard := _ }) (v := ?_) rfl (by kernel_rfl) (by kernel_rfl) (by kernel_rfl) (fun _ _ _ h => h) (Or.inl ⟨by rfl, ?_⟩) hHeld ?_
                  rotate_left
                  · (intro w hSw; clear hSw; go_simp <;> with_reducible rfl)
                  try simp only [Act.put, List.setIfInBounds_toArray, List.set_cons_zero, List.set_cons_succ]
                  refine wpAnyH_take (i := 20) (oi := { dst := some 89, op := _, type := _, pos := _, after := _, guard := _ }) (v := ?_) rfl (by kernel_rfl) (by kernel_rfl) (by kernel_rfl) (fun _ _ _ h => h) (Or.inl ⟨by rfl, ?_⟩) hHeld ?_
                  rotate_left
                  · (intro w hSw; clear hSw; go_simp <;> with_reducible rfl)
                  try simp only [Act.put, List.setIfInBounds_toArray, List.set_cons_zero, List.set_cons_succ]
                  refine wpAnyH_take (i := 21) (oi := { dst := some 90, op := _, type := _, pos := _, after := _, guard := _ }) (v := ?_) rfl (by kernel_rfl) (by kernel_rfl) (by kernel_rfl) (fun _ _ _ h => h) (Or.inl ⟨by rfl, ?_⟩) hHeld ?_
                  rotate_left
                  · (intro w hSw; obtain ⟨⟨d0, d1⟩, ⟨a0_, a1_⟩, ⟨f0, f1⟩, ⟨u0, u1⟩, ⟨o0, o1⟩⟩ := HQ.out _ (hSw); go_simp <;> with_reducible rfl)
                  try simp only [Act.put, List.setIfInBounds_toArray, List.set_cons_zero, List.set_cons_succ]
                  refine wpAnyH_take (i := 22) (oi := { dst := some 91, op := _, type := _, pos := _, after := _, guard := _ }) (v := ?_) rfl (by kernel_rfl) (by kernel_rfl) (by kernel_rfl) (fun _ _ _ h => h) (Or.inl ⟨by rfl, ?_⟩) hHeld ?_
                  rotate_left
                  · (intro w hSw; obtain ⟨⟨d0, d1⟩, ⟨a0_, a1_⟩, ⟨f0, f1⟩, ⟨u0, u1⟩, ⟨o0, o1⟩⟩ := HQ.out _ (hSw); go_simp <;> with_reducible rfl)
                  try simp only [Act.put, List.setIfInBounds_toArray, List.set_cons_zero, List.set_cons_succ]
                  refine wpAnyH_take (i := 24) (oi := { dst := some 93, op := _, type := _, pos := _, after := _, guard := _ }) (v := ?_) rfl (by kernel_rfl) (by kernel_rfl) (by kernel_rfl) (fun _ _ _ h => h) (Or.inl ⟨by rfl, ?_⟩) hHeld ?_
                  rotate_left
                  · (intro w hSw; clear hSw; go_simp <;> with_reducible rfl)
                  try simp only [Act.put, List.setIfInBounds_toArray, List.set_cons_zero, List.set_cons_succ]
                  refine wpAnyH_take (i := 25) (oi := { dst := some 94, op := _, type := _, pos := _, after := _, guard := _ }) (v := ?_) rfl (by kernel_rfl) (by kernel_rfl) (by kernel_rfl) (fun _ _ _ h => h) (Or.inl ⟨by rfl, ?_⟩) hHeld ?_
                  rotate_left
                  · (intro w hSw; obtain ⟨⟨d0, d1⟩, ⟨a0_, a1_⟩, ⟨f0, f1⟩, ⟨u0, u1⟩, ⟨o0, o1⟩⟩ := HQ.out _ (hSw); go_simp <;> with_reducible rfl)
                  try simp only [Act.put, List.setIfInBounds_toArray, List.set_cons_zero, List.set_cons_succ]
                  refine wpAnyH_take (i := 26) (oi := { dst := some 95, op := _, type := _, pos := _, after := _, guard := _ }) (v := ?_) rfl (by kernel_rfl) (by kernel_rfl) (by kernel_rfl) (fun _ _ _ h => h) (Or.inl ⟨by rfl, ?_⟩) hHeld ?_
                  rotate_left
                  · (intro w hSw; obtain ⟨⟨d0, d1⟩, ⟨a0_, a1_⟩, ⟨f0, f1⟩, ⟨u0, u1⟩, ⟨o0, o1⟩⟩ := HQ.out _ (hSw); go_simp <;> with_reducible rfl)
                  try simp only [Act.put, List.setIfInBounds_toArray, List.set_cons_zero, List.set_cons_succ]
                  refine wpAnyH_ready (rs := [23]) (by kernel_rfl) (by simp) ?_
                  refine AllReadyH.cons (o := { dst := some 92, op := _, type := _, pos := _, after := _, guard := _ }) rfl (fun K hK => ?_) AllReadyH.nil
                  go_simp
                  refine (HGB.out _ _ _ (HDD.out _ hHeld).f).mono ?_
                  rintro e x4 ⟨rfl, hk1⟩
                  have hKeep := since_step hHeld hk1
                  clear hk1
                  go_wp2_with fail
                  refine hK.out _ _ (by (try dsimp only); exact hKeep) (fun hHeld => ?_)
                  clear hK K hKeep
                  try simp only [Act.put, List.setIfInBounds_toArray, List.set_cons_zero, List.set_cons_succ]
                  refine wpAnyH_ready (rs := [27]) (by kernel_rfl) (by simp) ?_
                  refine AllReadyH.cons (o := { dst := some 96, op := _, type := _, pos := _, after := _, guard := _ }) rfl (fun K hK => ?_) AllReadyH.nil
                  go_simp
                  refine (HGC.out _ (HYC.out _ hHeld)).mono ?_
                  rintro e x5 ⟨rfl, hk1⟩
                  have hKeep := since_step hHeld hk1
                  clear hk1
                  go_wp2_with fail
                  refine hK.out _ _ (by (try dsimp only); exact hKeep) (fun hHeld => ?_)
                  clear hK K hKeep
                  try simp only [Act.put, List.setIfInBounds_toArray, List.set_cons_zero, List.set_cons_succ]
                  refine wpAnyH_take (i := 28) (oi := { dst := some 97, op := _, type := _, pos := _, after := _, guard := _ }) (v := ?_) rfl (by kernel_rfl) (by kernel_rfl) (by kernel_rfl) (fun _ _ _ h => h) (Or.inl ⟨by rfl, ?_⟩) hHeld ?_
                  rotate_left
                  · (intro w hSw; clear hSw; go_simp <;> with_reducible rfl)
                  try simp only [Act.put, List.setIfInBounds_toArray, List.set_cons_zero, List.set_cons_succ]
                  refine wpAnyH_take (i := 29) (oi := { dst := some 98, op := _, type := _, pos := _, after := _, guard := _ }) (v := ?_) rfl (by kernel_rfl) (by kernel_rfl) (by kernel_rfl) (fun _ _ _ h => h) (Or.inl ⟨by rfl, ?_⟩) hHeld ?_
                  rotate_left
                  · (intro w hSw; clear hSw; go_simp <;> with_reducible rfl)
                  try simp only [Act.put, List.setIfInBounds_toArray, List.set_cons_zero, List.set_cons_succ]
                  refine wpAnyH_take (i := 30) (oi := { dst := some 99, op := _, type := _, pos := _, after := _, guard := _ }) (v := ?_) rfl (by kernel_rfl) (by kernel_rfl) (by kernel_rfl) (fun _ _ _ h => h) (Or.inl ⟨by rfl, ?_⟩) hHeld ?_
                  rotate_left
                  · (intro w hSw; clear hSw; go_simp <;> with_reducible rfl)
                  try simp only [Act.put, List.setIfInBounds_toArray, List.set_cons_zero, List.set_cons_succ]
                  refine wpAnyH_done (by kernel_rfl) ?_ _
                  go_wp2_with fail
                  go_meet
                  case rel => exact ⟨rfl, hHeld⟩
          · have hf1 := Lib.hid f1
            clear f1
            by_cases t1 : oa = ta
            · by_cases t2 : oc = tc
              · have ht1 := Lib.hid t1
                have ht2 := Lib.hid t2
                clear t1 t2
                focus
                  clear HOT
                  have bf1 : (oa != fa) = true := by simpa using hf1.out
                  have cf1 : (oa == fa) = false := by simpa using hf1.out
                  clear hf1
                  have bt1 : (oa != ta) = false := by rw [ht1.out]; simp
                  have bt2 : (oc != tc) = false := by rw [ht2.out]; simp
                  have ct1 : (oa == ta) = true := by rw [ht1.out]; simp
                  have ct2 : (oc == tc) = true := by rw [ht2.out]; simp
                  clear ht1 ht2
                  go_wp2_with fail
                  refine wp_region_held_drew (S := (fun V => Below Y7.heap.size Y7 V)) (by kernel_rfl) (by exact (Below.refl _ _).drew) (fun hHeld => ?_)
                  refine wpAnyH_take (i := 0) (oi := { dst := some 69, op := _, type := _, pos := _, after := _, guard := _ }) (v := ?_) rfl (by kernel_rfl) (by kernel_rfl) (by kernel_rfl) (fun _ _ _ h => h) (Or.inl ⟨by rfl, ?_⟩) hHeld ?_
                  rotate_left
                  · (intro w hSw; obtain ⟨⟨d0, d1⟩, ⟨a0_, a1_⟩, ⟨f0, f1⟩, ⟨u0, u1⟩, ⟨o0, o1⟩⟩ := HQ.out _ (hSw); go_simp <;> with_reducible rfl)
                  try simp only [Act.put, List.setIfInBounds_toArray, List.set_cons_zero, List.set_cons_succ]
                  refine wpAnyH_take (i := 1) (oi := { dst := some 70, op := _, type := _, pos := _, after := _, guard := _ }) (v := ?_) rfl (by kernel_rfl) (by kernel_rfl) (by kernel_rfl) (fun _ _ _ h => h) (Or.inl ⟨by rfl, ?_⟩) hHeld ?_
                  rotate_left
                  · (intro w hSw; obtain ⟨⟨d0, d1⟩, ⟨a0_, a1_⟩, ⟨f0, f1⟩, ⟨u0, u1⟩, ⟨o0, o1⟩⟩ := HQ.out _ (hSw); go_simp <;> with_reducible rfl)
                  try simp only [Act.put, List.setIfInBounds_toArray, List.set_cons_zero, List.set_cons_succ]
                  refine wpAnyH_take (i := 2) (oi := { dst := some 71, op := _, type := _, pos := _, after := _, guard := _ }) (v := ?_) rfl (by kernel_rfl) (by kernel_rfl) (by kernel_rfl) (fun _ _ _ h => h) (Or.inl ⟨by rfl, ?_⟩) hHeld ?_
                  rotate_left
                  · (intro w hSw; clear hSw; go_simp <;> with_reducible rfl)
                  try simp only [Act.put, List.setIfInBounds_toArray, List.set_cons_zero, List.set_cons_succ]
                  refine wpAnyH_take (i := 3) (oi := { dst := some 72, op := _, type := _, pos := _, after := _, guard := _ }) (v := ?_) rfl (by kernel_rfl) (by kernel_rfl) (by kernel_rfl) (fun _ _ _ h => h) (Or.inl ⟨by rfl, ?_⟩) hHeld ?_
                  rotate_left
                  · (intro w hSw; clear hSw; go_simp <;> with_reducible rfl)
                  try simp only [Act.put, List.setIfInBounds_toArray, List.set_cons_zero, List.set_cons_succ]
                  refine wpAnyH_take (i := 4) (oi := { dst := some 73, op := _, type := _, pos := _, after := _, guard := _ }) (v := ?_) rfl (by kernel_rfl) (by kernel_rfl) (by kernel_rfl) (fun _ _ _ h => h) (Or.inl ⟨by rfl, ?_⟩) hHeld ?_
                  rotate_left
                  · (intro w hSw; obtain ⟨⟨d0, d1⟩, ⟨a0_, a1_⟩, ⟨f0, f1⟩, ⟨u0, u1⟩, ⟨o0, o1⟩⟩ := HQ.out _ (hSw); go_simp <;> with_reducible rfl)
                  try simp only [Act.put, List.setIfInBounds_toArray, List.set_cons_zero, List.set_cons_succ]
                  refine wpAnyH_take (i := 5) (oi := { dst := some 74, op := _, type := _, pos := _, after := _, guard := _ }) (v := ?_) rfl (by kernel_rfl) (by kernel_rfl) (by kernel_rfl) (fun _ _ _ h => h) (Or.inl ⟨by rfl, ?_⟩) hHeld ?_
                  rotate_left
                  · (intro w hSw; obtain ⟨⟨d0, d1⟩, ⟨a0_, a1_⟩, ⟨f0, f1⟩, ⟨u0, u1⟩, ⟨o0, o1⟩⟩ := HQ.out _ (hSw); go_simp <;> with_reducible rfl)
                  try simp only [Act.put, List.setIfInBounds_toArray, List.set_cons_zero, List.set_cons_succ]
                  refine wpAnyH_take (i := 6) (oi := { dst := some 75, op := _, type := _, pos := _, after := _, guard := _ }) (v := ?_) rfl (by kernel_rfl) (by kernel_rfl) (by kernel_rfl) (fun _ _ _ h => h) (Or.inl ⟨by rfl, ?_⟩) hHeld ?_
                  rotate_left
                  · (intro w hSw; clear hSw; go_simp <;> with_reducible rfl)
                  try simp only [Act.put, List.setIfInBounds_toArray, List.set_cons_zero, List.set_cons_succ]
                  refine wpAnyH_take (i := 7) (oi := { dst := some 76, op := _, type := _, pos := _, after := _, guard := _ }) (v := ?_) rfl (by kernel_rfl) (by kernel_rfl) (by kernel_rfl) (fun _ _ _ h => h) (Or.inl ⟨by rfl, ?_⟩) hHeld ?_
                  rotate_left
                  · (intro w hSw; clear hSw; go_simp <;> with_reducible rfl)
                  try simp only [Act.put, List.setIfInBounds_toArray, List.set_cons_zero, List.set_cons_succ]
                  refine wpAnyH_take (i := 8) (oi := { dst := some 77, op := _, type := _, pos := _, after := _, guard := _ }) (v := ?_) rfl (by kernel_rfl) (by kernel_rfl) (by kernel_rfl) (fun _ _ _ h => h) (Or.inl ⟨by rfl, ?_⟩) hHeld ?_
                  rotate_left
                  · (intro w hSw; clear hSw; go_simp <;> with_reducible rfl)
                  try simp only [Act.put, List.setIfInBounds_toArray, List.set_cons_zero, List.set_cons_succ]
                  refine wpAnyH_take (i := 9) (oi := { dst := some 78, op := _, type := _, pos := _, after := _, guard := _ }) (v := undef) rfl (by kernel_rfl) (by kernel_rfl) (by kernel_rfl) (fun _ _ _ h => h) (Or.inr ⟨by rfl, rfl⟩) hHeld ?_
                  try simp only [Act.put, List.setIfInBounds_toArray, List.set_cons_zero, List.set_cons_succ]
                  refine wpAnyH_take (i := 10) (oi := { dst := some 79, op := _, type := _, pos := _, after := _, guard := _ }) (v := undef) rfl (by kernel_rfl) (by kernel_rfl) (by kernel_rfl) (fun _ _ _ h => h) (Or.inr ⟨by rfl, rfl⟩) hHeld ?_
                  try simp only [Act.put, List.setIfInBounds_toArray, List.set_cons_zero, List.set_cons_succ]
                  refine wpAnyH_take (i := 11) (oi := { dst := some 80, op := _, type := _, pos := _, after := _, guard := _ }) (v := undef) rfl (by kernel_rfl) (by kernel_rfl) (by kernel_rfl) (fun _ _ _ h => h) (Or.inr ⟨by rfl, rfl⟩) hHeld ?_
                  try simp only [Act.put, List.setIfInBounds_toArray, List.set_cons_zero, List.set_cons_succ]
                  refine wpAnyH_take (i := 12) (oi := { dst := some 81, op := _, type := _, pos := _, after := _, guard := _ }) (v := undef) rfl (by kernel_rfl) (by kernel_rfl) (by kernel_rfl) (fun _ _ _ h => h) (Or.inr ⟨by rfl, rfl⟩) hHeld ?_
                  try simp only [Act.put, List.setIfInBounds_toArray, List.set_cons_zero, List.set_cons_succ]
                  refine wpAnyH_take (i := 13) (oi := { dst := some 82, op := _, type := _, pos := _, after := _, guard := _ }) (v := undef) rfl (by kernel_rfl) (by kernel_rfl) (by kernel_rfl) (fun _ _ _ h => h) (Or.inr ⟨by rfl, rfl⟩) hHeld ?_
                  try simp only [Act.put, List.setIfInBounds_toArray, List.set_cons_zero, List.set_cons_succ]
                  refine wpAnyH_take (i := 14) (oi := { dst := some 83, op := _, type := _, pos := _, after := _, guard := _ }) (v := undef) rfl (by kernel_rfl) (by kernel_rfl) (by kernel_rfl) (fun _ _ _ h => h) (Or.inr ⟨by rfl, rfl⟩) hHeld ?_
                  try simp only [Act.put, List.setIfInBounds_toArray, List.set_cons_zero, List.set_cons_succ]
                  refine wpAnyH_take (i := 15) (oi := { dst := some 84, op := _, type := _, pos := _, after := _, guard := _ }) (v := undef) rfl (by kernel_rfl) (by kernel_rfl) (by kernel_rfl) (fun _ _ _ h => h) (Or.inr ⟨by rfl, rfl⟩) hHeld ?_
                  try simp only [Act.put, List.setIfInBounds_toArray, List.set_cons_zero, List.set_cons_succ]
                  refine wpAnyH_take (i := 16) (oi := { dst := some 85, op := _, type := _, pos := _, after := _, guard := _ }) (v := undef) rfl (by kernel_rfl) (by kernel_rfl) (by kernel_rfl) (fun _ _ _ h => h) (Or.inr ⟨by rfl, rfl⟩) hHeld ?_
                  try simp only [Act.put, List.setIfInBounds_toArray, List.set_cons_zero, List.set_cons_succ]
                  refine wpAnyH_take (i := 17) (oi := { dst := some 86, op := _, type := _, pos := _, after := _, guard := _ }) (v := undef) rfl (by kernel_rfl) (by kernel_rfl) (by kernel_rfl) (fun _ _ _ h => h) (Or.inr ⟨by rfl, rfl⟩) hHeld ?_
                  try simp only [Act.put, List.setIfInBounds_toArray, List.set_cons_zero, List.set_cons_succ]
                  refine wpAnyH_take (i := 18) (oi := { dst := some 87, op := _, type := _, pos := _, after := _, guard := _ }) (v := undef) rfl (by kernel_rfl) (by kernel_rfl) (by kernel_rfl) (fun _ _ _ h => h) (Or.inr ⟨by rfl, rfl⟩) hHeld ?_
                  try simp only [Act.put, List.setIfInBounds_toArray, List.set_cons_zero, List.set_cons_succ]
                  refine wpAnyH_take (i := 19) (oi := { dst := some 88, op := _, type := _, pos := _, after := _, guard := _ }) (v := undef) rfl (by kernel_rfl) (by kernel_rfl) (by kernel_rfl) (fun _ _ _ h => h) (Or.inr ⟨by rfl, rfl⟩) hHeld ?_
                  try simp only [Act.put, List.setIfInBounds_toArray, List.set_cons_zero, List.set_cons_succ]
                  refine wpAnyH_take (i := 20) (oi := { dst := some 89, op := _, type := _, pos := _, after := _, guard := _ }) (v := undef) rfl (by kernel_rfl) (by kernel_rfl) (by kernel_rfl) (fun _ _ _ h => h) (Or.inr ⟨by rfl, rfl⟩) hHeld ?_
                  try simp only [Act.put, List.setIfInBounds_toArray, List.set_cons_zero, List.set_cons_succ]
                  refine wpAnyH_take (i := 21) (oi := { dst := some 90, op := _, type := _, pos := _, after := _, guard := _ }) (v := undef) rfl (by kernel_rfl) (by kernel_rfl) (by kernel_rfl) (fun _ _ _ h => h) (Or.inr ⟨by rfl, rfl⟩) hHeld ?_
                  try simp only [Act.put, List.setIfInBounds_toArray, List.set_cons_zero, List.set_cons_succ]
                  refine wpAnyH_take (i := 22) (oi := { dst := some 91, op := _, type := _, pos := _, after := _, guard := _ }) (v := undef) rfl (by kernel_rfl) (by kernel_rfl) (by kernel_rfl) (fun _ _ _ h => h) (Or.inr ⟨by rfl, rfl⟩) hHeld ?_
                  try simp only [Act.put, List.setIfInBounds_toArray, List.set_cons_zero, List.set_cons_succ]
                  refine wpAnyH_take (i := 23) (oi := { dst := some 92, op := _, type := _, pos := _, after := _, guard := _ }) (v := undef) rfl (by kernel_rfl) (by kernel_rfl) (by kernel_rfl) (fun _ _ _ h => h) (Or.inr ⟨by rfl, rfl⟩) hHeld ?_
                  try simp only [Act.put, List.setIfInBounds_toArray, List.set_cons_zero, List.set_cons_succ]
                  refine wpAnyH_take (i := 24) (oi := { dst := some 93, op := _, type := _, pos := _, after := _, guard := _ }) (v := undef) rfl (by kernel_rfl) (by kernel_rfl) (by kernel_rfl) (fun _ _ _ h => h) (Or.inr ⟨by rfl, rfl⟩) hHeld ?_
                  try simp only [Act.put, List.setIfInBounds_toArray, List.set_cons_zero, List.set_cons_succ]
                  refine wpAnyH_take (i := 25) (oi := { dst := some 94, op := _, type := _, pos := _, after := _, guard := _ }) (v := undef) rfl (by kernel_rfl) (by kernel_rfl) (by kernel_rfl) (fun _ _ _ h => h) (Or.inr ⟨by rfl, rfl⟩) hHeld ?_
                  try simp only [Act.put, List.setIfInBounds_toArray, List.set_cons_zero, List.set_cons_succ]
                  refine wpAnyH_take (i := 26) (oi := { dst := some 95, op := _, type := _, pos := _, after := _, guard := _ }) (v := undef) rfl (by kernel_rfl) (by kernel_rfl) (by kernel_rfl) (fun _ _ _ h => h) (Or.inr ⟨by rfl, rfl⟩) hHeld ?_
                  try simp only [Act.put, List.setIfInBounds_toArray, List.set_cons_zero, List.set_cons_succ]
                  refine wpAnyH_take (i := 27) (oi := { dst := some 96, op := _, type := _, pos := _, after := _, guard := _ }) (v := undef) rfl (by kernel_rfl) (by kernel_rfl) (by kernel_rfl) (fun _ _ _ h => h) (Or.inr ⟨by rfl, rfl⟩) hHeld ?_
                  try simp only [Act.put, List.setIfInBounds_toArray, List.set_cons_zero, List.set_cons_succ]
                  refine wpAnyH_take (i := 28) (oi := { dst := some 97, op := _, type := _, pos := _, after := _, guard := _ }) (v := undef) rfl (by kernel_rfl) (by kernel_rfl) (by kernel_rfl) (fun _ _ _ h => h) (Or.inr ⟨by rfl, rfl⟩) hHeld ?_
                  try simp only [Act.put, List.setIfInBounds_toArray, List.set_cons_zero, List.set_cons_succ]
                  refine wpAnyH_take (i := 29) (oi := { dst := some 98, op := _, type := _, pos := _, after := _, guard := _ }) (v := undef) rfl (by kernel_rfl) (by kernel_rfl) (by kernel_rfl) (fun _ _ _ h => h) (Or.inr ⟨by rfl, rfl⟩) hHeld ?_
                  try simp only [Act.put, List.setIfInBounds_toArray, List.set_cons_zero, List.set_cons_succ]
                  refine wpAnyH_take (i := 30) (oi := { dst := some 99, op := _, type := _, pos := _, after := _, guard := _ }) (v := ?_) rfl (by kernel_rfl) (by kernel_rfl) (by kernel_rfl) (fun _ _ _ h => h) (Or.inl ⟨by rfl, ?_⟩) hHeld ?_
                  rotate_left
                  · (intro w hSw; clear hSw; go_simp <;> with_reducible rfl)
                  try simp only [Act.put, List.setIfInBounds_toArray, List.set_cons_zero, List.set_cons_succ]
                  refine wpAnyH_done (by kernel_rfl) ?_ _
                  go_wp2_with fail
                  go_meet
                  case rel => exact ⟨rfl, hHeld⟩
              · have ht1 := Lib.hid t1
                have ht2 := Lib.hid t2
                clear t1 t2
                focus
                  obtain ⟨hl, hg_⟩ := HOT.out (fun h => hf1.out h.1) (fun h => ht2.out h.2)
                  rw [hl] at HLB
                  have HGB := Lib.hid (fun A1 k1 V h => HGB.out A1 k1 oa oc V h)
                  rw [hg_] at HGB
                  clear hl hg_
                  have HGC := Lib.hid (fun V h => HGC.out oa oc V h)
                  generalize lotsH cs oa oc = L1 at *
                  generalize getF p oa oc = gv at *
                  have gg1 : (gv != gv) = false := by simp
                  have gg2 : (gv == gv) = true := by simp
                  clear HOT
                  have bf1 : (oa != fa) = true := by simpa using hf1.out
                  have cf1 : (oa == fa) = false := by simpa using hf1.out
                  clear hf1
                  have bt1 : (oa != ta) = false := by rw [ht1.out]; simp
                  have bt2 : (oc != tc) = true := by simpa using ht2.out
                  have ct1 : (oa == ta) = true := by rw [ht1.out]; simp
                  have ct2 : (oc == tc) = false := by simpa using ht2.out
                  clear ht1 ht2
                  go_wp2_with fail
                  refine wp_region_held_drew (S := (fun V => Below Y7.heap.size Y7 V)) (by kernel_rfl) (by exact (Below.refl _ _).drew) (fun hHeld => ?_)
                  refine wpAnyH_take (i := 0) (oi := { dst := some 69, op := _, type := _, pos := _, after := _, guard := _ }) (v := ?_) rfl (by kernel_rfl) (by kernel_rfl) (by kernel_rfl) (fun _ _ _ h => h) (Or.inl ⟨by rfl, ?_⟩) hHeld ?_
                  rotate_left
                  · (intro w hSw; obtain ⟨⟨d0, d1⟩, ⟨a0_, a1_⟩, ⟨f0, f1⟩, ⟨u0, u1⟩, ⟨o0, o1⟩⟩ := HQ.out _ (hSw); go_simp <;> with_reducible rfl)
                  try simp only [Act.put, List.setIfInBounds_toArray, List.set_cons_zero, List.set_cons_succ]
                  refine wpAnyH_take (i := 1) (oi := { dst := some 70, op := _, type := _, pos := _, after := _, guard := _ }) (v := ?_) rfl (by kernel_rfl) (by kernel_rfl) (by kernel_rfl) (fun _ _ _ h => h) (Or.inl ⟨by rfl, ?_⟩) hHeld ?_
                  rotate_left
                  · (intro w hSw; obtain ⟨⟨d0, d1⟩, ⟨a0_, a1_⟩, ⟨f0, f1⟩, ⟨u0, u1⟩, ⟨o0, o1⟩⟩ := HQ.out _ (hSw); go_simp <;> with_reducible rfl)
                  try simp only [Act.put, List.setIfInBounds_toArray, List.set_cons_zero, List.set_cons_succ]
                  refine wpAnyH_take (i := 2) (oi := { dst := some 71, op := _, type := _, pos := _, after := _, guard := _ }) (v := ?_) rfl (by kernel_rfl) (by kernel_rfl) (by kernel_rfl) (fun _ _ _ h => h) (Or.inl ⟨by rfl, ?_⟩) hHeld ?_
                  rotate_left
                  · (intro w hSw; clear hSw; go_simp <;> with_reducible rfl)
                  try simp only [Act.put, List.setIfInBounds_toArray, List.set_cons_zero, List.set_cons_succ]
                  refine wpAnyH_take (i := 3) (oi := { dst := some 72, op := _, type := _, pos := _, after := _, guard := _ }) (v := ?_) rfl (by kernel_rfl) (by kernel_rfl) (by kernel_rfl) (fun _ _ _ h => h) (Or.inl ⟨by rfl, ?_⟩) hHeld ?_
                  rotate_left
                  · (intro w hSw; clear hSw; go_simp <;> with_reducible rfl)
                  try simp only [Act.put, List.setIfInBounds_toArray, List.set_cons_zero, List.set_cons_succ]
                  refine wpAnyH_take (i := 4) (oi := { dst := some 73, op := _, type := _, pos := _, after := _, guard := _ }) (v := ?_) rfl (by kernel_rfl) (by kernel_rfl) (by kernel_rfl) (fun _ _ _ h => h) (Or.inl ⟨by rfl, ?_⟩) hHeld ?_
                  rotate_left
                  · (intro w hSw; obtain ⟨⟨d0, d1⟩, ⟨a0_, a1_⟩, ⟨f0, f1⟩, ⟨u0, u1⟩, ⟨o0, o1⟩⟩ := HQ.out _ (hSw); go_simp <;> with_reducible rfl)
                  try simp only [Act.put, List.setIfInBounds_toArray, List.set_cons_zero, List.set_cons_succ]
                  refine wpAnyH_take (i := 5) (oi := { dst := some 74, op := _, type := _, pos := _, after := _, guard := _ }) (v := ?_) rfl (by kernel_rfl) (by kernel_rfl) (by kernel_rfl) (fun _ _ _ h => h) (Or.inl ⟨by rfl, ?_⟩) hHeld ?_
                  rotate_left
                  · (intro w hSw; obtain ⟨⟨d0, d1⟩, ⟨a0_, a1_⟩, ⟨f0, f1⟩, ⟨u0, u1⟩, ⟨o0, o1⟩⟩ := HQ.out _ (hSw); go_simp <;> with_reducible rfl)
                  try simp only [Act.put, List.setIfInBounds_toArray, List.set_cons_zero, List.set_cons_succ]
                  refine wpAnyH_take (i := 6) (oi := { dst := some 75, op := _, type := _, pos := _, after := _, guard := _ }) (v := ?_) rfl (by kernel_rfl) (by kernel_rfl) (by kernel_rfl) (fun _ _ _ h => h) (Or.inl ⟨by rfl, ?_⟩) hHeld ?_
                  rotate_left
                  · (intro w hSw; clear hSw; go_simp <;> with_reducible rfl)
                  try simp only [Act.put, List.setIfInBounds_toArray, List.set_cons_zero, List.set_cons_succ]
                  refine wpAnyH_take (i := 7) (oi := { dst := some 76, op := _, type := _, pos := _, after := _, guard := _ }) (v := ?_) rfl (by kernel_rfl) (by kernel_rfl) (by kernel_rfl) (fun _ _ _ h => h) (Or.inl ⟨by rfl, ?_⟩) hHeld ?_
                  rotate_left
                  · (intro w hSw; clear hSw; go_simp <;> with_reducible rfl)
                  try simp only [Act.put, List.setIfInBounds_toArray, List.set_cons_zero, List.set_cons_succ]
                  refine wpAnyH_take (i := 8) (oi := { dst := some 77, op := _, type := _, pos := _, after := _, guard := _ }) (v := ?_) rfl (by kernel_rfl) (by kernel_rfl) (by kernel_rfl) (fun _ _ _ h => h) (Or.inl ⟨by rfl, ?_⟩) hHeld ?_
                  rotate_left
                  · (intro w hSw; clear hSw; go_simp <;> with_reducible rfl)
                  try simp only [Act.put, List.setIfInBounds_toArray, List.set_cons_zero, List.set_cons_succ]
                  refine wpAnyH_take (i := 9) (oi := { dst := some 78, op := _, type := _, pos := _, after := _, guard := _ }) (v := ?_) rfl (by kernel_rfl) (by kernel_rfl) (by kernel_rfl) (fun _ _ _ h => h) (Or.inl ⟨by rfl, ?_⟩) hHeld ?_
                  rotate_left
                  · (intro w hSw; clear hSw; go_simp <;> with_reducible rfl)
                  try simp only [Act.put, List.setIfInBounds_toArray, List.set_cons_zero, List.set_cons_succ]
                  refine wpAnyH_take (i := 10) (oi := { dst := some 79, op := _, type := _, pos := _, after := _, guard := _ }) (v := ?_) rfl (by kernel_rfl) (by kernel_rfl) (by kernel_rfl) (fun _ _ _ h => h) (Or.inl ⟨by rfl, ?_⟩) hHeld ?_
                  rotate_left
                  · (intro w hSw; obtain ⟨⟨d0, d1⟩, ⟨a0_, a1_⟩, ⟨f0, f1⟩, ⟨u0, u1⟩, ⟨o0, o1⟩⟩ := HQ.out _ (hSw); go_simp <;> with_reducible rfl)
                  try simp only [Act.put, List.setIfInBounds_toArray, List.set_cons_zero, List.set_cons_succ]
                  refine wpAnyH_take (i := 11) (oi := { dst := some 80, op := _, type := _, pos := _, after := _, guard := _ }) (v := ?_) rfl (by kernel_rfl) (by kernel_rfl) (by kernel_rfl) (fun _ _ _ h => h) (Or.inl ⟨by rfl, ?_⟩) hHeld ?_
                  rotate_left
                  · (intro w hSw; obtain ⟨⟨d0, d1⟩, ⟨a0_, a1_⟩, ⟨f0, f1⟩, ⟨u0, u1⟩, ⟨o0, o1⟩⟩ := HQ.out _ (hSw); go_simp <;> with_reducible rfl)
                  try simp only [Act.put, List.setIfInBounds_toArray, List.set_cons_zero, List.set_cons_succ]
                  refine wpAnyH_take (i := 13) (oi := { dst := some 82, op := _, type := _, pos := _, after := _, guard := _ }) (v := ?_) rfl (by kernel_rfl) (by kernel_rfl) (by kernel_rfl) (fun _ _ _ h => h) (Or.inl ⟨by rfl, ?_⟩) hHeld ?_
                  rotate_left
                  · (intro w hSw; clear hSw; go_simp <;> with_reducible rfl)
                  try simp only [Act.put, List.setIfInBounds_toArray, List.set_cons_zero, List.set_cons_succ]
                  refine wpAnyH_take (i := 14) (oi := { dst := some 83, op := _, type := _, pos := _, after := _, guard := _ }) (v := ?_) rfl (by kernel_rfl) (by kernel_rfl) (by kernel_rfl) (fun _ _ _ h => h) (Or.inl ⟨by rfl, ?_⟩) hHeld ?_
                  rotate_left
                  · (intro w hSw; obtain ⟨⟨d0, d1⟩, ⟨a0_, a1_⟩, ⟨f0, f1⟩, ⟨u0, u1⟩, ⟨o0, o1⟩⟩ := HQ.out _ (hSw); go_simp <;> with_reducible rfl)
                  try simp only [Act.put, List.setIfInBounds_toArray, List.set_cons_zero, List.set_cons_succ]
                  refine wpAnyH_take (i := 15) (oi := { dst := some 84, op := _, type := _, pos := _, after := _, guard := _ }) (v := ?_) rfl (by kernel_rfl) (by kernel_rfl) (by kernel_rfl) (fun _ _ _ h => h) (Or.inl ⟨by rfl, ?_⟩) hHeld ?_
                  rotate_left
                  · (intro w hSw; obtain ⟨⟨d0, d1⟩, ⟨a0_, a1_⟩, ⟨f0, f1⟩, ⟨u0, u1⟩, ⟨o0, o1⟩⟩ := HQ.out _ (hSw); go_simp <;> with_reducible rfl)
                  try simp only [Act.put, List.setIfInBounds_toArray, List.set_cons_zero, List.set_cons_succ]
                  refine wpAnyH_ready (rs := [12]) (by kernel_rfl) (by simp) ?_
                  refine AllReadyH.cons (o := { dst := some 81, op := _, type := _, pos := _, after := _, guard := _ }) rfl (fun K hK => ?_) AllReadyH.nil
                  go_simp
                  refine (HLB.out _ _ _ _ HM15.out (HDD.out _ hHeld).s (HDD.out _ hHeld).t).mono ?_
                  rintro e x1 ⟨⟨A9, c9, rfl, o9⟩, hk1⟩
                  have hKeep := since_step hHeld hk1
                  have s9 := Sl.of_own o9
                  clear o9
                  clear hk1
                  go_wp2_with fail
                  refine hK.out _ _ (by (try dsimp only); exact hKeep) (fun hHeld => ?_)
                  clear hK K hKeep
                  try simp only [Act.put, List.setIfInBounds_toArray, List.set_cons_zero, List.set_cons_succ]
                  refine wpAnyH_ready (rs := [16]) (by kernel_rfl) (by simp) ?_
                  refine AllReadyH.cons (o := { dst := some 85, op := _, type := _, pos := _, after := _, guard := _ }) rfl (fun K hK => ?_) AllReadyH.nil
                  go_simp
                  refine (HLC.out _ (HYC.out _ hHeld)).mono ?_
                  rintro e x2 ⟨⟨A10, c10, rfl, o10⟩, hk1⟩
                  have hKeep := since_step hHeld hk1
                  have s9 := s9.below hk1
                  have s10 := Sl.of_own o10
                  clear o10
                  clear hk1
                  go_wp2_with fail
                  refine hK.out _ _ (by (try dsimp only); exact hKeep) (fun hHeld => ?_)
                  clear hK K hKeep
                  try simp only [Act.put, List.setIfInBounds_toArray, List.set_cons_zero, List.set_cons_succ]
                  refine wpAnyH_ready (rs := [17]) (by kernel_rfl) (by simp) ?_
                  refine AllReadyH.cons (o := { dst := some 86, op := _, type := _, pos := _, after := _, guard := _ }) rfl (fun K hK => ?_) AllReadyH.nil
                  go_simp
                  refine (HVS.out _ _ _ _ _ s9 s10).mono ?_
                  rintro e x3 ⟨rfl, hk1⟩
                  have hKeep := since_step hHeld hk1
                  clear s9 s10
                  clear hk1
                  go_wp2_with fail
                  refine hK.out _ _ (by (try dsimp only); exact hKeep) (fun hHeld => ?_)
                  clear hK K hKeep
                  try simp only [Act.put, List.setIfInBounds_toArray, List.set_cons_zero, List.set_cons_succ]
                  refine wpAnyH_take (i := 18) (oi := { dst := some 87, op := _, type := _, pos := _, after := _, guard := _ }) (v := ?_) rfl (by kernel_rfl) (by kernel_rfl) (by kernel_rfl) (fun _ _ _ h => h) (Or.inl ⟨by rfl, ?_⟩) hHeld ?_
                  rotate_left
                  · (intro w hSw; clear hSw; go_simp <;> with_reducible rfl)
                  try simp only [Act.put, List.setIfInBounds_toArray, List.set_cons_zero, List.set_cons_succ]
                  refine wpAnyH_take (i := 19) (oi := { dst := some 88, op := _, type := _, pos := _, after := _, guard := _ }) (v := ?_) rfl (by kernel_rfl) (by kernel_rfl) (by kernel_rfl) (fun _ _ _ h => h) (Or.inl ⟨by rfl, ?_⟩) hHeld ?_
                  rotate_left
                  · (intro w hSw; clear hSw; go_simp <;> with_reducible rfl)
                  try simp only [Act.put, List.setIfInBounds_toArray, List.set_cons_zero, List.set_cons_succ]
                  refine wpAnyH_take (i := 20) (oi := { dst := some 89, op := _, type := _, pos := _, after := _, guard := _ }) (v := ?_) rfl (by kernel_rfl) (by kernel_rfl) (by kernel_rfl) (fun _ _ _ h => h) (Or.inl ⟨by rfl, ?_⟩) hHeld ?_
                  rotate_left
                  · (intro w hSw; clear hSw; go_simp <;> with_reducible rfl)
                  try simp only [Act.put, List.setIfInBounds_toArray, List.set_cons_zero, List.set_cons_succ]
                  refine wpAnyH_take (i := 21) (oi := { dst := some 90, op := _, type := _, pos := _, after := _, guard := _ }) (v := ?_) rfl (by kernel_rfl) (by kernel_rfl) (by kernel_rfl) (fun _ _ _ h => h) (Or.inl ⟨by rfl, ?_⟩) hHeld ?_
                  rotate_left
                  · (intro w hSw; obtain ⟨⟨d0, d1⟩, ⟨a0_, a1_⟩, ⟨f0, f1⟩, ⟨u0, u1⟩, ⟨o0, o1⟩⟩ := HQ.out _ (hSw); go_simp <;> with_reducible rfl)
                  try simp only [Act.put, List.setIfInBounds_toArray, List.set_cons_zero, List.set_cons_succ]
                  refine wpAnyH_take (i := 22) (oi := { dst := some 91, op := _, type := _, pos := _, after := _, guard := _ }) (v := ?_) rfl (by kernel_rfl) (by kernel_rfl) (by kernel_rfl) (fun _ _ _ h => h) (Or.inl ⟨by rfl, ?_⟩) hHeld ?_
                  rotate_left
                  · (intro w hSw; obtain ⟨⟨d0, d1⟩, ⟨a0_, a1_⟩, ⟨f0, f1⟩, ⟨u0, u1⟩, ⟨o0, o1⟩⟩ := HQ.out _ (hSw); go_simp <;> with_reducible rfl)
                  try simp only [Act.put, List.setIfInBounds_toArray, List.set_cons_zero, List.set_cons_succ]
                  refine wpAnyH_take (i := 24) (oi := { dst := some 93, op := _, type := _, pos := _, after := _, guard := _ }) (v := ?_) rfl (by kernel_rfl) (by kernel_rfl) (by kernel_rfl) (fun _ _ _ h => h) (Or.inl ⟨by rfl, ?_⟩) hHeld ?_
                  rotate_left
                  · (intro w hSw; clear hSw; go_simp <;> with_reducible rfl)
                  try simp only [Act.put, List.setIfInBounds_toArray, List.set_cons_zero, List.set_cons_succ]
                  refine wpAnyH_take (i := 25) (oi := { dst := some 94, op := _, type := _, pos := _, after := _, guard := _ }) (v := ?_) rfl (by kernel_rfl) (by kernel_rfl) (by kernel_rfl) (fun _ _ _ h => h) (Or.inl ⟨by rfl, ?_⟩) hHeld ?_
                  rotate_left
                  · (intro w hSw; obtain ⟨⟨d0, d1⟩, ⟨a0_, a1_⟩, ⟨f0, f1⟩, ⟨u0, u1⟩, ⟨o0, o1⟩⟩ := HQ.out _ (hSw); go_simp <;> with_reducible rfl)
                  try simp only [Act.put, List.setIfInBounds_toArray, List.set_cons_zero, List.set_cons_succ]
                  refine wpAnyH_take (i := 26) (oi := { dst := some 95, op := _, type := _, pos := _, after := _, guard := _ }) (v := ?_) rfl (by kernel_rfl) (by kernel_rfl) (by kernel_rfl) (fun _ _ _ h => h) (Or.inl ⟨by rfl, ?_⟩) hHeld ?_
                  rotate_left
                  · (intro w hSw; obtain ⟨⟨d0, d1⟩, ⟨a0_, a1_⟩, ⟨f0, f1⟩, ⟨u0, u1⟩, ⟨o0, o1⟩⟩ := HQ.out _ (hSw); go_simp <;> with_reducible rfl)
                  try simp only [Act.put, List.setIfInBounds_toArray, List.set_cons_zero, List.set_cons_succ]
                  refine wpAnyH_ready (rs := [23]) (by kernel_rfl) (by simp) ?_
                  refine AllReadyH.cons (o := { dst := some 92, op := _, type := _, pos := _, after := _, guard := _ }) rfl (fun K hK => ?_) AllReadyH.nil
                  go_simp
                  refine (HGB.out _ _ _ (HDD.out _ hHeld).f).mono ?_
                  rintro e x4 ⟨rfl, hk1⟩
                  have hKeep := since_step hHeld hk1
                  clear hk1
                  go_wp2_with fail
                  refine hK.out _ _ (by (try dsimp only); exact hKeep) (fun hHeld => ?_)
                  clear hK K hKeep
                  try simp only [Act.put, List.setIfInBounds_toArray, List.set_cons_zero, List.set_cons_succ]
                  refine wpAnyH_ready (rs := [27]) (by kernel_rfl) (by simp) ?_
                  refine AllReadyH.cons (o := { dst := some 96, op := _, type := _, pos := _, after := _, guard := _ }) rfl (fun K hK => ?_) AllReadyH.nil
                  go_simp
                  refine (HGC.out _ (HYC.out _ hHeld)).mono ?_
                  rintro e x5 ⟨rfl, hk1⟩
                  have hKeep := since_step hHeld hk1
                  clear hk1
                  go_wp2_with fail
                  refine hK.out _ _ (by (try dsimp only); exact hKeep) (fun hHeld => ?_)
                  clear hK K hKeep
                  try simp only [Act.put, List.setIfInBounds_toArray, List.set_cons_zero, List.set_cons_succ]
                  refine wpAnyH_take (i := 28) (oi := { dst := some 97, op := _, type := _, pos := _, after := _, guard := _ }) (v := ?_) rfl (by kernel_rfl) (by kernel_rfl) (by kernel_rfl) (fun _ _ _ h => h) (Or.inl ⟨by rfl, ?_⟩) hHeld ?_
                  rotate_left
                  · (intro w hSw; clear hSw; go_simp <;> with_reducible rfl)
                  try simp only [Act.put, List.setIfInBounds_toArray, List.set_cons_zero, List.set_cons_succ]
                  refine wpAnyH_take (i := 29) (oi := { dst := some 98, op := _, type := _, pos := _, after := _, guard := _ }) (v := ?_) rfl (by kernel_rfl) (by kernel_rfl) (by kernel_rfl) (fun _ _ _ h => h) (Or.inl ⟨by rfl, ?_⟩) hHeld ?_
                  rotate_left
                  · (intro w hSw; clear hSw; go_simp <;> with_reducible rfl)
                  try simp only [Act.put, List.setIfInBounds_toArray, List.set_cons_zero, List.set_cons_succ]
                  refine wpAnyH_take (i := 30) (oi := { dst := some 99, op := _, type := _, pos := _, after := _, guard := _ }) (v := ?_) rfl (by kernel_rfl) (by kernel_rfl) (by kernel_rfl) (fun _ _ _ h => h) (Or.inl ⟨by rfl, ?_⟩) hHeld ?_
                  rotate_left
                  · (intro w hSw; clear hSw; go_simp <;> with_reducible rfl)
                  try simp only [Act.put, List.setIfInBounds_toArray, List.set_cons_zero, List.set_cons_succ]
                  refine wpAnyH_done (by kernel_rfl) ?_ _
                  go_wp2_with fail
                  go_meet
                  case rel => exact ⟨rfl, hHeld⟩
            · have ht1 := Lib.hid t1
              clear t1
              focus
                obtain ⟨hl, hg_⟩ := HOT.out (fun h => hf1.out h.1) (fun h => ht1.out h.1)
                rw [hl] at HLB
                have HGB := Lib.hid (fun A1 k1 V h => HGB.out A1 k1 oa oc V h)
                rw [hg_] at HGB
                clear hl hg_
                have HGC := Lib.hid (fun V h => HGC.out oa oc V h)
                generalize lotsH cs oa oc = L1 at *
                generalize getF p oa oc = gv at *
                have gg1 : (gv != gv) = false := by simp
                have gg2 : (gv == gv) = true := by simp
                clear HOT
                have bf1 : (oa != fa) = true := by simpa using hf1.out
                have cf1 : (oa == fa) = false := by simpa using hf1.out
                clear hf1
                have bt1 : (oa != ta) = true := by simpa using ht1.out
                have ct1 : (oa == ta) = false := by simpa using ht1.out
                clear ht1
                go_wp2_with fail
                refine wp_region_held_drew (S := (fun V => Below Y7.heap.size Y7 V)) (by kernel_rfl) (by exact (Below.refl _ _).drew) (fun hHeld => ?_)
                refine wpAnyH_take (i := 0) (oi := { dst := some 69, op := _, type := _, pos := _, after := _, guard := _ }) (v := ?_) rfl (by kernel_rfl) (by kernel_rfl) (by kernel_rfl) (fun _ _ _ h => h) (Or.inl ⟨by rfl, ?_⟩) hHeld ?_
                rotate_left
                · (intro w hSw; obtain ⟨⟨d0, d1⟩, ⟨a0_, a1_⟩, ⟨f0, f1⟩, ⟨u0, u1⟩, ⟨o0, o1⟩⟩ := HQ.out _ (hSw); go_simp <;> with_reducible rfl)
                try simp only [Act.put, List.setIfInBounds_toArray, List.set_cons_zero, List.set_cons_succ]
                refine wpAnyH_take (i := 1) (oi := { dst := some 70, op := _, type := _, pos := _, after := _, guard := _ }) (v := ?_) rfl (by kernel_rfl) (by kernel_rfl) (by kernel_rfl) (fun _ _ _ h => h) (Or.inl ⟨by rfl, ?_⟩) hHeld ?_
                rotate_left
                · (intro w hSw; obtain ⟨⟨d0, d1⟩, ⟨a0_, a1_⟩, ⟨f0, f1⟩, ⟨u0, u1⟩, ⟨o0, o1⟩⟩ := HQ.out _ (hSw); go_simp <;> with_reducible rfl)
                try simp only [Act.put, List.setIfInBounds_toArray, List.set_cons_zero, List.set_cons_succ]
                refine wpAnyH_take (i := 2) (oi := { dst := some 71, op := _, type := _, pos := _, after := _, guard := _ }) (v := ?_) rfl (by kernel_rfl) (by kernel_rfl) (by kernel_rfl) (fun _ _ _ h => h) (Or.inl ⟨by rfl, ?_⟩) hHeld ?_
                rotate_left
                · (intro w hSw; clear hSw; go_simp <;> with_reducible rfl)
                try simp only [Act.put, List.setIfInBounds_toArray, List.set_cons_zero, List.set_cons_succ]
                refine wpAnyH_take (i := 3) (oi := { dst := some 72, op := _, type := _, pos := _, after := _, guard := _ }) (v := ?_) rfl (by kernel_rfl) (by kernel_rfl) (by kernel_rfl) (fun _ _ _ h => h) (Or.inl ⟨by rfl, ?_⟩) hHeld ?_
                rotate_left
                · (intro w hSw; clear hSw; go_simp <;> with_reducible rfl)
                try simp only [Act.put, List.setIfInBounds_toArray, List.set_cons_zero, List.set_cons_succ]
                refine wpAnyH_take (i := 4) (oi := { dst := some 73, op := _, type := _, pos := _, after := _, guard := _ }) (v := ?_) rfl (by kernel_rfl) (by kernel_rfl) (by kernel_rfl) (fun _ _ _ h => h) (Or.inl ⟨by rfl, ?_⟩) hHeld ?_
                rotate_left
                · (intro w hSw; obtain ⟨⟨d0, d1⟩, ⟨a0_, a1_⟩, ⟨f0, f1⟩, ⟨u0, u1⟩, ⟨o0, o1⟩⟩ := HQ.out _ (hSw); go_simp <;> with_reducible rfl)
                try simp only [Act.put, List.setIfInBounds_toArray, List.set_cons_zero, List.set_cons_succ]
                refine wpAnyH_take (i := 5) (oi := { dst := some 74, op := _, type := _, pos := _, after := _, guard := _ }) (v := ?_) rfl (by kernel_rfl) (by kernel_rfl) (by kernel_rfl) (fun _ _ _ h => h) (Or.inl ⟨by rfl, ?_⟩) hHeld ?_
                rotate_left
                · (intro w hSw; obtain ⟨⟨d0, d1⟩, ⟨a0_, a1_⟩, ⟨f0, f1⟩, ⟨u0, u1⟩, ⟨o0, o1⟩⟩ := HQ.out _ (hSw); go_simp <;> with_reducible rfl)
                try simp only [Act.put, List.setIfInBounds_toArray, List.set_cons_zero, List.set_cons_succ]
                refine wpAnyH_take (i := 6) (oi := { dst := some 75, op := _, type := _, pos := _, after := _, guard := _ }) (v := ?_) rfl (by kernel_rfl) (by kernel_rfl) (by kernel_rfl) (fun _ _ _ h => h) (Or.inl ⟨by rfl, ?_⟩) hHeld ?_
                rotate_left
                · (intro w hSw; clear hSw; go_simp <;> with_reducible rfl)
                try simp only [Act.put, List.setIfInBounds_toArray, List.set_cons_zero, List.set_cons_succ]
                refine wpAnyH_take (i := 7) (oi := { dst := some 76, op := _, type := _, pos := _, after := _, guard := _ }) (v := ?_) rfl (by kernel_rfl) (by kernel_rfl) (by kernel_rfl) (fun _ _ _ h => h) (Or.inl ⟨by rfl, ?_⟩) hHeld ?_
                rotate_left
                · (intro w hSw; clear hSw; go_simp <;> with_reducible rfl)
                try simp only [Act.put, List.setIfInBounds_toArray, List.set_cons_zero, List.set_cons_succ]
                refine wpAnyH_take (i := 8) (oi := { dst := some 77, op := _, type := _, pos := _, after := _, guard := _ }) (v := ?_) rfl (by kernel_rfl) (by kernel_rfl) (by kernel_rfl) (fun _ _ _ h => h) (Or.inl ⟨by rfl, ?_⟩) hHeld ?_
                rotate_left
                · (intro w hSw; clear hSw; go_simp <;> with_reducible rfl)
                try simp only [Act.put, List.setIfInBounds_toArray, List.set_cons_zero, List.set_cons_succ]
                refine wpAnyH_take (i := 9) (oi := { dst := some 78, op := _, type := _, pos := _, after := _, guard := _ }) (v := ?_) rfl (by kernel_rfl) (by kernel_rfl) (by kernel_rfl) (fun _ _ _ h => h) (Or.inl ⟨by rfl, ?_⟩) hHeld ?_
                rotate_left
                · (intro w hSw; clear hSw; go_simp <;> with_reducible rfl)
                try simp only [Act.put, List.setIfInBounds_toArray, List.set_cons_zero, List.set_cons_succ]
                refine wpAnyH_take (i := 10) (oi := { dst := some 79, op := _, type := _, pos := _, after := _, guard := _ }) (v := ?_) rfl (by kernel_rfl) (by kernel_rfl) (by kernel_rfl) (fun _ _ _ h => h) (Or.inl ⟨by rfl, ?_⟩) hHeld ?_
                rotate_left
                · (intro w hSw; obtain ⟨⟨d0, d1⟩, ⟨a0_, a1_⟩, ⟨f0, f1⟩, ⟨u0, u1⟩, ⟨o0, o1⟩⟩ := HQ.out _ (hSw); go_simp <;> with_reducible rfl)
                try simp only [Act.put, List.setIfInBounds_toArray, List.set_cons_zero, List.set_cons_succ]
                refine wpAnyH_take (i := 11) (oi := { dst := some 80, op := _, type := _, pos := _, after := _, guard := _ }) (v := ?_) rfl (by kernel_rfl) (by kernel_rfl) (by kernel_rfl) (fun _ _ _ h => h) (Or.inl ⟨by rfl, ?_⟩) hHeld ?_
                rotate_left
                · (intro w hSw; obtain ⟨⟨d0, d1⟩, ⟨a0_, a1_⟩, ⟨f0, f1⟩, ⟨u0, u1⟩, ⟨o0, o1⟩⟩ := HQ.out _ (hSw); go_simp <;> with_reducible rfl)
                try simp only [Act.put, List.setIfInBounds_toArray, List.set_cons_zero, List.set_cons_succ]
                refine wpAnyH_take (i := 13) (oi := { dst := some 82, op := _, type := _, pos := _, after := _, guard := _ }) (v := ?_) rfl (by kernel_rfl) (by kernel_rfl) (by kernel_rfl) (fun _ _ _ h => h) (Or.inl ⟨by rfl, ?_⟩) hHeld ?_
                rotate_left
                · (intro w hSw; clear hSw; go_simp <;> with_reducible rfl)
                try simp only [Act.put, List.setIfInBounds_toArray, List.set_cons_zero, List.set_cons_succ]
                refine wpAnyH_take (i := 14) (oi := { dst := some 83, op := _, type := _, pos := _, after := _, guard := _ }) (v := ?_) rfl (by kernel_rfl) (by kernel_rfl) (by kernel_rfl) (fun _ _ _ h => h) (Or.inl ⟨by rfl, ?_⟩) hHeld ?_
                rotate_left
                · (intro w hSw; obtain ⟨⟨d0, d1⟩, ⟨a0_, a1_⟩, ⟨f0, f1⟩, ⟨u0, u1⟩, ⟨o0, o1⟩⟩ := HQ.out _ (hSw); go_simp <;> with_reducible rfl)
                try simp only [Act.put, List.setIfInBounds_toArray, List.set_cons_zero, List.set_cons_succ]
                refine wpAnyH_take (i := 15) (oi := { dst := some 84, op := _, type := _, pos := _, after := _, guard := _ }) (v := ?_) rfl (by kernel_rfl) (by kernel_rfl) (by kernel_rfl) (fun _ _ _ h => h) (Or.inl ⟨by rfl, ?_⟩) hHeld ?_
                rotate_left
                · (intro w hSw; obtain ⟨⟨d0, d1⟩, ⟨a0_, a1_⟩, ⟨f0, f1⟩, ⟨u0, u1⟩, ⟨o0, o1⟩⟩ := HQ.out _ (hSw); go_simp <;> with_reducible rfl)
                try simp only [Act.put, List.setIfInBounds_toArray, List.set_cons_zero, List.set_cons_succ]
                refine wpAnyH_ready (rs := [12]) (by kernel_rfl) (by simp) ?_
                refine AllReadyH.cons (o := { dst := some 81, op := _, type := _, pos := _, after := _, guard := _ }) rfl (fun K hK => ?_) AllReadyH.nil
                go_simp
                refine (HLB.out _ _ _ _ HM15.out (HDD.out _ hHeld).s (HDD.out _ hHeld).t).mono ?_
                rintro e x1 ⟨⟨A9, c9, rfl, o9⟩, hk1⟩
                have hKeep := since_step hHeld hk1
                have s9 := Sl.of_own o9
                clear o9
                clear hk1
                go_wp2_with fail
                refine hK.out _ _ (by (try dsimp only); exact hKeep) (fun hHeld => ?_)
                clear hK K hKeep
                try simp only [Act.put, List.setIfInBounds_toArray, List.set_cons_zero, List.set_cons_succ]
                refine wpAnyH_ready (rs := [16]) (by kernel_rfl) (by simp) ?_
                refine AllReadyH.cons (o := { dst := some 85, op := _, type := _, pos := _, after := _, guard := _ }) rfl (fun K hK => ?_) AllReadyH.nil
                go_simp
                refine (HLC.out _ (HYC.out _ hHeld)).mono ?_
                rintro e x2 ⟨⟨A10, c10, rfl, o10⟩, hk1⟩
                have hKeep := since_step hHeld hk1
                have s9 := s9.below hk1
                have s10 := Sl.of_own o10
                clear o10
                clear hk1
                go_wp2_with fail
                refine hK.out _ _ (by (try dsimp only); exact hKeep) (fun hHeld => ?_)
                clear hK K hKeep
                try simp only [Act.put, List.setIfInBounds_toArray, List.set_cons_zero, List.set_cons_succ]
                refine wpAnyH_ready (rs := [17]) (by kernel_rfl) (by simp) ?_
                refine AllReadyH.cons (o := { dst := some 86, op := _, type := _, pos := _, after := _, guard := _ }) rfl (fun K hK => ?_) AllReadyH.nil
                go_simp
                refine (HVS.out _ _ _ _ _ s9 s10).mono ?_
                rintro e x3 ⟨rfl, hk1⟩
                have hKeep := since_step hHeld hk1
                clear s9 s10
                clear hk1
                go_wp2_with fail
                refine hK.out _ _ (by (try dsimp only); exact hKeep) (fun hHeld => ?_)
                clear hK K hKeep
                try simp only [Act.put, List.setIfInBounds_toArray, List.set_cons_zero, List.set_cons_succ]
                refine wpAnyH_take (i := 18) (oi := { dst := some 87, op := _, type := _, pos := _, after := _, guard := _ }) (v := ?_) rfl (by kernel_rfl) (by kernel_rfl) (by kernel_rfl) (fun _ _ _ h => h) (Or.inl ⟨by rfl, ?_⟩) hHeld ?_
                rotate_left
                · (intro w hSw; clear hSw; go_simp <;> with_reducible rfl)
                try simp only [Act.put, List.setIfInBounds_toArray, List.set_cons_zero, List.set_cons_succ]
                refine wpAnyH_take (i := 19) (oi := { dst := some 88, op := _, type := _, pos := _, after := _, guard := _ }) (v := ?_) rfl (by kernel_rfl) (by kernel_rfl) (by kernel_rfl) (fun _ _ _ h => h) (Or.inl ⟨by rfl, ?_⟩) hHeld ?_
                rotate_left
                · (intro w hSw; clear hSw; go_simp <;> with_reducible rfl)
                try simp only [Act.put, List.setIfInBounds_toArray, List.set_cons_zero, List.set_cons_succ]
                refine wpAnyH_take (i := 20) (oi := { dst := some 89, op := _, type := _, pos := _, after := _, guard := _ }) (v := ?_) rfl (by kernel_rfl) (by kernel_rfl) (by kernel_rfl) (fun _ _ _ h => h) (Or.inl ⟨by rfl, ?_⟩) hHeld ?_
                rotate_left
                · (intro w hSw; clear hSw; go_simp <;> with_reducible rfl)
                try simp only [Act.put, List.setIfInBounds_toArray, List.set_cons_zero, List.set_cons_succ]
                refine wpAnyH_take (i := 21) (oi := { dst := some 90, op := _, type := _, pos := _, after := _, guard := _ }) (v := ?_) rfl (by kernel_rfl) (by kernel_rfl) (by kernel_rfl) (fun _ _ _ h => h) (Or.inl ⟨by rfl, ?_⟩) hHeld ?_
                rotate_left
                · (intro w hSw; obtain ⟨⟨d0, d1⟩, ⟨a0_, a1_⟩, ⟨f0, f1⟩, ⟨u0, u1⟩, ⟨o0, o1⟩⟩ := HQ.out _ (hSw); go_simp <;> with_reducible rfl)
                try simp only [Act.put, List.setIfInBounds_toArray, List.set_cons_zero, List.set_cons_succ]
                refine wpAnyH_take (i := 22) (oi := { dst := some 91, op := _, type := _, pos := _, after := _, guard := _ }) (v := ?_) rfl (by kernel_rfl) (by kernel_rfl) (by kernel_rfl) (fun _ _ _ h => h) (Or.inl ⟨by rfl, ?_⟩) hHeld ?_
                rotate_left
                · (intro w hSw; obtain ⟨⟨d0, d1⟩, ⟨a0_, a1_⟩, ⟨f0, f1⟩, ⟨u0, u1⟩, ⟨o0, o1⟩⟩ := HQ.out _ (hSw); go_simp <;> with_reducible rfl)
                try simp only [Act.put, List.setIfInBounds_toArray, List.set_cons_zero, List.set_cons_succ]
                refine wpAnyH_take (i := 24) (oi := { dst := some 93, op := _, type := _, pos := _, after := _, guard := _ }) (v := ?_) rfl (by kernel_rfl) (by kernel_rfl) (by kernel_rfl) (fun _ _ _ h => h) (Or.inl ⟨by rfl, ?_⟩) hHeld ?_
                rotate_left
                · (intro w hSw; clear hSw; go_simp <;> with_reducible rfl)
                try simp only [Act.put, List.setIfInBounds_toArray, List.set_cons_zero, List.set_cons_succ]
                refine wpAnyH_take (i := 25) (oi := { dst := some 94, op := _, type := _, pos := _, after := _, guard := _ }) (v := ?_) rfl (by kernel_rfl) (by kernel_rfl) (by kernel_rfl) (fun _ _ _ h => h) (Or.inl ⟨by rfl, ?_⟩) hHeld ?_
                rotate_left
                · (intro w hSw; obtain ⟨⟨d0, d1⟩, ⟨a0_, a1_⟩, ⟨f0, f1⟩, ⟨u0, u1⟩, ⟨o0, o1⟩⟩ := HQ.out _ (hSw); go_simp <;> with_reducible rfl)
                try simp only [Act.put, List.setIfInBounds_toArray, List.set_cons_zero, List.set_cons_succ]
                refine wpAnyH_take (i := 26) (oi := { dst := some 95, op := _, type := _, pos := _, after := _, guard := _ }) (v := ?_) rfl (by kernel_rfl) (by kernel_rfl) (by kernel_rfl) (fun _ _ _ h => h) (Or.inl ⟨by rfl, ?_⟩) hHeld ?_
                rotate_left
                · (intro w hSw; obtain ⟨⟨d0, d1⟩, ⟨a0_, a1_⟩, ⟨f0, f1⟩, ⟨u0, u1⟩, ⟨o0, o1⟩⟩ := HQ.out _ (hSw); go_simp <;> with_reducible rfl)
                try simp only [Act.put, List.setIfInBounds_toArray, List.set_cons_zero, List.set_cons_succ]
                refine wpAnyH_ready (rs := [23]) (by kernel_rfl) (by simp) ?_
                refine AllReadyH.cons (o := { dst := some 92, op := _, type := _, pos := _, after := _, guard := _ }) rfl (fun K hK => ?_) AllReadyH.nil
                go_simp
                refine (HGB.out _ _ _ (HDD.out _ hHeld).f).mono ?_
                rintro e x4 ⟨rfl, hk1⟩
                have hKeep := since_step hHeld hk1
                clear hk1
                go_wp2_with fail
                refine hK.out _ _ (by (try dsimp only); exact hKeep) (fun hHeld => ?_)
                clear hK K hKeep
                try simp only [Act.put, List.setIfInBounds_toArray, List.set_cons_zero, List.set_cons_succ]
                refine wpAnyH_ready (rs := [27]) (by kernel_rfl) (by simp) ?_
                refine AllReadyH.cons (o := { dst := some 96, op := _, type := _, pos := _, after := _, guard := _ }) rfl (fun K hK => ?_) AllReadyH.nil
                go_simp
                refine (HGC.out _ (HYC.out _ hHeld)).mono ?_
                rintro e x5 ⟨rfl, hk1⟩
                have hKeep := since_step hHeld hk1
                clear hk1
                go_wp2_with fail
                refine hK.out _ _ (by (try dsimp only); exact hKeep) (fun hHeld => ?_)
                clear hK K hKeep
                try simp only [Act.put, List.setIfInBounds_toArray, List.set_cons_zero, List.set_cons_succ]
                refine wpAnyH_take (i := 28) (oi := { dst := some 97, op := _, type := _, pos := _, after := _, guard := _ }) (v := ?_) rfl (by kernel_rfl) (by kernel_rfl) (by kernel_rfl) (fun _ _ _ h => h) (Or.inl ⟨by rfl, ?_⟩) hHeld ?_
                rotate_left
                · (intro w hSw; clear hSw; go_simp <;> with_reducible rfl)
                try simp only [Act.put, List.setIfInBounds_toArray, List.set_cons_zero, List.set_cons_succ]
                refine wpAnyH_take (i := 29) (oi := { dst := some 98, op := _, type := _, pos := _, after := _, guard := _ }) (v := ?_) rfl (by kernel_rfl) (by kernel_rfl) (by kernel_rfl) (fun _ _ _ h => h) (Or.inl ⟨by rfl, ?_⟩) hHeld ?_
                rotate_left
                · (intro w hSw; clear hSw; go_simp <;> with_reducible rfl)
                try simp only [Act.put, List.setIfInBounds_toArray, List.set_cons_zero, List.set_cons_succ]
                refine wpAnyH_take (i := 30) (oi := { dst := some 99, op := _, type := _, pos := _, after := _, guard := _ }) (v := ?_) rfl (by kernel_rfl) (by kernel_rfl) (by kernel_rfl) (fun _ _ _ h => h) (Or.inl ⟨by rfl, ?_⟩) hHeld ?_
                rotate_left
                · (intro w hSw; clear hSw; go_simp <;> with_reducible rfl)
                try simp only [Act.put, List.setIfInBounds_toArray, List.set_cons_zero, List.set_cons_succ]
                refine wpAnyH_done (by kernel_rfl) ?_ _
                go_wp2_with fail
                go_meet
                case rel => exact ⟨rfl, hHeld⟩
        case rest =>
          obtain ⟨rfl, hbx⟩ := hcut
          have KD := KD.below hbx
          have KI := KI.below hbx
          have KF := KF.below hbx
          have KT := KT.below hbx
          have KO := KO.below hbx
          have D5 := D5.below hbx
          have K6 := K6.below hbx
          have hC := since_step hC hbx
          clear hbx HOT HLB HLC HVS HGB
          go_upto_region 9 with fail
          generalize hw5 : wc = Y9 at *
          clear hw5
          obtain ⟨KD_l, KD_c⟩ := id KD
          have KD_0 := KD_c 0
          have KD_1 := KD_c 1
          simp at KD_0 KD_1
          clear KD_c
          obtain ⟨KI_l, KI_c⟩ := id KI
          have KI_0 := KI_c 0
          have KI_1 := KI_c 1
          have KI_2 := KI_c 2
          have KI_3 := KI_c 3
          have KI_4 := KI_c 4
          simp at KI_0 KI_1 KI_2 KI_3 KI_4
          clear KI_c
          obtain ⟨KF_l, KF_c⟩ := id KF
          have KF_0 := KF_c 0
          have KF_1 := KF_c 1
          simp at KF_0 KF_1
          clear KF_c
          obtain ⟨KT_l, KT_c⟩ := id KT
          have KT_0 := KT_c 0
          have KT_1 := KT_c 1
          simp at KT_0 KT_1
          clear KT_c
          obtain ⟨KO_l, KO_c⟩ := id KO
          have KO_0 := KO_c 0
          have KO_1 := KO_c 1
          simp at KO_0 KO_1
          clear KO_c
          obtain ⟨K6_l, K6_c⟩ := id K6
          have K6_0 := K6_c 0
          have K6_1 := K6_c 1
          simp at K6_0 K6_1
          clear K6_c
          go_wp2_with fail
          refine (HA2.out _ _ _ _ _ _ HM14.out D5 hC).mono ?_
          rintro e v1 ⟨⟨m7, A7, k7, A8, k8, rfl, D7⟩, hb⟩
          have hC := since_step hC hb
          have KD := KD.below hb
          have KI := KI.below hb
          have KF := KF.below hb
          have KT := KT.below hb
          have KO := KO.below hb
          have D5 := D5.below hb
          have K6 := K6.below hb
          clear hb
          clear KD_l KD_0 KD_1 KI_l KI_0 KI_1 KI_2 KI_3 KI_4 KF_l KF_0 KF_1 KT_l KT_0 KT_1 KO_l KO_0 KO_1 K6_l K6_0 K6_1
          have hA := (Below.refl v1.heap.size v1).alloc (Nat.le_refl _) (.cells #[.slice A7 m7.length k7, .slice A8 P2.length k8] 30)
          have K8 := Bk.new v1 #[.slice A7 m7.length k7, .slice A8 P2.length k8] 30
          have KD := KD.below hA
          have KI := KI.below hA
          have KF := KF.below hA
          have KT := KT.below hA
          have KO := KO.below hA
          have D5 := D5.below hA
          have K6 := K6.below hA
          have D7 := D7.below hA
          have hC := since_step hC hA
          clear hA
          go_upto_region 10 with fail
          generalize hYY : v1.alloc (.cells #[.slice A7 m7.length k7, .slice A8 P2.length k8] 30) = Y10 at *
          generalize hGG : v1.heap.size = gY10 at *
          clear hYY hGG
          clear HA2
          go_cut [119] (fun s119 wx => s119 = .bool false ∧ Below Y10.heap.size Y10 wx)
          case first =>
            focus
              have HQ : Hid (∀ V, Below Y10.heap.size Y10 V → (V.cell? ⟨g, 0, none⟩ = some ((.slice A' R.length c')) ∧ V.cell? ⟨g, 1, none⟩ = some ((.slice a1 p.length c1))) ∧ (V.cell? ⟨gY3, 0, none⟩ = some (.slice A5 m5.length k5) ∧ V.cell? ⟨gY3, 1, none⟩ = some (.slice A6 P.length k6)) ∧ (V.cell? ⟨w.heap.size + 1, 0, none⟩ = some (.int .i64 fa) ∧ V.cell? ⟨w.heap.size + 1, 1, none⟩ = some (.int .i64 fc)) ∧ (V.cell? ⟨w.heap.size + 1 + 1, 0, none⟩ = some (.int .i64 ta) ∧ V.cell? ⟨w.heap.size + 1 + 1, 1, none⟩ = some (.int .i64 tc)) ∧ (V.cell? ⟨w.heap.size + 1 + 1 + 1, 0, none⟩ = some (.int .i64 oa) ∧ V.cell? ⟨w.heap.size + 1 + 1 + 1, 1, none⟩ = some (.int .i64 oc)) ∧ (V.cell? ⟨gY10, 0, none⟩ = some (.slice A7 m7.length k7) ∧ V.cell? ⟨gY10, 1, none⟩ = some (.slice A8 P2.length k8))) := Lib.hid fun V h => ⟨⟨(KD.below h).2 0, (KD.below h).2 1⟩, ⟨(K6.below h).2 0, (K6.below h).2 1⟩, ⟨(KF.below h).2 0, (KF.below h).2 1⟩, ⟨(KT.below h).2 0, (KT.below h).2 1⟩, ⟨(KO.below h).2 0, (KO.below h).2 1⟩, ⟨(K8.below h).2 0, (K8.below h).2 1⟩⟩
              have HYC : Hid (∀ V, Below Y10.heap.size Y10 V → Below y0.heap.size y0 V) := Lib.hid fun V h => hC.trans (h.mono hC.size)
              have HDD : Hid (∀ V, Below Y10.heap.size Y10 V → Dk V A5 m5 B A6 P) := Lib.hid fun V h => D5.below h
              have HD7 : Hid (∀ V, Below Y10.heap.size Y10 V → Dk V A7 m7 B2 A8 P2) := Lib.hid fun V h => D7.below h
              clear KD KI KF KT KO K6 K8 D5 D7 hC HST HG3 HA3
              by_cases hn2 : n2 = 0
              · obtain ⟨hE1, hE2⟩ := HBK.out hn2
                have bn2 : (n2 == 0) = true := by simpa using hn2
                subst hE1
                subst hE2
                have HM7 : Hid (m7.length ≤ 900000) := Lib.hid (by rw [(HD7.out _ (Below.refl _ _)).t.1]; exact HM5.out)
                clear hn2 HBK
                go_wp2_with fail
                refine wp_region_held_drew (S := (fun V => Below Y10.heap.size Y10 V)) (by kernel_rfl) (by exact (Below.refl _ _).drew) (fun hHeld => ?_)
                refine wpAnyH_take (i := 0) (oi := { dst := some 110, op := _, type := _, pos := _, after := _, guard := _ }) (v := ?_) rfl (by kernel_rfl) (by kernel_rfl) (by kernel_rfl) (fun _ _ _ h => h) (Or.inl ⟨by rfl, ?_⟩) hHeld ?_
                rotate_left
                · (intro w hSw; clear hSw; go_simp <;> with_reducible rfl)
                try simp only [Act.put, List.setIfInBounds_toArray, List.set_cons_zero, List.set_cons_succ]
                refine wpAnyH_take (i := 1) (oi := { dst := some 111, op := _, type := _, pos := _, after := _, guard := _ }) (v := ?_) rfl (by kernel_rfl) (by kernel_rfl) (by kernel_rfl) (fun _ _ _ h => h) (Or.inl ⟨by rfl, ?_⟩) hHeld ?_
                rotate_left
                · (intro w hSw; clear hSw; go_simp <;> with_reducible rfl)
                try simp only [Act.put, List.setIfInBounds_toArray, List.set_cons_zero, List.set_cons_succ]
                refine wpAnyH_take (i := 2) (oi := { dst := some 112, op := _, type := _, pos := _, after := _, guard := _ }) (v := ?_) rfl (by kernel_rfl) (by kernel_rfl) (by kernel_rfl) (fun _ _ _ h => h) (Or.inl ⟨by rfl, ?_⟩) hHeld ?_
                rotate_left
                · (intro w hSw; clear hSw; go_simp <;> with_reducible rfl)
                try simp only [Act.put, List.setIfInBounds_toArray, List.set_cons_zero, List.set_cons_succ]
                refine wpAnyH_take (i := 3) (oi := { dst := some 113, op := _, type := _, pos := _, after := _, guard := _ }) (v := ?_) rfl (by kernel_rfl) (by kernel_rfl) (by kernel_rfl) (fun _ _ _ h => h) (Or.inl ⟨by rfl, ?_⟩) hHeld ?_
                rotate_left
                · (intro w hSw; obtain ⟨⟨d0, d1⟩, ⟨a0_, a1_⟩, ⟨f0, f1⟩, ⟨u0, u1⟩, ⟨o0, o1⟩, ⟨v0, v1⟩⟩ := HQ.out _ (hSw); go_simp <;> with_reducible rfl)
                try simp only [Act.put, List.setIfInBounds_toArray, List.set_cons_zero, List.set_cons_succ]
                refine wpAnyH_take (i := 5) (oi := { dst := some 115, op := _, type := _, pos := _, after := _, guard := _ }) (v := ?_) rfl (by kernel_rfl) (by kernel_rfl) (by kernel_rfl) (fun _ _ _ h => h) (Or.inl ⟨by rfl, ?_⟩) hHeld ?_
                rotate_left
                · (intro w hSw; obtain ⟨⟨d0, d1⟩, ⟨a0_, a1_⟩, ⟨f0, f1⟩, ⟨u0, u1⟩, ⟨o0, o1⟩, ⟨v0, v1⟩⟩ := HQ.out _ (hSw); go_simp <;> with_reducible rfl)
                try simp only [Act.put, List.setIfInBounds_toArray, List.set_cons_zero, List.set_cons_succ]
                refine wpAnyH_ready (rs := [4]) (by kernel_rfl) (by simp) ?_
                refine AllReadyH.cons (o := { dst := some 114, op := _, type := _, pos := _, after := _, guard := _ }) rfl (fun K hK => ?_) AllReadyH.nil
                go_simp
                refine (plain_any _ _ _ _ _ _ _).mono ?_
                rintro e x1 ⟨rfl, hk1⟩
                have hKeep := since_step hHeld hk1
                clear hk1
                go_wp2_with fail
                refine hK.out _ _ (by (try dsimp only); exact hKeep) (fun hHeld => ?_)
                clear hK K hKeep
                try simp only [Act.put, List.setIfInBounds_toArray, List.set_cons_zero, List.set_cons_succ]
                refine wpAnyH_ready (rs := [6]) (by kernel_rfl) (by simp) ?_
                refine AllReadyH.cons (o := { dst := some 116, op := _, type := _, pos := _, after := _, guard := _ }) rfl (fun K hK => ?_) AllReadyH.nil
                go_simp
                refine (plain_any _ _ _ _ _ _ _).mono ?_
                rintro e x2 ⟨rfl, hk1⟩
                have hKeep := since_step hHeld hk1
                clear hk1
                go_wp2_with fail
                refine hK.out _ _ (by (try dsimp only); exact hKeep) (fun hHeld => ?_)
                clear hK K hKeep
                try simp only [Act.put, List.setIfInBounds_toArray, List.set_cons_zero, List.set_cons_succ]
                refine wpAnyH_ready (rs := [7]) (by kernel_rfl) (by simp) ?_
                refine AllReadyH.cons (o := { dst := some 117, op := _, type := _, pos := _, after := _, guard := _ }) rfl (fun K hK => ?_) AllReadyH.nil
                go_simp
                refine (HSE.out _ _ _ _ _ _ _ _ _ _ _ HM7.out (HD7.out _ hHeld) (HDW.out _ (HYC.out _ hHeld))).mono ?_
                rintro e x3 ⟨rfl, hk1⟩
                have hKeep := since_step hHeld hk1
                clear hk1
                go_wp2_with fail
                refine hK.out _ _ (by (try dsimp only); exact hKeep) (fun hHeld => ?_)
                clear hK K hKeep
                try simp only [Act.put, List.setIfInBounds_toArray, List.set_cons_zero, List.set_cons_succ]
                refine wpAnyH_take (i := 8) (oi := { dst := some 118, op := _, type := _, pos := _, after := _, guard := _ }) (v := ?_) rfl (by kernel_rfl) (by kernel_rfl) (by kernel_rfl) (fun _ _ _ h => h) (Or.inl ⟨by rfl, ?_⟩) hHeld ?_
                rotate_left
                · (intro w hSw; clear hSw; go_simp <;> with_reducible rfl)
                try simp only [Act.put, List.setIfInBounds_toArray, List.set_cons_zero, List.set_cons_succ]
                refine wpAnyH_take (i := 9) (oi := { dst := some 119, op := _, type := _, pos := _, after := _, guard := _ }) (v := ?_) rfl (by kernel_rfl) (by kernel_rfl) (by kernel_rfl) (fun _ _ _ h => h) (Or.inl ⟨by rfl, ?_⟩) hHeld ?_
                rotate_left
                · (intro w hSw; clear hSw; go_simp <;> with_reducible rfl)
                try simp only [Act.put, List.setIfInBounds_toArray, List.set_cons_zero, List.set_cons_succ]
                refine wpAnyH_done (by kernel_rfl) ?_ _
                go_wp2_with fail
                go_meet
                case rel => exact ⟨rfl, hHeld⟩
              · have bn2 : (n2 == 0) = false := by simpa using hn2
                clear hn2 HBK
                go_wp2_with fail
                refine wp_region_held_drew (S := (fun V => Below Y10.heap.size Y10 V)) (by kernel_rfl) (by exact (Below.refl _ _).drew) (fun hHeld => ?_)
                refine wpAnyH_take (i := 0) (oi := { dst := some 110, op := _, type := _, pos := _, after := _, guard := _ }) (v := ?_) rfl (by kernel_rfl) (by kernel_rfl) (by kernel_rfl) (fun _ _ _ h => h) (Or.inl ⟨by rfl, ?_⟩) hHeld ?_
                rotate_left
                · (intro w hSw; clear hSw; go_simp <;> with_reducible rfl)
                try simp only [Act.put, List.setIfInBounds_toArray, List.set_cons_zero, List.set_cons_succ]
                refine wpAnyH_take (i := 1) (oi := { dst := some 111, op := _, type := _, pos := _, after := _, guard := _ }) (v := ?_) rfl (by kernel_rfl) (by kernel_rfl) (by kernel_rfl) (fun _ _ _ h => h) (Or.inl ⟨by rfl, ?_⟩) hHeld ?_
                rotate_left
                · (intro w hSw; clear hSw; go_simp <;> with_reducible rfl)
                try simp only [Act.put, List.setIfInBounds_toArray, List.set_cons_zero, List.set_cons_succ]
                refine wpAnyH_take (i := 2) (oi := { dst := some 112, op := _, type := _, pos := _, after := _, guard := _ }) (v := ?_) rfl (by kernel_rfl) (by kernel_rfl) (by kernel_rfl) (fun _ _ _ h => h) (Or.inl ⟨by rfl, ?_⟩) hHeld ?_
                rotate_left
                · (intro w hSw; clear hSw; go_simp <;> with_reducible rfl)
                try simp only [Act.put, List.setIfInBounds_toArray, List.set_cons_zero, List.set_cons_succ]
                refine wpAnyH_take (i := 3) (oi := { dst := some 113, op := _, type := _, pos := _, after := _, guard := _ }) (v := undef) rfl (by kernel_rfl) (by kernel_rfl) (by kernel_rfl) (fun _ _ _ h => h) (Or.inr ⟨by rfl, rfl⟩) hHeld ?_
                try simp only [Act.put, List.setIfInBounds_toArray, List.set_cons_zero, List.set_cons_succ]
                refine wpAnyH_take (i := 4) (oi := { dst := some 114, op := _, type := _, pos := _, after := _, guard := _ }) (v := undef) rfl (by kernel_rfl) (by kernel_rfl) (by kernel_rfl) (fun _ _ _ h => h) (Or.inr ⟨by rfl, rfl⟩) hHeld ?_
                try simp only [Act.put, List.setIfInBounds_toArray, List.set_cons_zero, List.set_cons_succ]
                refine wpAnyH_take (i := 5) (oi := { dst := some 115, op := _, type := _, pos := _, after := _, guard := _ }) (v := undef) rfl (by kernel_rfl) (by kernel_rfl) (by kernel_rfl) (fun _ _ _ h => h) (Or.inr ⟨by rfl, rfl⟩) hHeld ?_
                try simp only [Act.put, List.setIfInBounds_toArray, List.set_cons_zero, List.set_cons_succ]
                refine wpAnyH_take (i := 6) (oi := { dst := some 116, op := _, type := _, pos := _, after := _, guard := _ }) (v := undef) rfl (by kernel_rfl) (by kernel_rfl) (by kernel_rfl) (fun _ _ _ h => h) (Or.inr ⟨by rfl, rfl⟩) hHeld ?_
                try simp only [Act.put, List.setIfInBounds_toArray, List.set_cons_zero, List.set_cons_succ]
                refine wpAnyH_take (i := 7) (oi := { dst := some 117, op := _, type := _, pos := _, after := _, guard := _ }) (v := undef) rfl (by kernel_rfl) (by kernel_rfl) (by kernel_rfl) (fun _ _ _ h => h) (Or.inr ⟨by rfl, rfl⟩) hHeld ?_
                try simp only [Act.put, List.setIfInBounds_toArray, List.set_cons_zero, List.set_cons_succ]
                refine wpAnyH_take (i := 8) (oi := { dst := some 118, op := _, type := _, pos := _, after := _, guard := _ }) (v := undef) rfl (by kernel_rfl) (by kernel_rfl) (by kernel_rfl) (fun _ _ _ h => h) (Or.inr ⟨by rfl, rfl⟩) hHeld ?_
                try simp only [Act.put, List.setIfInBounds_toArray, List.set_cons_zero, List.set_cons_succ]
                refine wpAnyH_take (i := 9) (oi := { dst := some 119, op := _, type := _, pos := _, after := _, guard := _ }) (v := ?_) rfl (by kernel_rfl) (by kernel_rfl) (by kernel_rfl) (fun _ _ _ h => h) (Or.inl ⟨by rfl, ?_⟩) hHeld ?_
                rotate_left
                · (intro w hSw; clear hSw; go_simp <;> with_reducible rfl)
                try simp only [Act.put, List.setIfInBounds_toArray, List.set_cons_zero, List.set_cons_succ]
                refine wpAnyH_done (by kernel_rfl) ?_ _
                go_wp2_with fail
                go_meet
                case rel => exact ⟨rfl, hHeld⟩
          case rest =>
            obtain ⟨rfl, hbx⟩ := hcut
            have KD := KD.below hbx
            have KI := KI.below hbx
            have KF := KF.below hbx
            have KT := KT.below hbx
            have KO := KO.below hbx
            have D5 := D5.below hbx
            have K6 := K6.below hbx
            have hC := since_step hC hbx
            clear hbx HBK HSE K8 D7
            go_upto_region 12 with fail
            generalize hw5 : wc = Y12 at *
            clear hw5
            obtain ⟨KD_l, KD_c⟩ := id KD
            have KD_0 := KD_c 0
            have KD_1 := KD_c 1
            simp at KD_0 KD_1
            clear KD_c
            obtain ⟨KI_l, KI_c⟩ := id KI
            have KI_0 := KI_c 0
            have KI_1 := KI_c 1
            have KI_2 := KI_c 2
            have KI_3 := KI_c 3
            have KI_4 := KI_c 4
            simp at KI_0 KI_1 KI_2 KI_3 KI_4
            clear KI_c
            obtain ⟨KF_l, KF_c⟩ := id KF
            have KF_0 := KF_c 0
            have KF_1 := KF_c 1
            simp at KF_0 KF_1
            clear KF_c
            obtain ⟨KT_l, KT_c⟩ := id KT
            have KT_0 := KT_c 0
            have KT_1 := KT_c 1
            simp at KT_0 KT_1
            clear KT_c
            obtain ⟨KO_l, KO_c⟩ := id KO
            have KO_0 := KO_c 0
            have KO_1 := KO_c 1
            simp at KO_0 KO_1
            clear KO_c
            obtain ⟨K6_l, K6_c⟩ := id K6
            have K6_0 := K6_c 0
            have K6_1 := K6_c 1
            simp at K6_0 K6_1
            clear K6_c
            go_wp2_with fail
            refine (HA3.out _ hC).mono ?_
            rintro e u1 ⟨⟨m8, A9, k9, A10, k10, rfl, D8⟩, hb⟩
            have hC := since_step hC hb
            have KD := KD.below hb
            have KI := KI.below hb
            have KF := KF.below hb
            have KT := KT.below hb
            have KO := KO.below hb
            have D5 := D5.below hb
            have K6 := K6.below hb
            clear hb
            clear KD_l KD_0 KD_1 KI_l KI_0 KI_1 KI_2 KI_3 KI_4 KF_l KF_0 KF_1 KT_l KT_0 KT_1 KO_l KO_0 KO_1 K6_l K6_0 K6_1
            have hA := (Below.refl u1.heap.size u1).alloc (Nat.le_refl _) (.cells #[.slice A9 m8.length k9, .slice A10 P3.length k10] 30)
            have K9 := Bk.new u1 #[.slice A9 m8.length k9, .slice A10 P3.length k10] 30
            have KD := KD.below hA
            have KI := KI.below hA
            have KF := KF.below hA
            have KT := KT.below hA
            have KO := KO.below hA
            have D5 := D5.below hA
            have K6 := K6.below hA
            have D8 := D8.below hA
            have hC := since_step hC hA
            clear hA
            go_upto_region 13 with fail
            generalize hYY : u1.alloc (.cells #[.slice A9 m8.length k9, .slice A10 P3.length k10] 30) = Y13 at *
            generalize hGG : u1.heap.size = gY13 at *
            clear hYY hGG
            clear HA3
            have HQ : Hid (∀ V, Below Y13.heap.size Y13 V → (V.cell? ⟨g, 0, none⟩ = some ((.slice A' R.length c')) ∧ V.cell? ⟨g, 1, none⟩ = some ((.slice a1 p.length c1))) ∧ (V.cell? ⟨gY3, 0, none⟩ = some (.slice A5 m5.length k5) ∧ V.cell? ⟨gY3, 1, none⟩ = some (.slice A6 P.length k6)) ∧ (V.cell? ⟨w.heap.size + 1, 0, none⟩ = some (.int .i64 fa) ∧ V.cell? ⟨w.heap.size + 1, 1, none⟩ = some (.int .i64 fc)) ∧ (V.cell? ⟨w.heap.size + 1 + 1, 0, none⟩ = some (.int .i64 ta) ∧ V.cell? ⟨w.heap.size + 1 + 1, 1, none⟩ = some (.int .i64 tc)) ∧ (V.cell? ⟨w.heap.size + 1 + 1 + 1, 0, none⟩ = some (.int .i64 oa) ∧ V.cell? ⟨w.heap.size + 1 + 1 + 1, 1, none⟩ = some (.int .i64 oc)) ∧ (V.cell? ⟨gY13, 0, none⟩ = some (.slice A9 m8.length k9) ∧ V.cell? ⟨gY13, 1, none⟩ = some (.slice A10 P3.length k10))) := Lib.hid fun V h => ⟨⟨(KD.below h).2 0, (KD.below h).2 1⟩, ⟨(K6.below h).2 0, (K6.below h).2 1⟩, ⟨(KF.below h).2 0, (KF.below h).2 1⟩, ⟨(KT.below h).2 0, (KT.below h).2 1⟩, ⟨(KO.below h).2 0, (KO.below h).2 1⟩, ⟨(K9.below h).2 0, (K9.below h).2 1⟩⟩
            have HYC : Hid (∀ V, Below Y13.heap.size Y13 V → Below y0.heap.size y0 V) := Lib.hid fun V h => hC.trans (h.mono hC.size)
            have HDD : Hid (∀ V, Below Y13.heap.size Y13 V → Dk V A5 m5 B A6 P) := Lib.hid fun V h => D5.below h
            have HD8 : Hid (∀ V, Below Y13.heap.size Y13 V → Sl V A10 (rc Fw.cells P3)) := Lib.hid fun V h => (D8.below h).f
            clear KD KI KF KT KO K6 K9 D5 D8 hC
            by_cases hn3 : n3 = 0
            · have hS := HST.out hn3
              have bn3 : (n3 != 0) = false := by rw [hn3]; rfl
              rw [hS] at HG3
              clear hS hn3 HST
              have HGC := Lib.hid (fun V h => HGC.out fa fc V h)
              generalize getF p fa fc = gv at *
              have gg2 : (gv == gv) = true := by simp
              go_wp2_with fail
              refine wp_region_held_drew (S := (fun V => Below Y13.heap.size Y13 V)) (by kernel_rfl) (by exact (Below.refl _ _).drew) (fun hHeld => ?_)
              refine wpAnyH_take (i := 0) (oi := { dst := some 131, op := _, type := _, pos := _, after := _, guard := _ }) (v := ?_) rfl (by kernel_rfl) (by kernel_rfl) (by kernel_rfl) (fun _ _ _ h => h) (Or.inl ⟨by rfl, ?_⟩) hHeld ?_
              rotate_left
              · (intro w hSw; clear hSw; go_simp <;> with_reducible rfl)
              try simp only [Act.put, List.setIfInBounds_toArray, List.set_cons_zero, List.set_cons_succ]
              refine wpAnyH_take (i := 1) (oi := { dst := some 132, op := _, type := _, pos := _, after := _, guard := _ }) (v := ?_) rfl (by kernel_rfl) (by kernel_rfl) (by kernel_rfl) (fun _ _ _ h => h) (Or.inl ⟨by rfl, ?_⟩) hHeld ?_
              rotate_left
              · (intro w hSw; clear hSw; go_simp <;> with_reducible rfl)
              try simp only [Act.put, List.setIfInBounds_toArray, List.set_cons_zero, List.set_cons_succ]
              refine wpAnyH_take (i := 2) (oi := { dst := some 133, op := _, type := _, pos := _, after := _, guard := _ }) (v := ?_) rfl (by kernel_rfl) (by kernel_rfl) (by kernel_rfl) (fun _ _ _ h => h) (Or.inl ⟨by rfl, ?_⟩) hHeld ?_
              rotate_left
              · (intro w hSw; clear hSw; go_simp <;> with_reducible rfl)
              try simp only [Act.put, List.setIfInBounds_toArray, List.set_cons_zero, List.set_cons_succ]
              refine wpAnyH_take (i := 3) (oi := { dst := some 134, op := _, type := _, pos := _, after := _, guard := _ }) (v := ?_) rfl (by kernel_rfl) (by kernel_rfl) (by kernel_rfl) (fun _ _ _ h => h) (Or.inl ⟨by rfl, ?_⟩) hHeld ?_
              rotate_left
              · (intro w hSw; clear hSw; go_simp <;> with_reducible rfl)
              try simp only [Act.put, List.setIfInBounds_toArray, List.set_cons_zero, List.set_cons_succ]
              refine wpAnyH_take (i := 4) (oi := { dst := some 135, op := _, type := _, pos := _, after := _, guard := _ }) (v := ?_) rfl (by kernel_rfl) (by kernel_rfl) (by kernel_rfl) (fun _ _ _ h => h) (Or.inl ⟨by rfl, ?_⟩) hHeld ?_
              rotate_left
              · (intro w hSw; obtain ⟨⟨d0, d1⟩, ⟨a0_, a1_⟩, ⟨f0, f1⟩, ⟨u0, u1⟩, ⟨o0, o1⟩, ⟨v0, v1⟩⟩ := HQ.out _ (hSw); go_simp <;> with_reducible rfl)
              try simp only [Act.put, List.setIfInBounds_toArray, List.set_cons_zero, List.set_cons_succ]
              refine wpAnyH_take (i := 5) (oi := { dst := some 136, op := _, type := _, pos := _, after := _, guard := _ }) (v := ?_) rfl (by kernel_rfl) (by kernel_rfl) (by kernel_rfl) (fun _ _ _ h => h) (Or.inl ⟨by rfl, ?_⟩) hHeld ?_
              rotate_left
              · (intro w hSw; obtain ⟨⟨d0, d1⟩, ⟨a0_, a1_⟩, ⟨f0, f1⟩, ⟨u0, u1⟩, ⟨o0, o1⟩, ⟨v0, v1⟩⟩ := HQ.out _ (hSw); go_simp <;> with_reducible rfl)
              try simp only [Act.put, List.setIfInBounds_toArray, List.set_cons_zero, List.set_cons_succ]
              refine wpAnyH_take (i := 7) (oi := { dst := some 138, op := _, type := _, pos := _, after := _, guard := _ }) (v := ?_) rfl (by kernel_rfl) (by kernel_rfl) (by kernel_rfl) (fun _ _ _ h => h) (Or.inl ⟨by rfl, ?_⟩) hHeld ?_
              rotate_left
              · (intro w hSw; clear hSw; go_simp <;> with_reducible rfl)
              try simp only [Act.put, List.setIfInBounds_toArray, List.set_cons_zero, List.set_cons_succ]
              refine wpAnyH_take (i := 8) (oi := { dst := some 139, op := _, type := _, pos := _, after := _, guard := _ }) (v := ?_) rfl (by kernel_rfl) (by kernel_rfl) (by kernel_rfl) (fun _ _ _ h => h) (Or.inl ⟨by rfl, ?_⟩) hHeld ?_
              rotate_left
              · (intro w hSw; obtain ⟨⟨d0, d1⟩, ⟨a0_, a1_⟩, ⟨f0, f1⟩, ⟨u0, u1⟩, ⟨o0, o1⟩, ⟨v0, v1⟩⟩ := HQ.out _ (hSw); go_simp <;> with_reducible rfl)
              try simp only [Act.put, List.setIfInBounds_toArray, List.set_cons_zero, List.set_cons_succ]
              refine wpAnyH_take (i := 9) (oi := { dst := some 140, op := _, type := _, pos := _, after := _, guard := _ }) (v := ?_) rfl (by kernel_rfl) (by kernel_rfl) (by kernel_rfl) (fun _ _ _ h => h) (Or.inl ⟨by rfl, ?_⟩) hHeld ?_
              rotate_left
              · (intro w hSw; obtain ⟨⟨d0, d1⟩, ⟨a0_, a1_⟩, ⟨f0, f1⟩, ⟨u0, u1⟩, ⟨o0, o1⟩, ⟨v0, v1⟩⟩ := HQ.out _ (hSw); go_simp <;> with_reducible rfl)
              try simp only [Act.put, List.setIfInBounds_toArray, List.set_cons_zero, List.set_cons_succ]
              refine wpAnyH_ready (rs := [6]) (by kernel_rfl) (by simp) ?_
              refine AllReadyH.cons (o := { dst := some 137, op := _, type := _, pos := _, after := _, guard := _ }) rfl (fun K hK => ?_) AllReadyH.nil
              go_simp
              refine (HG3.out _ _ _ (HD8.out _ hHeld)).mono ?_
              rintro e x1 ⟨rfl, hk1⟩
              have hKeep := since_step hHeld hk1
              clear hk1
              go_wp2_with fail
              refine hK.out _ _ (by (try dsimp only); exact hKeep) (fun hHeld => ?_)
              clear hK K hKeep
              try simp only [Act.put, List.setIfInBounds_toArray, List.set_cons_zero, List.set_cons_succ]
              refine wpAnyH_ready (rs := [10]) (by kernel_rfl) (by simp) ?_
              refine AllReadyH.cons (o := { dst := some 141, op := _, type := _, pos := _, after := _, guard := _ }) rfl (fun K hK => ?_) AllReadyH.nil
              go_simp
              refine (HGC.out _ (HYC.out _ hHeld)).mono ?_
              rintro e x2 ⟨rfl, hk1⟩
              have hKeep := since_step hHeld hk1
              clear hk1
              go_wp2_with fail
              refine hK.out _ _ (by (try dsimp only); exact hKeep) (fun hHeld => ?_)
              clear hK K hKeep
              try simp only [Act.put, List.setIfInBounds_toArray, List.set_cons_zero, List.set_cons_succ]
              refine wpAnyH_take (i := 11) (oi := { dst := some 142, op := _, type := _, pos := _, after := _, guard := _ }) (v := ?_) rfl (by kernel_rfl) (by kernel_rfl) (by kernel_rfl) (fun _ _ _ h => h) (Or.inl ⟨by rfl, ?_⟩) hHeld ?_
              rotate_left
              · (intro w hSw; clear hSw; go_simp <;> with_reducible rfl)
              try simp only [Act.put, List.setIfInBounds_toArray, List.set_cons_zero, List.set_cons_succ]
              refine wpAnyH_take (i := 12) (oi := { dst := some 143, op := _, type := _, pos := _, after := _, guard := _ }) (v := ?_) rfl (by kernel_rfl) (by kernel_rfl) (by kernel_rfl) (fun _ _ _ h => h) (Or.inl ⟨by rfl, ?_⟩) hHeld ?_
              rotate_left
              · (intro w hSw; clear hSw; go_simp <;> with_reducible rfl)
              try simp only [Act.put, List.setIfInBounds_toArray, List.set_cons_zero, List.set_cons_succ]
              refine wpAnyH_take (i := 13) (oi := { dst := some 144, op := _, type := _, pos := _, after := _, guard := _ }) (v := ?_) rfl (by kernel_rfl) (by kernel_rfl) (by kernel_rfl) (fun _ _ _ h => h) (Or.inl ⟨by rfl, ?_⟩) hHeld ?_
              rotate_left
              · (intro w hSw; clear hSw; go_simp <;> with_reducible rfl)
              try simp only [Act.put, List.setIfInBounds_toArray, List.set_cons_zero, List.set_cons_succ]
              refine wpAnyH_ready (rs := [14]) (by kernel_rfl) (by simp) ?_
              refine AllReadyH.cons (o := { dst := some 145, op := _, type := _, pos := _, after := _, guard := _ }) rfl (fun K hK => ?_) AllReadyH.nil
              go_simp
              refine (HLV.out _).mono ?_
              rintro e x3 ⟨rfl, hk1⟩
              have hKeep := since_step hHeld hk1
              clear hk1
              go_wp2_with fail
              refine hK.out _ _ (by (try dsimp only); exact hKeep) (fun hHeld => ?_)
              clear hK K hKeep
              try simp only [Act.put, List.setIfInBounds_toArray, List.set_cons_zero, List.set_cons_succ]
              refine wpAnyH_take (i := 15) (oi := { dst := some 146, op := _, type := _, pos := _, after := _, guard := _ }) (v := ?_) rfl (by kernel_rfl) (by kernel_rfl) (by kernel_rfl) (fun _ _ _ h => h) (Or.inl ⟨by rfl, ?_⟩) hHeld ?_
              rotate_left
              · (intro w hSw; clear hSw; go_simp <;> with_reducible rfl)
              try simp only [Act.put, List.setIfInBounds_toArray, List.set_cons_zero, List.set_cons_succ]
              refine wpAnyH_take (i := 16) (oi := { dst := some 16, op := _, type := _, pos := _, after := _, guard := _ }) (v := ?_) rfl (by kernel_rfl) (by kernel_rfl) (by kernel_rfl) (fun _ _ _ h => h) (Or.inl ⟨by rfl, ?_⟩) hHeld ?_
              rotate_left
              · (intro w hSw; clear hSw; go_simp <;> with_reducible rfl)
              try simp only [Act.put, List.setIfInBounds_toArray, List.set_cons_zero, List.set_cons_succ]
              refine wpAnyH_done (by kernel_rfl) ?_ _
              have hC := HYC.out _ hHeld
              go_wp2_with fail
              go_ret
              exact ⟨rfl, hB.trans (hC.mono hB.size)⟩
            · have bn3 : (n3 != 0) = true := by simpa using hn3
              clear hn3 HST
              go_wp2_with fail
              refine wp_region_held_drew (S := (fun V => Below Y13.heap.size Y13 V)) (by kernel_rfl) (by exact (Below.refl _ _).drew) (fun hHeld => ?_)
              refine wpAnyH_take (i := 0) (oi := { dst := some 131, op := _, type := _, pos := _, after := _, guard := _ }) (v := ?_) rfl (by kernel_rfl) (by kernel_rfl) (by kernel_rfl) (fun _ _ _ h => h) (Or.inl ⟨by rfl, ?_⟩) hHeld ?_
              rotate_left
              · (intro w hSw; clear hSw; go_simp <;> with_reducible rfl)
              try simp only [Act.put, List.setIfInBounds_toArray, List.set_cons_zero, List.set_cons_succ]
              refine wpAnyH_take (i := 1) (oi := { dst := some 132, op := _, type := _, pos := _, after := _, guard := _ }) (v := ?_) rfl (by kernel_rfl) (by kernel_rfl) (by kernel_rfl) (fun _ _ _ h => h) (Or.inl ⟨by rfl, ?_⟩) hHeld ?_
              rotate_left
              · (intro w hSw; clear hSw; go_simp <;> with_reducible rfl)
              try simp only [Act.put, List.setIfInBounds_toArray, List.set_cons_zero, List.set_cons_succ]
              refine wpAnyH_take (i := 2) (oi := { dst := some 133, op := _, type := _, pos := _, after := _, guard := _ }) (v := ?_) rfl (by kernel_rfl) (by kernel_rfl) (by kernel_rfl) (fun _ _ _ h => h) (Or.inl ⟨by rfl, ?_⟩) hHeld ?_
              rotate_left
              · (intro w hSw; clear hSw; go_simp <;> with_reducible rfl)
              try simp only [Act.put, List.setIfInBounds_toArray, List.set_cons_zero, List.set_cons_succ]
              refine wpAnyH_take (i := 3) (oi := { dst := some 134, op := _, type := _, pos := _, after := _, guard := _ }) (v := undef) rfl (by kernel_rfl) (by kernel_rfl) (by kernel_rfl) (fun _ _ _ h => h) (Or.inr ⟨by rfl, rfl⟩) hHeld ?_
              try simp only [Act.put, List.setIfInBounds_toArray, List.set_cons_zero, List.set_cons_succ]
              refine wpAnyH_take (i := 4) (oi := { dst := some 135, op := _, type := _, pos := _, after := _, guard := _ }) (v := undef) rfl (by kernel_rfl) (by kernel_rfl) (by kernel_rfl) (fun _ _ _ h => h) (Or.inr ⟨by rfl, rfl⟩) hHeld ?_
              try simp only [Act.put, List.setIfInBounds_toArray, List.set_cons_zero, List.set_cons_succ]
              refine wpAnyH_take (i := 5) (oi := { dst := some 136, op := _, type := _, pos := _, after := _, guard := _ }) (v := undef) rfl (by kernel_rfl) (by kernel_rfl) (by kernel_rfl) (fun _ _ _ h => h) (Or.inr ⟨by rfl, rfl⟩) hHeld ?_
              try simp only [Act.put, List.setIfInBounds_toArray, List.set_cons_zero, List.set_cons_succ]
              refine wpAnyH_take (i := 6) (oi := { dst := some 137, op := _, type := _, pos := _, after := _, guard := _ }) (v := undef) rfl (by kernel_rfl) (by kernel_rfl) (by kernel_rfl) (fun _ _ _ h => h) (Or.inr ⟨by rfl, rfl⟩) hHeld ?_
              try simp only [Act.put, List.setIfInBounds_toArray, List.set_cons_zero, List.set_cons_succ]
              refine wpAnyH_take (i := 7) (oi := { dst := some 138, op := _, type := _, pos := _, after := _, guard := _ }) (v := undef) rfl (by kernel_rfl) (by kernel_rfl) (by kernel_rfl) (fun _ _ _ h => h) (Or.inr ⟨by rfl, rfl⟩) hHeld ?_
              try simp only [Act.put, List.setIfInBounds_toArray, List.set_cons_zero, List.set_cons_succ]
              refine wpAnyH_take (i := 8) (oi := { dst := some 139, op := _, type := _, pos := _, after := _, guard := _ }) (v := undef) rfl (by kernel_rfl) (by kernel_rfl) (by kernel_rfl) (fun _ _ _ h => h) (Or.inr ⟨by rfl, rfl⟩) hHeld ?_
              try simp only [Act.put, List.setIfInBounds_toArray, List.set_cons_zero, List.set_cons_succ]
              refine wpAnyH_take (i := 9) (oi := { dst := some 140, op := _, type := _, pos := _, after := _, guard := _ }) (v := undef) rfl (by kernel_rfl) (by kernel_rfl) (by kernel_rfl) (fun _ _ _ h => h) (Or.inr ⟨by rfl, rfl⟩) hHeld ?_
              try simp only [Act.put, List.setIfInBounds_toArray, List.set_cons_zero, List.set_cons_succ]
              refine wpAnyH_take (i := 10) (oi := { dst := some 141, op := _, type := _, pos := _, after := _, guard := _ }) (v := undef) rfl (by kernel_rfl) (by kernel_rfl) (by kernel_rfl) (fun _ _ _ h => h) (Or.inr ⟨by rfl, rfl⟩) hHeld ?_
              try simp only [Act.put, List.setIfInBounds_toArray, List.set_cons_zero, List.set_cons_succ]
              refine wpAnyH_take (i := 11) (oi := { dst := some 142, op := _, type := _, pos := _, after := _, guard := _ }) (v := undef) rfl (by kernel_rfl) (by kernel_rfl) (by kernel_rfl) (fun _ _ _ h => h) (Or.inr ⟨by rfl, rfl⟩) hHeld ?_
              try simp only [Act.put, List.setIfInBounds_toArray, List.set_cons_zero, List.set_cons_succ]
              refine wpAnyH_take (i := 12) (oi := { dst := some 143, op := _, type := _, pos := _, after := _, guard := _ }) (v := ?_) rfl (by kernel_rfl) (by kernel_rfl) (by kernel_rfl) (fun _ _ _ h => h) (Or.inl ⟨by rfl, ?_⟩) hHeld ?_
              rotate_left
              · (intro w hSw; clear hSw; go_simp <;> with_reducible rfl)
              try simp only [Act.put, List.setIfInBounds_toArray, List.set_cons_zero, List.set_cons_succ]
              refine wpAnyH_take (i := 13) (oi := { dst := some 144, op := _, type := _, pos := _, after := _, guard := _ }) (v := ?_) rfl (by kernel_rfl) (by kernel_rfl) (by kernel_rfl) (fun _ _ _ h => h) (Or.inl ⟨by rfl, ?_⟩) hHeld ?_
              rotate_left
              · (intro w hSw; clear hSw; go_simp <;> with_reducible rfl)
              try simp only [Act.put, List.setIfInBounds_toArray, List.set_cons_zero, List.set_cons_succ]
              refine wpAnyH_ready (rs := [14]) (by kernel_rfl) (by simp) ?_
              refine AllReadyH.cons (o := { dst := some 145, op := _, type := _, pos := _, after := _, guard := _ }) rfl (fun K hK => ?_) AllReadyH.nil
              go_simp
              refine (HLV.out _).mono ?_
              rintro e x3 ⟨rfl, hk1⟩
              have hKeep := since_step hHeld hk1
              clear hk1
              go_wp2_with fail
              refine hK.out _ _ (by (try dsimp only); exact hKeep) (fun hHeld => ?_)
              clear hK K hKeep
              try simp only [Act.put, List.setIfInBounds_toArray, List.set_cons_zero, List.set_cons_succ]
              refine wpAnyH_take (i := 15) (oi := { dst := some 146, op := _, type := _, pos := _, after := _, guard := _ }) (v := ?_) rfl (by kernel_rfl) (by kernel_rfl) (by kernel_rfl) (fun _ _ _ h => h) (Or.inl ⟨by rfl, ?_⟩) hHeld ?_
              rotate_left
              · (intro w hSw; clear hSw; go_simp <;> with_reducible rfl)
              try simp only [Act.put, List.setIfInBounds_toArray, List.set_cons_zero, List.set_cons_succ]
              refine wpAnyH_take (i := 16) (oi := { dst := some 16, op := _, type := _, pos := _, after := _, guard := _ }) (v := ?_) rfl (by kernel_rfl) (by kernel_rfl) (by kernel_rfl) (fun _ _ _ h => h) (Or.inl ⟨by rfl, ?_⟩) hHeld ?_
              rotate_left
              · (intro w hSw; clear hSw; go_simp <;> with_reducible rfl)
              try simp only [Act.put, List.setIfInBounds_toArray, List.set_cons_zero, List.set_cons_succ]
              refine wpAnyH_done (by kernel_rfl) ?_ _
              have hC := HYC.out _ hHeld
              go_wp2_with fail
              go_ret
              exact ⟨rfl, hB.trans (hC.mono hB.size)⟩
    · obtain ⟨hE1, hE2⟩ := HER.out hn
      have bn : (n != 0) = true := by simpa using hn
      subst hE1
      subst hE2
      have HM0 : Hid (m5.length ≤ 900000) := Lib.hid (by rw [D5.t.1]; simp)
      clear hn HER HBK HST HKP HOT HBB HBC HTB HTC HIB HLB HLC HVS HGB HGC HG3 HSE HA2 HA3
      obtain ⟨K6_l, K6_c⟩ := id K6
      have K6_0 := K6_c 0
      have K6_1 := K6_c 1
      simp at K6_0 K6_1
      clear K6_c
      go_wp2_with fail
      refine (plain_any _ _ _ _ _ _ _).mono ?_
      rintro e z2 ⟨rfl, hb⟩
      have hC := since_step hC hb
      have K6 := K6.below hb
      have D5 := D5.below hb
      clear hb
      clear K6_l K6_0 K6_1
      go_wp2_with fail
      refine (rdsame_self _ _ _ _ _ none 0 [] none 0 [] [] _ HM0.out (fun g h => by cases h) (by simp) D5 (Dk.nil _)).mono ?_
      rintro e z3 ⟨rfl, hb⟩
      have hC := since_step hC hb
      have D5 := D5.below hb
      clear hb
      go_wp2_with fail
      refine (HLV.out _).mono ?_
      rintro e z4 ⟨rfl, hb⟩
      have hC := since_step hC hb
      clear hb
      go_wp2_with fail
      go_ret
      exact ⟨rfl, hB.trans (hC.mono hB.size)⟩
theorem walk_DealKeeps (a0 : Option Addr) (n0 c0 : Nat) (a1 : Option Addr) (n1 c1 : Nat) (a2 : Array Value) (a3 : Array Value) (a4 : Array Value) (a5 : Array Value) (a6 : Int) (a7 : Int) (w : World) (w0 : Rd w (.sl (.cat (.cat (.int .i64) (.cat (.int .i64) .nil)) (.cat (.sl (.cat (.int .i64) (.cat (.int .i64) .nil))) .nil))) [.slice a0 n0 c0]) (w1 : Rd w (.sl (.cat (.cat (.int .i64) (.cat (.int .i64) .nil)) (.cat (.int .i64) .nil))) [.slice a1 n1 c1]) (w2 : Rd w (.cat (.int .i64) (.cat (.int .i64) (.cat (.int .i64) (.cat (.int .i64) (.cat (.sl (.int .i64)) .nil))))) a2.toList) (w3 : Rd w (.cat (.int .i64) (.cat (.int .i64) .nil)) a3.toList) (w4 : Rd w (.cat (.int .i64) (.cat (.int .i64) .nil)) a4.toList) (w5 : Rd w (.cat (.int .i64) (.cat (.int .i64) .nil)) a5.toList) (w6 : (Lit.int .i64 a6).wf = true) (w7 : (Lit.int .i64 a7).wf = true) :
    Calls Tryz.prog 4 #[.slice a0 n0 c0, .slice a1 n1 c1, .agg a2, .agg a3, .agg a4, .agg a5, .int .i64 a6, .int .i64 a7] w fun e w' => e = .returned (.bool true) ∧ Below w.heap.size w w' := by
  obtain ⟨l, rfl, _, _, hs0, hd0⟩ := rd_rowsP (f := Po.cells) (fun r => rd_posk) w0
  obtain ⟨p, hp20, hpq, hsp, HF1⟩ := rd_fws w1
  obtain ⟨i, IA, IC, e2, hi0⟩ := rd_inst w2
  obtain ⟨fa, fc, e3, hfa, hfc⟩ := rd_unv w3
  obtain ⟨ta, tc, e4, hta, htc⟩ := rd_unv w4
  obtain ⟨oa, oc, e5, hoa, hoc⟩ := rd_unv w5
  rw [e2, e3, e4, e5]
  exact dealkeeps_any a0 c0 l a1 n1 c1 p i IA IC fa fc ta tc oa oc a6 a7 w hs0 hd0 hp20 hpq hsp HF1 hi0 ⟨hfa, hfc⟩ ⟨hta, htc⟩ ⟨hoa, hoc⟩ (bd_i64 w6) (bd_i64 w7)
end Go.Proofs.YtahdmomadbbhoaaGreat
end
