import Derived.Test.YtahdmomadbbhoaaGreatDk48
section
namespace Go.Proofs.YtahdmomadbbhoaaGreat
open Go.ChangeShapes Go.WideShapes Go.ChangeAt Go.RowKit
set_option linter.unusedVariables false
set_option linter.unusedSimpArgs false

set_option maxHeartbeats 32000000 in
set_option maxRecDepth 100000 in
theorem dealnets_any (a0 : Option Addr) (c0 : Nat) (l : List Po) (a1 : Option Addr) (n1 c1 : Nat) (p : List Fw) (i : Ins) (IA : Option Addr) (IC : Nat) (fa fc ta tc q buy sell : Int) (w : World) (hs0 : Sl w a0 (rc Po.cells l)) (hd0 : ∀ g ∈ l, InK w g) (hp20 : p.length ≤ 20) (hpq : ∀ x ∈ p, Fw.in_ x) (hsp : Sl w a1 (rc Fw.cells p)) (HF1 : Hid (∀ V, Below w.heap.size w V → Calls Tryz.prog 29 #[.slice a1 n1 c1] V fun e w' => e = .returned (.slice a1 p.length c1) ∧ Below V.heap.size V w')) (hi0 : InsAt w i IA IC) (hf : In64 fa ∧ In64 fc) (ht : In64 ta ∧ In64 tc) (h_q : In64 q) (h_buy : In64 buy) (h_sell : In64 sell) :
    Calls Tryz.prog 5 #[.slice a0 l.length c0, .slice a1 n1 c1, insV i IA IC, .agg #[.int .i64 fa, .int .i64 fc], .agg #[.int .i64 ta, .int .i64 tc], .int .i64 q, .int .i64 buy, .int .i64 sell] w fun e w' => e = .returned (.bool true) ∧ Below w.heap.size w w' := by
  have hB0 := since_alloc (since_alloc (since_alloc (Below.refl _ w) (.cells #[.int .i64 i.id, .int .i64 i.mult, .int .i64 i.price, .int .i64 i.nxt, .slice IA i.mv.length IC] 26)) (.cells #[.int .i64 fa, .int .i64 fc] 28)) (.cells #[.int .i64 ta, .int .i64 tc] 28)
  have KI := (((IX.new w i IA IC 26).below ((Below.refl _ _).alloc (Nat.le_refl _) (.cells #[.int .i64 fa, .int .i64 fc] 28))).below ((Below.refl _ _).alloc (Nat.le_refl _) (.cells #[.int .i64 ta, .int .i64 tc] 28)))
  have KF := ((Bk.new (w.alloc (.cells #[.int .i64 i.id, .int .i64 i.mult, .int .i64 i.price, .int .i64 i.nxt, .slice IA i.mv.length IC] 26)) #[.int .i64 fa, .int .i64 fc] 28).below ((Below.refl _ _).alloc (Nat.le_refl _) (.cells #[.int .i64 ta, .int .i64 tc] 28)))
  rw [World.size_alloc] at KF
  have KT := (Bk.new ((w.alloc (.cells #[.int .i64 i.id, .int .i64 i.mult, .int .i64 i.price, .int .i64 i.nxt, .slice IA i.mv.length IC] 26)).alloc (.cells #[.int .i64 fa, .int .i64 fc] 28)) #[.int .i64 ta, .int .i64 tc] 28)
  rw [World.size_alloc, World.size_alloc] at KT
  have HFW := Lib.hid (fun V (h : Below w.heap.size w V) => few21v_any a0 c0 l a1 n1 c1 p w V h (hs0.below h) hd0 (Lib.hid fun V' h' => HF1.out V' (since_step h h')))
  unfold FewDV at HFW
  have hON := fun V (h : Below w.heap.size w V) => one21_any i IA IC V (hi0.below h)
  have hj := InsAt.one hi0
  have HSP : Hid (∀ V, Below w.heap.size w V → Sl V a1 (rc Fw.cells p)) := Lib.hid fun V h => hsp.below h
  unfold insV at hON ⊢
  generalize oneI i = j at *
  have HON := Lib.hid hON
  have HIJ : Hid (∀ V, Below w.heap.size w V → InsAt V j IA IC) := Lib.hid fun V h => hj.below h
  have hj6 := hj.n64
  clear hs0 hd0 hsp HF1 hi0 hON hj
  go_enter Tryz.func5, Tryz.ntmps5
  go_upto_region 1 with fail
  generalize hWW : (((w.alloc (.cells #[.int .i64 i.id, .int .i64 i.mult, .int .i64 i.price, .int .i64 i.nxt, .slice IA i.mv.length IC] 26)).alloc (.cells #[.int .i64 fa, .int .i64 fc] 28)).alloc (.cells #[.int .i64 ta, .int .i64 tc] 28)) = W at *
  clear hWW
  go_cut [17] (fun s17 wx => ∃ (g : Nat) (R : List Po) (cs : List Pc) (A' : Option Addr) (c' : Nat), s17 = .pointer (some ⟨g, 0, none⟩) ∧ Bk wx g #[.slice A' R.length c', .slice a1 p.length c1] ∧ Bk wx w.heap.size #[.int .i64 j.id, .int .i64 j.mult, .int .i64 j.price, .int .i64 j.nxt, .slice IA j.mv.length IC] ∧ Bk wx (w.heap.size + 1) #[.int .i64 fa, .int .i64 fc] ∧ Bk wx (w.heap.size + 1 + 1) #[.int .i64 ta, .int .i64 tc] ∧ Sl wx A' (rc Po.cells R) ∧ PoTab w R cs ∧ R.length ≤ 12 ∧ GoodH cs ∧ KeysH cs ∧ Below w.heap.size w wx)
  case first =>
    focus
      have KI := KI.below (Below.refl _ W).drew
      have KF := KF.below (Below.refl _ W).drew
      have KT := KT.below (Below.refl _ W).drew
      go_wp2_with fail
      refine wp_region_held_drew (S := (fun V => Below w.heap.size w V)) (by kernel_rfl) (by exact hB0.drew) (fun hHeld => ?_)
      generalize W.drew = VD at *
      refine wpAnyH_take (i := 0) (oi := { dst := some 23, op := _, type := _, pos := _, after := _, guard := _ }) (v := ?_) rfl (by kernel_rfl) (by kernel_rfl) (by kernel_rfl) (fun _ _ _ h => h) (Or.inl ⟨by rfl, ?_⟩) hHeld ?_
      rotate_left
      · (intro w hSw; clear hSw; go_simp <;> with_reducible rfl)
      try simp only [Act.put, List.setIfInBounds_toArray, List.set_cons_zero, List.set_cons_succ]
      refine wpAnyH_take (i := 1) (oi := { dst := some 24, op := _, type := _, pos := _, after := _, guard := _ }) (v := ?_) rfl (by kernel_rfl) (by kernel_rfl) (by kernel_rfl) (fun _ _ _ h => h) (Or.inl ⟨by rfl, ?_⟩) hHeld ?_
      rotate_left
      · (intro w hSw; clear hSw; go_simp <;> with_reducible rfl)
      try simp only [Act.put, List.setIfInBounds_toArray, List.set_cons_zero, List.set_cons_succ]
      refine wpAnyH_ready (rs := [2, 3, 5]) (by kernel_rfl) (by simp) ?_
      refine AllReadyH.cons (o := { dst := some 25, op := _, type := _, pos := _, after := _, guard := _ }) rfl (fun K hK => ?_) (AllReadyH.cons (o := { dst := some 26, op := _, type := _, pos := _, after := _, guard := _ }) rfl (fun K hK => ?_) (AllReadyH.cons (o := { dst := some 17, op := _, type := _, pos := _, after := _, guard := _ }) rfl (fun K hK => ?_) AllReadyH.nil))
      · go_simp
        refine (HFW.out _ hHeld).mono ?_
        rintro e x1 ⟨⟨R, cs, A', c', rfl, ownR, htR, hR, hg, hk⟩, hk1⟩
        have hKeep := since_step hHeld hk1
        have HL := Lies.of_own ownR
        have HQ := Lib.hid (And.intro htR (And.intro hR (And.intro hg hk)))
        clear ownR htR hR hg hk
        have hB9 := Nat.lt_succ_of_le hHeld.size
        have KI := KI.below hk1
        have KF := KF.below hk1
        have KT := KT.below hk1
        clear hk1
        go_wp2_with fail
        refine hK.out _ _ (by (try dsimp only); exact hKeep) (fun hHeld => ?_)
        clear hK K hKeep
        try simp only [Act.put, List.setIfInBounds_toArray, List.set_cons_zero, List.set_cons_succ]
        refine wpAnyH_ready (rs := [3, 5]) (by kernel_rfl) (by simp) ?_
        refine AllReadyH.cons (o := { dst := some 26, op := _, type := _, pos := _, after := _, guard := _ }) rfl (fun K hK => ?_) (AllReadyH.cons (o := { dst := some 17, op := _, type := _, pos := _, after := _, guard := _ }) rfl (fun K hK => ?_) AllReadyH.nil)
        · have hHd := hHeld
          skip
          obtain ⟨q_, ⟨r0, r1, r2, r3, r4⟩, q__⟩ := KI.got
          have hKeep := hHeld
          go_simp
          refine hK.out _ _ (by (try dsimp only); exact hKeep) (fun hHeld => ?_)
          clear hK K hKeep
          try simp only [Act.put, List.setIfInBounds_toArray, List.set_cons_zero, List.set_cons_succ]
          refine wpAnyH_ready (rs := [4, 5]) (by kernel_rfl) (by simp) ?_
          refine AllReadyH.cons (o := { dst := some 27, op := _, type := _, pos := _, after := _, guard := _ }) rfl (fun K hK => ?_) (AllReadyH.cons (o := { dst := some 17, op := _, type := _, pos := _, after := _, guard := _ }) rfl (fun K hK => ?_) AllReadyH.nil)
          · go_simp
            refine (HON.out _ hHeld).mono ?_
            rintro e x2 ⟨rfl, hk2⟩
            have hKeep := since_step hHeld hk2
            have KI := KI.below hk2
            have KF := KF.below hk2
            have KT := KT.below hk2
            have HL := HL.below hk2
            clear hk2
            go_wp2_with fail
            refine hK.out _ _ (by (try dsimp only); exact hKeep) (fun hHeld => ?_)
            clear hK K hKeep
            try simp only [Act.put, List.setIfInBounds_toArray, List.set_cons_zero, List.set_cons_succ]
            refine wpAnyH_ready (rs := [5]) (by kernel_rfl) (by simp) ?_
            refine AllReadyH.cons (o := { dst := some 17, op := _, type := _, pos := _, after := _, guard := _ }) rfl (fun K hK => ?_) AllReadyH.nil
            have hHd := hHeld
            skip
            have hg5 : w.heap.size + 1 + 1 < x2.heap.size := by have h := KT.1; exact h
            have X5 := DB.new x2 30
            have hHp := hHeld
            have hKeep := since_alloc hHeld (.cells #[.slice none 0 0, .slice none 0 0] 30)
            go_simp
            refine hK.out _ _ (by (try dsimp only); exact hKeep) (fun hHeld => ?_)
            clear hK K hKeep
            try simp only [Act.put, List.setIfInBounds_toArray, List.set_cons_zero, List.set_cons_succ]
            refine wpAnyH_ready (rs := [6]) (by kernel_rfl) (by simp) ?_
            refine AllReadyH.cons (o := { dst := none, op := _, type := _, pos := _, after := _, guard := _ }) rfl (fun K hK => ?_) AllReadyH.nil
            have hHd := hHeld
            skip
            obtain ⟨y0, y1, y2, y3, y4⟩ := X5.got
            have D5 := Bk.new x2 #[.slice A' R.length c', .slice a1 p.length c1] 30
            have hA := (Below.refl x2.heap.size x2).alloc (Nat.le_refl _) (.cells #[.slice A' R.length c', .slice a1 p.length c1] 30)
            have KI := KI.below hA
            have KF := KF.below hA
            have KT := KT.below hA
            have HL := HL.below hA
            clear hA
            have hKeep := since_alloc hHp (.cells #[.slice A' R.length c', .slice a1 p.length c1] 30)
            skip
            go_simp
            refine hK.out _ _ (by (try dsimp only); exact hKeep) (fun hHeld => ?_)
            clear hK K hKeep
            try simp only [Act.put, List.setIfInBounds_toArray, List.set_cons_zero, List.set_cons_succ]
            refine wpAnyH_ready (rs := [7]) (by kernel_rfl) (by simp) ?_
            refine AllReadyH.cons (o := { dst := none, op := _, type := _, pos := _, after := _, guard := _ }) rfl (fun K hK => ?_) AllReadyH.nil
            have hHd := hHeld
            skip
            obtain ⟨q_, ⟨r0, r1, r2, r3, r4⟩, ⟨s0, s1, s2, s3, s4⟩⟩ := KI.got
            have D0 := KI.set (.int .i64 j.id) (.int .i64 j.mult) (.int .i64 j.price) (.int .i64 j.nxt) (.slice IA j.mv.length IC)
            have KF := KF.far2 (p := ⟨w.heap.size, 0, none⟩) (by show w.heap.size ≠ w.heap.size + 1; omega) (.int .i64 j.id)
            have KT := KT.far2 (p := ⟨w.heap.size, 0, none⟩) (by show w.heap.size ≠ w.heap.size + 1 + 1; omega) (.int .i64 j.id)
            have D5 := D5.far2 (p := ⟨w.heap.size, 0, none⟩) (by show w.heap.size ≠ x2.heap.size; omega) (.int .i64 j.id)
            have HL := HL.set (p := ⟨w.heap.size, 0, none⟩) (.inl hB9) (.int .i64 j.id)
            have KF := KF.far2 (p := ⟨w.heap.size, 1, none⟩) (by show w.heap.size ≠ w.heap.size + 1; omega) (.int .i64 j.mult)
            have KT := KT.far2 (p := ⟨w.heap.size, 1, none⟩) (by show w.heap.size ≠ w.heap.size + 1 + 1; omega) (.int .i64 j.mult)
            have D5 := D5.far2 (p := ⟨w.heap.size, 1, none⟩) (by show w.heap.size ≠ x2.heap.size; omega) (.int .i64 j.mult)
            have HL := HL.set (p := ⟨w.heap.size, 1, none⟩) (.inl hB9) (.int .i64 j.mult)
            have KF := KF.far2 (p := ⟨w.heap.size, 2, none⟩) (by show w.heap.size ≠ w.heap.size + 1; omega) (.int .i64 j.price)
            have KT := KT.far2 (p := ⟨w.heap.size, 2, none⟩) (by show w.heap.size ≠ w.heap.size + 1 + 1; omega) (.int .i64 j.price)
            have D5 := D5.far2 (p := ⟨w.heap.size, 2, none⟩) (by show w.heap.size ≠ x2.heap.size; omega) (.int .i64 j.price)
            have HL := HL.set (p := ⟨w.heap.size, 2, none⟩) (.inl hB9) (.int .i64 j.price)
            have KF := KF.far2 (p := ⟨w.heap.size, 3, none⟩) (by show w.heap.size ≠ w.heap.size + 1; omega) (.int .i64 j.nxt)
            have KT := KT.far2 (p := ⟨w.heap.size, 3, none⟩) (by show w.heap.size ≠ w.heap.size + 1 + 1; omega) (.int .i64 j.nxt)
            have D5 := D5.far2 (p := ⟨w.heap.size, 3, none⟩) (by show w.heap.size ≠ x2.heap.size; omega) (.int .i64 j.nxt)
            have HL := HL.set (p := ⟨w.heap.size, 3, none⟩) (.inl hB9) (.int .i64 j.nxt)
            have KF := KF.far2 (p := ⟨w.heap.size, 4, none⟩) (by show w.heap.size ≠ w.heap.size + 1; omega) (.slice IA j.mv.length IC)
            have KT := KT.far2 (p := ⟨w.heap.size, 4, none⟩) (by show w.heap.size ≠ w.heap.size + 1 + 1; omega) (.slice IA j.mv.length IC)
            have D5 := D5.far2 (p := ⟨w.heap.size, 4, none⟩) (by show w.heap.size ≠ x2.heap.size; omega) (.slice IA j.mv.length IC)
            have HL := HL.set (p := ⟨w.heap.size, 4, none⟩) (.inl hB9) (.slice IA j.mv.length IC)
            have hKeep := (Below.setCell (Below.setCell (Below.setCell (Below.setCell (Below.setCell hHeld (p := ⟨w.heap.size, 0, none⟩) (Nat.le_refl _) (.int .i64 j.id)) (p := ⟨w.heap.size, 1, none⟩) (Nat.le_refl _) (.int .i64 j.mult)) (p := ⟨w.heap.size, 2, none⟩) (Nat.le_refl _) (.int .i64 j.price)) (p := ⟨w.heap.size, 3, none⟩) (Nat.le_refl _) (.int .i64 j.nxt)) (p := ⟨w.heap.size, 4, none⟩) (Nat.le_refl _) (.slice IA j.mv.length IC))
            skip
            go_simp
            refine hK.out _ _ (by (try dsimp only); exact hKeep) (fun hHeld => ?_)
            clear hK K hKeep
            try simp only [Act.put, List.setIfInBounds_toArray, List.set_cons_zero, List.set_cons_succ]
            refine wpAnyH_done (by kernel_rfl) ?_ _
            go_wp2_with fail
            go_meet
            case rel => exact ⟨_, R, cs, A', c', rfl, D5, D0, KF, KT, HL.1, HQ.out.1, HQ.out.2.1, HQ.out.2.2.1, HQ.out.2.2.2, hHeld⟩
          · have hHd := hHeld
            skip
            have hg5 : w.heap.size + 1 + 1 < x1.heap.size := by have h := KT.1; exact h
            have X5 := DB.new x1 30
            have hHp := hHeld
            have hA := (Below.refl x1.heap.size x1).alloc (Nat.le_refl _) (.cells #[.slice none 0 0, .slice none 0 0] 30)
            have KI := KI.below hA
            have KF := KF.below hA
            have KT := KT.below hA
            have HL := HL.below hA
            clear hA
            have hX5 : x1.heap.size ≤ x1.heap.size := Nat.le_refl _
            have hKeep := since_alloc hHeld (.cells #[.slice none 0 0, .slice none 0 0] 30)
            go_simp
            refine hK.out _ _ (by (try dsimp only); exact hKeep) (fun hHeld => ?_)
            clear hK K hKeep
            try simp only [Act.put, List.setIfInBounds_toArray, List.set_cons_zero, List.set_cons_succ]
            refine wpAnyH_ready (rs := [4]) (by kernel_rfl) (by simp) ?_
            refine AllReadyH.cons (o := { dst := some 27, op := _, type := _, pos := _, after := _, guard := _ }) rfl (fun K hK => ?_) AllReadyH.nil
            go_simp
            refine (HON.out _ hHeld).mono ?_
            rintro e x2 ⟨rfl, hk2⟩
            have hKeep := since_step hHeld hk2
            have KI := KI.below hk2
            have KF := KF.below hk2
            have KT := KT.below hk2
            have HL := HL.below hk2
            have X5 := X5.below hk2
            clear hk2
            go_wp2_with fail
            refine hK.out _ _ (by (try dsimp only); exact hKeep) (fun hHeld => ?_)
            clear hK K hKeep
            try simp only [Act.put, List.setIfInBounds_toArray, List.set_cons_zero, List.set_cons_succ]
            refine wpAnyH_ready (rs := [6]) (by kernel_rfl) (by simp) ?_
            refine AllReadyH.cons (o := { dst := none, op := _, type := _, pos := _, after := _, guard := _ }) rfl (fun K hK => ?_) AllReadyH.nil
            have hHd := hHeld
            skip
            obtain ⟨y0, y1, y2, y3, y4⟩ := X5.got
            have D5 := X5.set (.slice A' R.length c') (.slice a1 p.length c1)
            have KI := KI.far (p := ⟨x1.heap.size, 0, none⟩) (by show x1.heap.size ≠ w.heap.size; omega) (.slice A' R.length c')
            have KF := KF.far2 (p := ⟨x1.heap.size, 0, none⟩) (by show x1.heap.size ≠ w.heap.size + 1; omega) (.slice A' R.length c')
            have KT := KT.far2 (p := ⟨x1.heap.size, 0, none⟩) (by show x1.heap.size ≠ w.heap.size + 1 + 1; omega) (.slice A' R.length c')
            have HL := HL.set (p := ⟨x1.heap.size, 0, none⟩) (.inr hX5) (.slice A' R.length c')
            have KI := KI.far (p := ⟨x1.heap.size, 1, none⟩) (by show x1.heap.size ≠ w.heap.size; omega) (.slice a1 p.length c1)
            have KF := KF.far2 (p := ⟨x1.heap.size, 1, none⟩) (by show x1.heap.size ≠ w.heap.size + 1; omega) (.slice a1 p.length c1)
            have KT := KT.far2 (p := ⟨x1.heap.size, 1, none⟩) (by show x1.heap.size ≠ w.heap.size + 1 + 1; omega) (.slice a1 p.length c1)
            have HL := HL.set (p := ⟨x1.heap.size, 1, none⟩) (.inr hX5) (.slice a1 p.length c1)
            have hgw : w.heap.size ≤ x1.heap.size := by omega
            have hKeep := Below.setCell (Below.setCell hHeld (p := ⟨x1.heap.size, 0, none⟩) hgw (.slice A' R.length c')) (p := ⟨x1.heap.size, 1, none⟩) hgw (.slice a1 p.length c1)
            skip
            go_simp
            refine hK.out _ _ (by (try dsimp only); exact hKeep) (fun hHeld => ?_)
            clear hK K hKeep
            try simp only [Act.put, List.setIfInBounds_toArray, List.set_cons_zero, List.set_cons_succ]
            refine wpAnyH_ready (rs := [7]) (by kernel_rfl) (by simp) ?_
            refine AllReadyH.cons (o := { dst := none, op := _, type := _, pos := _, after := _, guard := _ }) rfl (fun K hK => ?_) AllReadyH.nil
            have hHd := hHeld
            skip
            obtain ⟨q_, ⟨r0, r1, r2, r3, r4⟩, ⟨s0, s1, s2, s3, s4⟩⟩ := KI.got
            have D0 := KI.set (.int .i64 j.id) (.int .i64 j.mult) (.int .i64 j.price) (.int .i64 j.nxt) (.slice IA j.mv.length IC)
            have KF := KF.far2 (p := ⟨w.heap.size, 0, none⟩) (by show w.heap.size ≠ w.heap.size + 1; omega) (.int .i64 j.id)
            have KT := KT.far2 (p := ⟨w.heap.size, 0, none⟩) (by show w.heap.size ≠ w.heap.size + 1 + 1; omega) (.int .i64 j.id)
            have D5 := D5.far2 (p := ⟨w.heap.size, 0, none⟩) (by show w.heap.size ≠ x1.heap.size; omega) (.int .i64 j.id)
            have HL := HL.set (p := ⟨w.heap.size, 0, none⟩) (.inl hB9) (.int .i64 j.id)
            have KF := KF.far2 (p := ⟨w.heap.size, 1, none⟩) (by show w.heap.size ≠ w.heap.size + 1; omega) (.int .i64 j.mult)
            have KT := KT.far2 (p := ⟨w.heap.size, 1, none⟩) (by show w.heap.size ≠ w.heap.size + 1 + 1; omega) (.int .i64 j.mult)
            have D5 := D5.far2 (p := ⟨w.heap.size, 1, none⟩) (by show w.heap.size ≠ x1.heap.size; omega) (.int .i64 j.mult)
            have HL := HL.set (p := ⟨w.heap.size, 1, none⟩) (.inl hB9) (.int .i64 j.mult)
            have KF := KF.far2 (p := ⟨w.heap.size, 2, none⟩) (by show w.heap.size ≠ w.heap.size + 1; omega) (.int .i64 j.price)
            have KT := KT.far2 (p := ⟨w.heap.size, 2, none⟩) (by show w.heap.size ≠ w.heap.size + 1 + 1; omega) (.int .i64 j.price)
            have D5 := D5.far2 (p := ⟨w.heap.size, 2, none⟩) (by show w.heap.size ≠ x1.heap.size; omega) (.int .i64 j.price)
            have HL := HL.set (p := ⟨w.heap.size, 2, none⟩) (.inl hB9) (.int .i64 j.price)
            have KF := KF.far2 (p := ⟨w.heap.size, 3, none⟩) (by show w.heap.size ≠ w.heap.size + 1; omega) (.int .i64 j.nxt)
            have KT := KT.far2 (p := ⟨w.heap.size, 3, none⟩) (by show w.heap.size ≠ w.heap.size + 1 + 1; omega) (.int .i64 j.nxt)
            have D5 := D5.far2 (p := ⟨w.heap.size, 3, none⟩) (by show w.heap.size ≠ x1.heap.size; omega) (.int .i64 j.nxt)
            have HL := HL.set (p := ⟨w.heap.size, 3, none⟩) (.inl hB9) (.int .i64 j.nxt)
            have KF := KF.far2 (p := ⟨w.heap.size, 4, none⟩) (by show w.heap.size ≠ w.heap.size + 1; omega) (.slice IA j.mv.length IC)
            have KT := KT.far2 (p := ⟨w.heap.size, 4, none⟩) (by show w.heap.size ≠ w.heap.size + 1 + 1; omega) (.slice IA j.mv.length IC)
            have D5 := D5.far2 (p := ⟨w.heap.size, 4, none⟩) (by show w.heap.size ≠ x1.heap.size; omega) (.slice IA j.mv.length IC)
            have HL := HL.set (p := ⟨w.heap.size, 4, none⟩) (.inl hB9) (.slice IA j.mv.length IC)
            have hKeep := (Below.setCell (Below.setCell (Below.setCell (Below.setCell (Below.setCell hHeld (p := ⟨w.heap.size, 0, none⟩) (Nat.le_refl _) (.int .i64 j.id)) (p := ⟨w.heap.size, 1, none⟩) (Nat.le_refl _) (.int .i64 j.mult)) (p := ⟨w.heap.size, 2, none⟩) (Nat.le_refl _) (.int .i64 j.price)) (p := ⟨w.heap.size, 3, none⟩) (Nat.le_refl _) (.int .i64 j.nxt)) (p := ⟨w.heap.size, 4, none⟩) (Nat.le_refl _) (.slice IA j.mv.length IC))
            skip
            go_simp
            refine hK.out _ _ (by (try dsimp only); exact hKeep) (fun hHeld => ?_)
            clear hK K hKeep
            try simp only [Act.put, List.setIfInBounds_toArray, List.set_cons_zero, List.set_cons_succ]
            refine wpAnyH_done (by kernel_rfl) ?_ _
            go_wp2_with fail
            go_meet
            case rel => exact ⟨_, R, cs, A', c', rfl, D5, D0, KF, KT, HL.1, HQ.out.1, HQ.out.2.1, HQ.out.2.2.1, HQ.out.2.2.2, hHeld⟩
        · have hHd := hHeld
          skip
          have hg5 : w.heap.size + 1 + 1 < x1.heap.size := by have h := KT.1; exact h
          have X5 := DB.new x1 30
          have hHp := hHeld
          have hA := (Below.refl x1.heap.size x1).alloc (Nat.le_refl _) (.cells #[.slice none 0 0, .slice none 0 0] 30)
          have KI := KI.below hA
          have KF := KF.below hA
          have KT := KT.below hA
          have HL := HL.below hA
          clear hA
          have hX5 : x1.heap.size ≤ x1.heap.size := Nat.le_refl _
          have hKeep := since_alloc hHeld (.cells #[.slice none 0 0, .slice none 0 0] 30)
          go_simp
          refine hK.out _ _ (by (try dsimp only); exact hKeep) (fun hHeld => ?_)
          clear hK K hKeep
          try simp only [Act.put, List.setIfInBounds_toArray, List.set_cons_zero, List.set_cons_succ]
          refine wpAnyH_ready (rs := [3]) (by kernel_rfl) (by simp) ?_
          refine AllReadyH.cons (o := { dst := some 26, op := _, type := _, pos := _, after := _, guard := _ }) rfl (fun K hK => ?_) AllReadyH.nil
          have hHd := hHeld
          skip
          obtain ⟨q_, ⟨r0, r1, r2, r3, r4⟩, q__⟩ := KI.got
          have hKeep := hHeld
          go_simp
          refine hK.out _ _ (by (try dsimp only); exact hKeep) (fun hHeld => ?_)
          clear hK K hKeep
          try simp only [Act.put, List.setIfInBounds_toArray, List.set_cons_zero, List.set_cons_succ]
          refine wpAnyH_ready (rs := [4]) (by kernel_rfl) (by simp) ?_
          refine AllReadyH.cons (o := { dst := some 27, op := _, type := _, pos := _, after := _, guard := _ }) rfl (fun K hK => ?_) AllReadyH.nil
          go_simp
          refine (HON.out _ hHeld).mono ?_
          rintro e x2 ⟨rfl, hk2⟩
          have hKeep := since_step hHeld hk2
          have KI := KI.below hk2
          have KF := KF.below hk2
          have KT := KT.below hk2
          have HL := HL.below hk2
          have X5 := X5.below hk2
          clear hk2
          go_wp2_with fail
          refine hK.out _ _ (by (try dsimp only); exact hKeep) (fun hHeld => ?_)
          clear hK K hKeep
          try simp only [Act.put, List.setIfInBounds_toArray, List.set_cons_zero, List.set_cons_succ]
          refine wpAnyH_ready (rs := [6]) (by kernel_rfl) (by simp) ?_
          refine AllReadyH.cons (o := { dst := none, op := _, type := _, pos := _, after := _, guard := _ }) rfl (fun K hK => ?_) AllReadyH.nil
          have hHd := hHeld
          skip
          obtain ⟨y0, y1, y2, y3, y4⟩ := X5.got
          have D5 := X5.set (.slice A' R.length c') (.slice a1 p.length c1)
          have KI := KI.far (p := ⟨x1.heap.size, 0, none⟩) (by show x1.heap.size ≠ w.heap.size; omega) (.slice A' R.length c')
          have KF := KF.far2 (p := ⟨x1.heap.size, 0, none⟩) (by show x1.heap.size ≠ w.heap.size + 1; omega) (.slice A' R.length c')
          have KT := KT.far2 (p := ⟨x1.heap.size, 0, none⟩) (by show x1.heap.size ≠ w.heap.size + 1 + 1; omega) (.slice A' R.length c')
          have HL := HL.set (p := ⟨x1.heap.size, 0, none⟩) (.inr hX5) (.slice A' R.length c')
          have KI := KI.far (p := ⟨x1.heap.size, 1, none⟩) (by show x1.heap.size ≠ w.heap.size; omega) (.slice a1 p.length c1)
          have KF := KF.far2 (p := ⟨x1.heap.size, 1, none⟩) (by show x1.heap.size ≠ w.heap.size + 1; omega) (.slice a1 p.length c1)
          have KT := KT.far2 (p := ⟨x1.heap.size, 1, none⟩) (by show x1.heap.size ≠ w.heap.size + 1 + 1; omega) (.slice a1 p.length c1)
          have HL := HL.set (p := ⟨x1.heap.size, 1, none⟩) (.inr hX5) (.slice a1 p.length c1)
          have hgw : w.heap.size ≤ x1.heap.size := by omega
          have hKeep := Below.setCell (Below.setCell hHeld (p := ⟨x1.heap.size, 0, none⟩) hgw (.slice A' R.length c')) (p := ⟨x1.heap.size, 1, none⟩) hgw (.slice a1 p.length c1)
          skip
          go_simp
          refine hK.out _ _ (by (try dsimp only); exact hKeep) (fun hHeld => ?_)
          clear hK K hKeep
          try simp only [Act.put, List.setIfInBounds_toArray, List.set_cons_zero, List.set_cons_succ]
          refine wpAnyH_ready (rs := [7]) (by kernel_rfl) (by simp) ?_
          refine AllReadyH.cons (o := { dst := none, op := _, type := _, pos := _, after := _, guard := _ }) rfl (fun K hK => ?_) AllReadyH.nil
          have hHd := hHeld
          skip
          obtain ⟨q_, ⟨r0, r1, r2, r3, r4⟩, ⟨s0, s1, s2, s3, s4⟩⟩ := KI.got
          have D0 := KI.set (.int .i64 j.id) (.int .i64 j.mult) (.int .i64 j.price) (.int .i64 j.nxt) (.slice IA j.mv.length IC)
          have KF := KF.far2 (p := ⟨w.heap.size, 0, none⟩) (by show w.heap.size ≠ w.heap.size + 1; omega) (.int .i64 j.id)
          have KT := KT.far2 (p := ⟨w.heap.size, 0, none⟩) (by show w.heap.size ≠ w.heap.size + 1 + 1; omega) (.int .i64 j.id)
          have D5 := D5.far2 (p := ⟨w.heap.size, 0, none⟩) (by show w.heap.size ≠ x1.heap.size; omega) (.int .i64 j.id)
          have HL := HL.set (p := ⟨w.heap.size, 0, none⟩) (.inl hB9) (.int .i64 j.id)
          have KF := KF.far2 (p := ⟨w.heap.size, 1, none⟩) (by show w.heap.size ≠ w.heap.size + 1; omega) (.int .i64 j.mult)
          have KT := KT.far2 (p := ⟨w.heap.size, 1, none⟩) (by show w.heap.size ≠ w.heap.size + 1 + 1; omega) (.int .i64 j.mult)
          have D5 := D5.far2 (p := ⟨w.heap.size, 1, none⟩) (by show w.heap.size ≠ x1.heap.size; omega) (.int .i64 j.mult)
          have HL := HL.set (p := ⟨w.heap.size, 1, none⟩) (.inl hB9) (.int .i64 j.mult)
          have KF := KF.far2 (p := ⟨w.heap.size, 2, none⟩) (by show w.heap.size ≠ w.heap.size + 1; omega) (.int .i64 j.price)
          have KT := KT.far2 (p := ⟨w.heap.size, 2, none⟩) (by show w.heap.size ≠ w.heap.size + 1 + 1; omega) (.int .i64 j.price)
          have D5 := D5.far2 (p := ⟨w.heap.size, 2, none⟩) (by show w.heap.size ≠ x1.heap.size; omega) (.int .i64 j.price)
          have HL := HL.set (p := ⟨w.heap.size, 2, none⟩) (.inl hB9) (.int .i64 j.price)
          have KF := KF.far2 (p := ⟨w.heap.size, 3, none⟩) (by show w.heap.size ≠ w.heap.size + 1; omega) (.int .i64 j.nxt)
          have KT := KT.far2 (p := ⟨w.heap.size, 3, none⟩) (by show w.heap.size ≠ w.heap.size + 1 + 1; omega) (.int .i64 j.nxt)
          have D5 := D5.far2 (p := ⟨w.heap.size, 3, none⟩) (by show w.heap.size ≠ x1.heap.size; omega) (.int .i64 j.nxt)
          have HL := HL.set (p := ⟨w.heap.size, 3, none⟩) (.inl hB9) (.int .i64 j.nxt)
          have KF := KF.far2 (p := ⟨w.heap.size, 4, none⟩) (by show w.heap.size ≠ w.heap.size + 1; omega) (.slice IA j.mv.length IC)
          have KT := KT.far2 (p := ⟨w.heap.size, 4, none⟩) (by show w.heap.size ≠ w.heap.size + 1 + 1; omega) (.slice IA j.mv.length IC)
          have D5 := D5.far2 (p := ⟨w.heap.size, 4, none⟩) (by show w.heap.size ≠ x1.heap.size; omega) (.slice IA j.mv.length IC)
          have HL := HL.set (p := ⟨w.heap.size, 4, none⟩) (.inl hB9) (.slice IA j.mv.length IC)
          have hKeep := (Below.setCell (Below.setCell (Below.setCell (Below.setCell (Below.setCell hHeld (p := ⟨w.heap.size, 0, none⟩) (Nat.le_refl _) (.int .i64 j.id)) (p := ⟨w.heap.size, 1, none⟩) (Nat.le_refl _) (.int .i64 j.mult)) (p := ⟨w.heap.size, 2, none⟩) (Nat.le_refl _) (.int .i64 j.price)) (p := ⟨w.heap.size, 3, none⟩) (Nat.le_refl _) (.int .i64 j.nxt)) (p := ⟨w.heap.size, 4, none⟩) (Nat.le_refl _) (.slice IA j.mv.length IC))
          skip
          go_simp
          refine hK.out _ _ (by (try dsimp only); exact hKeep) (fun hHeld => ?_)
          clear hK K hKeep
          try simp only [Act.put, List.setIfInBounds_toArray, List.set_cons_zero, List.set_cons_succ]
          refine wpAnyH_done (by kernel_rfl) ?_ _
          go_wp2_with fail
          go_meet
          case rel => exact ⟨_, R, cs, A', c', rfl, D5, D0, KF, KT, HL.1, HQ.out.1, HQ.out.2.1, HQ.out.2.2.1, HQ.out.2.2.2, hHeld⟩
      · have hHd := hHeld
        skip
        obtain ⟨q_, ⟨r0, r1, r2, r3, r4⟩, q__⟩ := KI.got
        have hKeep := hHeld
        go_simp
        refine hK.out _ _ (by (try dsimp only); exact hKeep) (fun hHeld => ?_)
        clear hK K hKeep
        try simp only [Act.put, List.setIfInBounds_toArray, List.set_cons_zero, List.set_cons_succ]
        refine wpAnyH_ready (rs := [2, 5]) (by kernel_rfl) (by simp) ?_
        refine AllReadyH.cons (o := { dst := some 25, op := _, type := _, pos := _, after := _, guard := _ }) rfl (fun K hK => ?_) (AllReadyH.cons (o := { dst := some 17, op := _, type := _, pos := _, after := _, guard := _ }) rfl (fun K hK => ?_) AllReadyH.nil)
        · go_simp
          refine (HFW.out _ hHeld).mono ?_
          rintro e x1 ⟨⟨R, cs, A', c', rfl, ownR, htR, hR, hg, hk⟩, hk1⟩
          have hKeep := since_step hHeld hk1
          have HL := Lies.of_own ownR
          have HQ := Lib.hid (And.intro htR (And.intro hR (And.intro hg hk)))
          clear ownR htR hR hg hk
          have hB9 := Nat.lt_succ_of_le hHeld.size
          have KI := KI.below hk1
          have KF := KF.below hk1
          have KT := KT.below hk1
          clear hk1
          go_wp2_with fail
          refine hK.out _ _ (by (try dsimp only); exact hKeep) (fun hHeld => ?_)
          clear hK K hKeep
          try simp only [Act.put, List.setIfInBounds_toArray, List.set_cons_zero, List.set_cons_succ]
          refine wpAnyH_ready (rs := [4, 5]) (by kernel_rfl) (by simp) ?_
          refine AllReadyH.cons (o := { dst := some 27, op := _, type := _, pos := _, after := _, guard := _ }) rfl (fun K hK => ?_) (AllReadyH.cons (o := { dst := some 17, op := _, type := _, pos := _, after := _, guard := _ }) rfl (fun K hK => ?_) AllReadyH.nil)
          · go_simp
            refine (HON.out _ hHeld).mono ?_
            rintro e x2 ⟨rfl, hk2⟩
            have hKeep := since_step hHeld hk2
            have KI := KI.below hk2
            have KF := KF.below hk2
            have KT := KT.below hk2
            have HL := HL.below hk2
            clear hk2
            go_wp2_with fail
            refine hK.out _ _ (by (try dsimp only); exact hKeep) (fun hHeld => ?_)
            clear hK K hKeep
            try simp only [Act.put, List.setIfInBounds_toArray, List.set_cons_zero, List.set_cons_succ]
            refine wpAnyH_ready (rs := [5]) (by kernel_rfl) (by simp) ?_
            refine AllReadyH.cons (o := { dst := some 17, op := _, type := _, pos := _, after := _, guard := _ }) rfl (fun K hK => ?_) AllReadyH.nil
            have hHd := hHeld
            skip
            have hg5 : w.heap.size + 1 + 1 < x2.heap.size := by have h := KT.1; exact h
            have X5 := DB.new x2 30
            have hHp := hHeld
            have hKeep := since_alloc hHeld (.cells #[.slice none 0 0, .slice none 0 0] 30)
            go_simp
            refine hK.out _ _ (by (try dsimp only); exact hKeep) (fun hHeld => ?_)
            clear hK K hKeep
            try simp only [Act.put, List.setIfInBounds_toArray, List.set_cons_zero, List.set_cons_succ]
            refine wpAnyH_ready (rs := [6]) (by kernel_rfl) (by simp) ?_
            refine AllReadyH.cons (o := { dst := none, op := _, type := _, pos := _, after := _, guard := _ }) rfl (fun K hK => ?_) AllReadyH.nil
            have hHd := hHeld
            skip
            obtain ⟨y0, y1, y2, y3, y4⟩ := X5.got
            have D5 := Bk.new x2 #[.slice A' R.length c', .slice a1 p.length c1] 30
            have hA := (Below.refl x2.heap.size x2).alloc (Nat.le_refl _) (.cells #[.slice A' R.length c', .slice a1 p.length c1] 30)
            have KI := KI.below hA
            have KF := KF.below hA
            have KT := KT.below hA
            have HL := HL.below hA
            clear hA
            have hKeep := since_alloc hHp (.cells #[.slice A' R.length c', .slice a1 p.length c1] 30)
            skip
            go_simp
            refine hK.out _ _ (by (try dsimp only); exact hKeep) (fun hHeld => ?_)
            clear hK K hKeep
            try simp only [Act.put, List.setIfInBounds_toArray, List.set_cons_zero, List.set_cons_succ]
            refine wpAnyH_ready (rs := [7]) (by kernel_rfl) (by simp) ?_
            refine AllReadyH.cons (o := { dst := none, op := _, type := _, pos := _, after := _, guard := _ }) rfl (fun K hK => ?_) AllReadyH.nil
            have hHd := hHeld
            skip
            obtain ⟨q_, ⟨r0, r1, r2, r3, r4⟩, ⟨s0, s1, s2, s3, s4⟩⟩ := KI.got
            have D0 := KI.set (.int .i64 j.id) (.int .i64 j.mult) (.int .i64 j.price) (.int .i64 j.nxt) (.slice IA j.mv.length IC)
            have KF := KF.far2 (p := ⟨w.heap.size, 0, none⟩) (by show w.heap.size ≠ w.heap.size + 1; omega) (.int .i64 j.id)
            have KT := KT.far2 (p := ⟨w.heap.size, 0, none⟩) (by show w.heap.size ≠ w.heap.size + 1 + 1; omega) (.int .i64 j.id)
            have D5 := D5.far2 (p := ⟨w.heap.size, 0, none⟩) (by show w.heap.size ≠ x2.heap.size; omega) (.int .i64 j.id)
            have HL := HL.set (p := ⟨w.heap.size, 0, none⟩) (.inl hB9) (.int .i64 j.id)
            have KF := KF.far2 (p := ⟨w.heap.size, 1, none⟩) (by show w.heap.size ≠ w.heap.size + 1; omega) (.int .i64 j.mult)
            have KT := KT.far2 (p := ⟨w.heap.size, 1, none⟩) (by show w.heap.size ≠ w.heap.size + 1 + 1; omega) (.int .i64 j.mult)
            have D5 := D5.far2 (p := ⟨w.heap.size, 1, none⟩) (by show w.heap.size ≠ x2.heap.size; omega) (.int .i64 j.mult)
            have HL := HL.set (p := ⟨w.heap.size, 1, none⟩) (.inl hB9) (.int .i64 j.mult)
            have KF := KF.far2 (p := ⟨w.heap.size, 2, none⟩) (by show w.heap.size ≠ w.heap.size + 1; omega) (.int .i64 j.price)
            have KT := KT.far2 (p := ⟨w.heap.size, 2, none⟩) (by show w.heap.size ≠ w.heap.size + 1 + 1; omega) (.int .i64 j.price)
            have D5 := D5.far2 (p := ⟨w.heap.size, 2, none⟩) (by show w.heap.size ≠ x2.heap.size; omega) (.int .i64 j.price)
            have HL := HL.set (p := ⟨w.heap.size, 2, none⟩) (.inl hB9) (.int .i64 j.price)
            have KF := KF.far2 (p := ⟨w.heap.size, 3, none⟩) (by show w.heap.size ≠ w.heap.size + 1; omega) (.int .i64 j.nxt)
            have KT := KT.far2 (p := ⟨w.heap.size, 3, none⟩) (by show w.heap.size ≠ w.heap.size + 1 + 1; omega) (.int .i64 j.nxt)
            have D5 := D5.far2 (p := ⟨w.heap.size, 3, none⟩) (by show w.heap.size ≠ x2.heap.size; omega) (.int .i64 j.nxt)
            have HL := HL.set (p := ⟨w.heap.size, 3, none⟩) (.inl hB9) (.int .i64 j.nxt)
            have KF := KF.far2 (p := ⟨w.heap.size, 4, none⟩) (by show w.heap.size ≠ w.heap.size + 1; omega) (.slice IA j.mv.length IC)
            have KT := KT.far2 (p := ⟨w.heap.size, 4, none⟩) (by show w.heap.size ≠ w.heap.size + 1 + 1; omega) (.slice IA j.mv.length IC)
            have D5 := D5.far2 (p := ⟨w.heap.size, 4, none⟩) (by show w.heap.size ≠ x2.heap.size; omega) (.slice IA j.mv.length IC)
            have HL := HL.set (p := ⟨w.heap.size, 4, none⟩) (.inl hB9) (.slice IA j.mv.length IC)
            have hKeep := (Below.setCell (Below.setCell (Below.setCell (Below.setCell (Below.setCell hHeld (p := ⟨w.heap.size, 0, none⟩) (Nat.le_refl _) (.int .i64 j.id)) (p := ⟨w.heap.size, 1, none⟩) (Nat.le_refl _) (.int .i64 j.mult)) (p := ⟨w.heap.size, 2, none⟩) (Nat.le_refl _) (.int .i64 j.price)) (p := ⟨w.heap.size, 3, none⟩) (Nat.le_refl _) (.int .i64 j.nxt)) (p := ⟨w.heap.size, 4, none⟩) (Nat.le_refl _) (.slice IA j.mv.length IC))
            skip
            go_simp
            refine hK.out _ _ (by (try dsimp only); exact hKeep) (fun hHeld => ?_)
            clear hK K hKeep
            try simp only [Act.put, List.setIfInBounds_toArray, List.set_cons_zero, List.set_cons_succ]
            refine wpAnyH_done (by kernel_rfl) ?_ _
            go_wp2_with fail
            go_meet
            case rel => exact ⟨_, R, cs, A', c', rfl, D5, D0, KF, KT, HL.1, HQ.out.1, HQ.out.2.1, HQ.out.2.2.1, HQ.out.2.2.2, hHeld⟩
          · have hHd := hHeld
            skip
            have hg5 : w.heap.size + 1 + 1 < x1.heap.size := by have h := KT.1; exact h
            have X5 := DB.new x1 30
            have hHp := hHeld
            have hA := (Below.refl x1.heap.size x1).alloc (Nat.le_refl _) (.cells #[.slice none 0 0, .slice none 0 0] 30)
            have KI := KI.below hA
            have KF := KF.below hA
            have KT := KT.below hA
            have HL := HL.below hA
            clear hA
            have hX5 : x1.heap.size ≤ x1.heap.size := Nat.le_refl _
            have hKeep := since_alloc hHeld (.cells #[.slice none 0 0, .slice none 0 0] 30)
            go_simp
            refine hK.out _ _ (by (try dsimp only); exact hKeep) (fun hHeld => ?_)
            clear hK K hKeep
            try simp only [Act.put, List.setIfInBounds_toArray, List.set_cons_zero, List.set_cons_succ]
            refine wpAnyH_ready (rs := [4]) (by kernel_rfl) (by simp) ?_
            refine AllReadyH.cons (o := { dst := some 27, op := _, type := _, pos := _, after := _, guard := _ }) rfl (fun K hK => ?_) AllReadyH.nil
            go_simp
            refine (HON.out _ hHeld).mono ?_
            rintro e x2 ⟨rfl, hk2⟩
            have hKeep := since_step hHeld hk2
            have KI := KI.below hk2
            have KF := KF.below hk2
            have KT := KT.below hk2
            have HL := HL.below hk2
            have X5 := X5.below hk2
            clear hk2
            go_wp2_with fail
            refine hK.out _ _ (by (try dsimp only); exact hKeep) (fun hHeld => ?_)
            clear hK K hKeep
            try simp only [Act.put, List.setIfInBounds_toArray, List.set_cons_zero, List.set_cons_succ]
            refine wpAnyH_ready (rs := [6]) (by kernel_rfl) (by simp) ?_
            refine AllReadyH.cons (o := { dst := none, op := _, type := _, pos := _, after := _, guard := _ }) rfl (fun K hK => ?_) AllReadyH.nil
            have hHd := hHeld
            skip
            obtain ⟨y0, y1, y2, y3, y4⟩ := X5.got
            have D5 := X5.set (.slice A' R.length c') (.slice a1 p.length c1)
            have KI := KI.far (p := ⟨x1.heap.size, 0, none⟩) (by show x1.heap.size ≠ w.heap.size; omega) (.slice A' R.length c')
            have KF := KF.far2 (p := ⟨x1.heap.size, 0, none⟩) (by show x1.heap.size ≠ w.heap.size + 1; omega) (.slice A' R.length c')
            have KT := KT.far2 (p := ⟨x1.heap.size, 0, none⟩) (by show x1.heap.size ≠ w.heap.size + 1 + 1; omega) (.slice A' R.length c')
            have HL := HL.set (p := ⟨x1.heap.size, 0, none⟩) (.inr hX5) (.slice A' R.length c')
            have KI := KI.far (p := ⟨x1.heap.size, 1, none⟩) (by show x1.heap.size ≠ w.heap.size; omega) (.slice a1 p.length c1)
            have KF := KF.far2 (p := ⟨x1.heap.size, 1, none⟩) (by show x1.heap.size ≠ w.heap.size + 1; omega) (.slice a1 p.length c1)
            have KT := KT.far2 (p := ⟨x1.heap.size, 1, none⟩) (by show x1.heap.size ≠ w.heap.size + 1 + 1; omega) (.slice a1 p.length c1)
            have HL := HL.set (p := ⟨x1.heap.size, 1, none⟩) (.inr hX5) (.slice a1 p.length c1)
            have hgw : w.heap.size ≤ x1.heap.size := by omega
            have hKeep := Below.setCell (Below.setCell hHeld (p := ⟨x1.heap.size, 0, none⟩) hgw (.slice A' R.length c')) (p := ⟨x1.heap.size, 1, none⟩) hgw (.slice a1 p.length c1)
            skip
            go_simp
            refine hK.out _ _ (by (try dsimp only); exact hKeep) (fun hHeld => ?_)
            clear hK K hKeep
            try simp only [Act.put, List.setIfInBounds_toArray, List.set_cons_zero, List.set_cons_succ]
            refine wpAnyH_ready (rs := [7]) (by kernel_rfl) (by simp) ?_
            refine AllReadyH.cons (o := { dst := none, op := _, type := _, pos := _, after := _, guard := _ }) rfl (fun K hK => ?_) AllReadyH.nil
            have hHd := hHeld
            skip
            obtain ⟨q_, ⟨r0, r1, r2, r3, r4⟩, ⟨s0, s1, s2, s3, s4⟩⟩ := KI.got
            have D0 := KI.set (.int .i64 j.id) (.int .i64 j.mult) (.int .i64 j.price) (.int .i64 j.nxt) (.slice IA j.mv.length IC)
            have KF := KF.far2 (p := ⟨w.heap.size, 0, none⟩) (by show w.heap.size ≠ w.heap.size + 1; omega) (.int .i64 j.id)
            have KT := KT.far2 (p := ⟨w.heap.size, 0, none⟩) (by show w.heap.size ≠ w.heap.size + 1 + 1; omega) (.int .i64 j.id)
            have D5 := D5.far2 (p := ⟨w.heap.size, 0, none⟩) (by show w.heap.size ≠ x1.heap.size; omega) (.int .i64 j.id)
            have HL := HL.set (p := ⟨w.heap.size, 0, none⟩) (.inl hB9) (.int .i64 j.id)
            have KF := KF.far2 (p := ⟨w.heap.size, 1, none⟩) (by show w.heap.size ≠ w.heap.size + 1; omega) (.int .i64 j.mult)
            have KT := KT.far2 (p := ⟨w.heap.size, 1, none⟩) (by show w.heap.size ≠ w.heap.size + 1 + 1; omega) (.int .i64 j.mult)
            have D5 := D5.far2 (p := ⟨w.heap.size, 1, none⟩) (by show w.heap.size ≠ x1.heap.size; omega) (.int .i64 j.mult)
            have HL := HL.set (p := ⟨w.heap.size, 1, none⟩) (.inl hB9) (.int .i64 j.mult)
            have KF := KF.far2 (p := ⟨w.heap.size, 2, none⟩) (by show w.heap.size ≠ w.heap.size + 1; omega) (.int .i64 j.price)
            have KT := KT.far2 (p := ⟨w.heap.size, 2, none⟩) (by show w.heap.size ≠ w.heap.size + 1 + 1; omega) (.int .i64 j.price)
            have D5 := D5.far2 (p := ⟨w.heap.size, 2, none⟩) (by show w.heap.size ≠ x1.heap.size; omega) (.int .i64 j.price)
            have HL := HL.set (p := ⟨w.heap.size, 2, none⟩) (.inl hB9) (.int .i64 j.price)
            have KF := KF.far2 (p := ⟨w.heap.size, 3, none⟩) (by show w.heap.size ≠ w.heap.size + 1; omega) (.int .i64 j.nxt)
            have KT := KT.far2 (p := ⟨w.heap.size, 3, none⟩) (by show w.heap.size ≠ w.heap.size + 1 + 1; omega) (.int .i64 j.nxt)
            have D5 := D5.far2 (p := ⟨w.heap.size, 3, none⟩) (by show w.heap.size ≠ x1.heap.size; omega) (.int .i64 j.nxt)
            have HL := HL.set (p := ⟨w.heap.size, 3, none⟩) (.inl hB9) (.int .i64 j.nxt)
            have KF := KF.far2 (p := ⟨w.heap.size, 4, none⟩) (by show w.heap.size ≠ w.heap.size + 1; omega) (.slice IA j.mv.length IC)
            have KT := KT.far2 (p := ⟨w.heap.size, 4, none⟩) (by show w.heap.size ≠ w.heap.size + 1 + 1; omega) (.slice IA j.mv.length IC)
            have D5 := D5.far2 (p := ⟨w.heap.size, 4, none⟩) (by show w.heap.size ≠ x1.heap.size; omega) (.slice IA j.mv.length IC)
            have HL := HL.set (p := ⟨w.heap.size, 4, none⟩) (.inl hB9) (.slice IA j.mv.length IC)
            have hKeep := (Below.setCell (Below.setCell (Below.setCell (Below.setCell (Below.setCell hHeld (p := ⟨w.heap.size, 0, none⟩) (Nat.le_refl _) (.int .i64 j.id)) (p := ⟨w.heap.size, 1, none⟩) (Nat.le_refl _) (.int .i64 j.mult)) (p := ⟨w.heap.size, 2, none⟩) (Nat.le_refl _) (.int .i64 j.price)) (p := ⟨w.heap.size, 3, none⟩) (Nat.le_refl _) (.int .i64 j.nxt)) (p := ⟨w.heap.size, 4, none⟩) (Nat.le_refl _) (.slice IA j.mv.length IC))
            skip
            go_simp
            refine hK.out _ _ (by (try dsimp only); exact hKeep) (fun hHeld => ?_)
            clear hK K hKeep
            try simp only [Act.put, List.setIfInBounds_toArray, List.set_cons_zero, List.set_cons_succ]
            refine wpAnyH_done (by kernel_rfl) ?_ _
            go_wp2_with fail
            go_meet
            case rel => exact ⟨_, R, cs, A', c', rfl, D5, D0, KF, KT, HL.1, HQ.out.1, HQ.out.2.1, HQ.out.2.2.1, HQ.out.2.2.2, hHeld⟩
        · have hHd := hHeld
          skip
          have hg5 : w.heap.size + 1 + 1 < VD.heap.size := by have h := KT.1; exact h
          have X5 := DB.new VD 30
          have hHp := hHeld
          have hA := (Below.refl VD.heap.size VD).alloc (Nat.le_refl _) (.cells #[.slice none 0 0, .slice none 0 0] 30)
          have KI := KI.below hA
          have KF := KF.below hA
          have KT := KT.below hA
          clear hA
          have hKeep := since_alloc hHeld (.cells #[.slice none 0 0, .slice none 0 0] 30)
          go_simp
          refine hK.out _ _ (by (try dsimp only); exact hKeep) (fun hHeld => ?_)
          clear hK K hKeep
          try simp only [Act.put, List.setIfInBounds_toArray, List.set_cons_zero, List.set_cons_succ]
          refine wpAnyH_ready (rs := [2]) (by kernel_rfl) (by simp) ?_
          refine AllReadyH.cons (o := { dst := some 25, op := _, type := _, pos := _, after := _, guard := _ }) rfl (fun K hK => ?_) AllReadyH.nil
          go_simp
          refine (HFW.out _ hHeld).mono ?_
          rintro e x1 ⟨⟨R, cs, A', c', rfl, ownR, htR, hR, hg, hk⟩, hk1⟩
          have hKeep := since_step hHeld hk1
          have HL := Lies.of_own ownR
          have HQ := Lib.hid (And.intro htR (And.intro hR (And.intro hg hk)))
          clear ownR htR hR hg hk
          have hB9 := Nat.lt_succ_of_le hHeld.size
          have hX5 := Nat.lt_succ_of_lt X5.1.1
          have KI := KI.below hk1
          have KF := KF.below hk1
          have KT := KT.below hk1
          have X5 := X5.below hk1
          clear hk1
          go_wp2_with fail
          refine hK.out _ _ (by (try dsimp only); exact hKeep) (fun hHeld => ?_)
          clear hK K hKeep
          try simp only [Act.put, List.setIfInBounds_toArray, List.set_cons_zero, List.set_cons_succ]
          refine wpAnyH_ready (rs := [4]) (by kernel_rfl) (by simp) ?_
          refine AllReadyH.cons (o := { dst := some 27, op := _, type := _, pos := _, after := _, guard := _ }) rfl (fun K hK => ?_) AllReadyH.nil
          go_simp
          refine (HON.out _ hHeld).mono ?_
          rintro e x2 ⟨rfl, hk2⟩
          have hKeep := since_step hHeld hk2
          have KI := KI.below hk2
          have KF := KF.below hk2
          have KT := KT.below hk2
          have HL := HL.below hk2
          have X5 := X5.below hk2
          clear hk2
          go_wp2_with fail
          refine hK.out _ _ (by (try dsimp only); exact hKeep) (fun hHeld => ?_)
          clear hK K hKeep
          try simp only [Act.put, List.setIfInBounds_toArray, List.set_cons_zero, List.set_cons_succ]
          refine wpAnyH_ready (rs := [6]) (by kernel_rfl) (by simp) ?_
          refine AllReadyH.cons (o := { dst := none, op := _, type := _, pos := _, after := _, guard := _ }) rfl (fun K hK => ?_) AllReadyH.nil
          have hHd := hHeld
          skip
          obtain ⟨y0, y1, y2, y3, y4⟩ := X5.got
          have D5 := X5.set (.slice A' R.length c') (.slice a1 p.length c1)
          have KI := KI.far (p := ⟨VD.heap.size, 0, none⟩) (by show VD.heap.size ≠ w.heap.size; omega) (.slice A' R.length c')
          have KF := KF.far2 (p := ⟨VD.heap.size, 0, none⟩) (by show VD.heap.size ≠ w.heap.size + 1; omega) (.slice A' R.length c')
          have KT := KT.far2 (p := ⟨VD.heap.size, 0, none⟩) (by show VD.heap.size ≠ w.heap.size + 1 + 1; omega) (.slice A' R.length c')
          have HL := HL.set (p := ⟨VD.heap.size, 0, none⟩) (.inl hX5) (.slice A' R.length c')
          have KI := KI.far (p := ⟨VD.heap.size, 1, none⟩) (by show VD.heap.size ≠ w.heap.size; omega) (.slice a1 p.length c1)
          have KF := KF.far2 (p := ⟨VD.heap.size, 1, none⟩) (by show VD.heap.size ≠ w.heap.size + 1; omega) (.slice a1 p.length c1)
          have KT := KT.far2 (p := ⟨VD.heap.size, 1, none⟩) (by show VD.heap.size ≠ w.heap.size + 1 + 1; omega) (.slice a1 p.length c1)
          have HL := HL.set (p := ⟨VD.heap.size, 1, none⟩) (.inl hX5) (.slice a1 p.length c1)
          have hgw : w.heap.size ≤ VD.heap.size := by omega
          have hKeep := Below.setCell (Below.setCell hHeld (p := ⟨VD.heap.size, 0, none⟩) hgw (.slice A' R.length c')) (p := ⟨VD.heap.size, 1, none⟩) hgw (.slice a1 p.length c1)
          skip
          go_simp
          refine hK.out _ _ (by (try dsimp only); exact hKeep) (fun hHeld => ?_)
          clear hK K hKeep
          try simp only [Act.put, List.setIfInBounds_toArray, List.set_cons_zero, List.set_cons_succ]
          refine wpAnyH_ready (rs := [7]) (by kernel_rfl) (by simp) ?_
          refine AllReadyH.cons (o := { dst := none, op := _, type := _, pos := _, after := _, guard := _ }) rfl (fun K hK => ?_) AllReadyH.nil
          have hHd := hHeld
          skip
          obtain ⟨q_, ⟨r0, r1, r2, r3, r4⟩, ⟨s0, s1, s2, s3, s4⟩⟩ := KI.got
          have D0 := KI.set (.int .i64 j.id) (.int .i64 j.mult) (.int .i64 j.price) (.int .i64 j.nxt) (.slice IA j.mv.length IC)
          have KF := KF.far2 (p := ⟨w.heap.size, 0, none⟩) (by show w.heap.size ≠ w.heap.size + 1; omega) (.int .i64 j.id)
          have KT := KT.far2 (p := ⟨w.heap.size, 0, none⟩) (by show w.heap.size ≠ w.heap.size + 1 + 1; omega) (.int .i64 j.id)
          have D5 := D5.far2 (p := ⟨w.heap.size, 0, none⟩) (by show w.heap.size ≠ VD.heap.size; omega) (.int .i64 j.id)
          have HL := HL.set (p := ⟨w.heap.size, 0, none⟩) (.inl hB9) (.int .i64 j.id)
          have KF := KF.far2 (p := ⟨w.heap.size, 1, none⟩) (by show w.heap.size ≠ w.heap.size + 1; omega) (.int .i64 j.mult)
          have KT := KT.far2 (p := ⟨w.heap.size, 1, none⟩) (by show w.heap.size ≠ w.heap.size + 1 + 1; omega) (.int .i64 j.mult)
          have D5 := D5.far2 (p := ⟨w.heap.size, 1, none⟩) (by show w.heap.size ≠ VD.heap.size; omega) (.int .i64 j.mult)
          have HL := HL.set (p := ⟨w.heap.size, 1, none⟩) (.inl hB9) (.int .i64 j.mult)
          have KF := KF.far2 (p := ⟨w.heap.size, 2, none⟩) (by show w.heap.size ≠ w.heap.size + 1; omega) (.int .i64 j.price)
          have KT := KT.far2 (p := ⟨w.heap.size, 2, none⟩) (by show w.heap.size ≠ w.heap.size + 1 + 1; omega) (.int .i64 j.price)
          have D5 := D5.far2 (p := ⟨w.heap.size, 2, none⟩) (by show w.heap.size ≠ VD.heap.size; omega) (.int .i64 j.price)
          have HL := HL.set (p := ⟨w.heap.size, 2, none⟩) (.inl hB9) (.int .i64 j.price)
          have KF := KF.far2 (p := ⟨w.heap.size, 3, none⟩) (by show w.heap.size ≠ w.heap.size + 1; omega) (.int .i64 j.nxt)
          have KT := KT.far2 (p := ⟨w.heap.size, 3, none⟩) (by show w.heap.size ≠ w.heap.size + 1 + 1; omega) (.int .i64 j.nxt)
          have D5 := D5.far2 (p := ⟨w.heap.size, 3, none⟩) (by show w.heap.size ≠ VD.heap.size; omega) (.int .i64 j.nxt)
          have HL := HL.set (p := ⟨w.heap.size, 3, none⟩) (.inl hB9) (.int .i64 j.nxt)
          have KF := KF.far2 (p := ⟨w.heap.size, 4, none⟩) (by show w.heap.size ≠ w.heap.size + 1; omega) (.slice IA j.mv.length IC)
          have KT := KT.far2 (p := ⟨w.heap.size, 4, none⟩) (by show w.heap.size ≠ w.heap.size + 1 + 1; omega) (.slice IA j.mv.length IC)
          have D5 := D5.far2 (p := ⟨w.heap.size, 4, none⟩) (by show w.heap.size ≠ VD.heap.size; omega) (.slice IA j.mv.length IC)
          have HL := HL.set (p := ⟨w.heap.size, 4, none⟩) (.inl hB9) (.slice IA j.mv.length IC)
          have hKeep := (Below.setCell (Below.setCell (Below.setCell (Below.setCell (Below.setCell hHeld (p := ⟨w.heap.size, 0, none⟩) (Nat.le_refl _) (.int .i64 j.id)) (p := ⟨w.heap.size, 1, none⟩) (Nat.le_refl _) (.int .i64 j.mult)) (p := ⟨w.heap.size, 2, none⟩) (Nat.le_refl _) (.int .i64 j.price)) (p := ⟨w.heap.size, 3, none⟩) (Nat.le_refl _) (.int .i64 j.nxt)) (p := ⟨w.heap.size, 4, none⟩) (Nat.le_refl _) (.slice IA j.mv.length IC))
          skip
          go_simp
          refine hK.out _ _ (by (try dsimp only); exact hKeep) (fun hHeld => ?_)
          clear hK K hKeep
          try simp only [Act.put, List.setIfInBounds_toArray, List.set_cons_zero, List.set_cons_succ]
          refine wpAnyH_done (by kernel_rfl) ?_ _
          go_wp2_with fail
          go_meet
          case rel => exact ⟨_, R, cs, A', c', rfl, D5, D0, KF, KT, HL.1, HQ.out.1, HQ.out.2.1, HQ.out.2.2.1, HQ.out.2.2.2, hHeld⟩
      · have hHd := hHeld
        skip
        have hg5 : w.heap.size + 1 + 1 < VD.heap.size := by have h := KT.1; exact h
        have X5 := DB.new VD 30
        have hHp := hHeld
        have hA := (Below.refl VD.heap.size VD).alloc (Nat.le_refl _) (.cells #[.slice none 0 0, .slice none 0 0] 30)
        have KI := KI.below hA
        have KF := KF.below hA
        have KT := KT.below hA
        clear hA
        have hKeep := since_alloc hHeld (.cells #[.slice none 0 0, .slice none 0 0] 30)
        go_simp
        refine hK.out _ _ (by (try dsimp only); exact hKeep) (fun hHeld => ?_)
        clear hK K hKeep
        try simp only [Act.put, List.setIfInBounds_toArray, List.set_cons_zero, List.set_cons_succ]
        refine wpAnyH_ready (rs := [2, 3]) (by kernel_rfl) (by simp) ?_
        refine AllReadyH.cons (o := { dst := some 25, op := _, type := _, pos := _, after := _, guard := _ }) rfl (fun K hK => ?_) (AllReadyH.cons (o := { dst := some 26, op := _, type := _, pos := _, after := _, guard := _ }) rfl (fun K hK => ?_) AllReadyH.nil)
        · go_simp
          refine (HFW.out _ hHeld).mono ?_
          rintro e x1 ⟨⟨R, cs, A', c', rfl, ownR, htR, hR, hg, hk⟩, hk1⟩
          have hKeep := since_step hHeld hk1
          have HL := Lies.of_own ownR
          have HQ := Lib.hid (And.intro htR (And.intro hR (And.intro hg hk)))
          clear ownR htR hR hg hk
          have hB9 := Nat.lt_succ_of_le hHeld.size
          have hX5 := Nat.lt_succ_of_lt X5.1.1
          have KI := KI.below hk1
          have KF := KF.below hk1
          have KT := KT.below hk1
          have X5 := X5.below hk1
          clear hk1
          go_wp2_with fail
          refine hK.out _ _ (by (try dsimp only); exact hKeep) (fun hHeld => ?_)
          clear hK K hKeep
          try simp only [Act.put, List.setIfInBounds_toArray, List.set_cons_zero, List.set_cons_succ]
          refine wpAnyH_ready (rs := [3]) (by kernel_rfl) (by simp) ?_
          refine AllReadyH.cons (o := { dst := some 26, op := _, type := _, pos := _, after := _, guard := _ }) rfl (fun K hK => ?_) AllReadyH.nil
          have hHd := hHeld
          skip
          obtain ⟨q_, ⟨r0, r1, r2, r3, r4⟩, q__⟩ := KI.got
          have hKeep := hHeld
          go_simp
          refine hK.out _ _ (by (try dsimp only); exact hKeep) (fun hHeld => ?_)
          clear hK K hKeep
          try simp only [Act.put, List.setIfInBounds_toArray, List.set_cons_zero, List.set_cons_succ]
          refine wpAnyH_ready (rs := [4]) (by kernel_rfl) (by simp) ?_
          refine AllReadyH.cons (o := { dst := some 27, op := _, type := _, pos := _, after := _, guard := _ }) rfl (fun K hK => ?_) AllReadyH.nil
          go_simp
          refine (HON.out _ hHeld).mono ?_
          rintro e x2 ⟨rfl, hk2⟩
          have hKeep := since_step hHeld hk2
          have KI := KI.below hk2
          have KF := KF.below hk2
          have KT := KT.below hk2
          have HL := HL.below hk2
          have X5 := X5.below hk2
          clear hk2
          go_wp2_with fail
          refine hK.out _ _ (by (try dsimp only); exact hKeep) (fun hHeld => ?_)
          clear hK K hKeep
          try simp only [Act.put, List.setIfInBounds_toArray, List.set_cons_zero, List.set_cons_succ]
          refine wpAnyH_ready (rs := [6]) (by kernel_rfl) (by simp) ?_
          refine AllReadyH.cons (o := { dst := none, op := _, type := _, pos := _, after := _, guard := _ }) rfl (fun K hK => ?_) AllReadyH.nil
          have hHd := hHeld
          skip
          obtain ⟨y0, y1, y2, y3, y4⟩ := X5.got
          have D5 := X5.set (.slice A' R.length c') (.slice a1 p.length c1)
          have KI := KI.far (p := ⟨VD.heap.size, 0, none⟩) (by show VD.heap.size ≠ w.heap.size; omega) (.slice A' R.length c')
          have KF := KF.far2 (p := ⟨VD.heap.size, 0, none⟩) (by show VD.heap.size ≠ w.heap.size + 1; omega) (.slice A' R.length c')
          have KT := KT.far2 (p := ⟨VD.heap.size, 0, none⟩) (by show VD.heap.size ≠ w.heap.size + 1 + 1; omega) (.slice A' R.length c')
          have HL := HL.set (p := ⟨VD.heap.size, 0, none⟩) (.inl hX5) (.slice A' R.length c')
          have KI := KI.far (p := ⟨VD.heap.size, 1, none⟩) (by show VD.heap.size ≠ w.heap.size; omega) (.slice a1 p.length c1)
          have KF := KF.far2 (p := ⟨VD.heap.size, 1, none⟩) (by show VD.heap.size ≠ w.heap.size + 1; omega) (.slice a1 p.length c1)
          have KT := KT.far2 (p := ⟨VD.heap.size, 1, none⟩) (by show VD.heap.size ≠ w.heap.size + 1 + 1; omega) (.slice a1 p.length c1)
          have HL := HL.set (p := ⟨VD.heap.size, 1, none⟩) (.inl hX5) (.slice a1 p.length c1)
          have hgw : w.heap.size ≤ VD.heap.size := by omega
          have hKeep := Below.setCell (Below.setCell hHeld (p := ⟨VD.heap.size, 0, none⟩) hgw (.slice A' R.length c')) (p := ⟨VD.heap.size, 1, none⟩) hgw (.slice a1 p.length c1)
          skip
          go_simp
          refine hK.out _ _ (by (try dsimp only); exact hKeep) (fun hHeld => ?_)
          clear hK K hKeep
          try simp only [Act.put, List.setIfInBounds_toArray, List.set_cons_zero, List.set_cons_succ]
          refine wpAnyH_ready (rs := [7]) (by kernel_rfl) (by simp) ?_
          refine AllReadyH.cons (o := { dst := none, op := _, type := _, pos := _, after := _, guard := _ }) rfl (fun K hK => ?_) AllReadyH.nil
          have hHd := hHeld
          skip
          obtain ⟨q_, ⟨r0, r1, r2, r3, r4⟩, ⟨s0, s1, s2, s3, s4⟩⟩ := KI.got
          have D0 := KI.set (.int .i64 j.id) (.int .i64 j.mult) (.int .i64 j.price) (.int .i64 j.nxt) (.slice IA j.mv.length IC)
          have KF := KF.far2 (p := ⟨w.heap.size, 0, none⟩) (by show w.heap.size ≠ w.heap.size + 1; omega) (.int .i64 j.id)
          have KT := KT.far2 (p := ⟨w.heap.size, 0, none⟩) (by show w.heap.size ≠ w.heap.size + 1 + 1; omega) (.int .i64 j.id)
          have D5 := D5.far2 (p := ⟨w.heap.size, 0, none⟩) (by show w.heap.size ≠ VD.heap.size; omega) (.int .i64 j.id)
          have HL := HL.set (p := ⟨w.heap.size, 0, none⟩) (.inl hB9) (.int .i64 j.id)
          have KF := KF.far2 (p := ⟨w.heap.size, 1, none⟩) (by show w.heap.size ≠ w.heap.size + 1; omega) (.int .i64 j.mult)
          have KT := KT.far2 (p := ⟨w.heap.size, 1, none⟩) (by show w.heap.size ≠ w.heap.size + 1 + 1; omega) (.int .i64 j.mult)
          have D5 := D5.far2 (p := ⟨w.heap.size, 1, none⟩) (by show w.heap.size ≠ VD.heap.size; omega) (.int .i64 j.mult)
          have HL := HL.set (p := ⟨w.heap.size, 1, none⟩) (.inl hB9) (.int .i64 j.mult)
          have KF := KF.far2 (p := ⟨w.heap.size, 2, none⟩) (by show w.heap.size ≠ w.heap.size + 1; omega) (.int .i64 j.price)
          have KT := KT.far2 (p := ⟨w.heap.size, 2, none⟩) (by show w.heap.size ≠ w.heap.size + 1 + 1; omega) (.int .i64 j.price)
          have D5 := D5.far2 (p := ⟨w.heap.size, 2, none⟩) (by show w.heap.size ≠ VD.heap.size; omega) (.int .i64 j.price)
          have HL := HL.set (p := ⟨w.heap.size, 2, none⟩) (.inl hB9) (.int .i64 j.price)
          have KF := KF.far2 (p := ⟨w.heap.size, 3, none⟩) (by show w.heap.size ≠ w.heap.size + 1; omega) (.int .i64 j.nxt)
          have KT := KT.far2 (p := ⟨w.heap.size, 3, none⟩) (by show w.heap.size ≠ w.heap.size + 1 + 1; omega) (.int .i64 j.nxt)
          have D5 := D5.far2 (p := ⟨w.heap.size, 3, none⟩) (by show w.heap.size ≠ VD.heap.size; omega) (.int .i64 j.nxt)
          have HL := HL.set (p := ⟨w.heap.size, 3, none⟩) (.inl hB9) (.int .i64 j.nxt)
          have KF := KF.far2 (p := ⟨w.heap.size, 4, none⟩) (by show w.heap.size ≠ w.heap.size + 1; omega) (.slice IA j.mv.length IC)
          have KT := KT.far2 (p := ⟨w.heap.size, 4, none⟩) (by show w.heap.size ≠ w.heap.size + 1 + 1; omega) (.slice IA j.mv.length IC)
          have D5 := D5.far2 (p := ⟨w.heap.size, 4, none⟩) (by show w.heap.size ≠ VD.heap.size; omega) (.slice IA j.mv.length IC)
          have HL := HL.set (p := ⟨w.heap.size, 4, none⟩) (.inl hB9) (.slice IA j.mv.length IC)
          have hKeep := (Below.setCell (Below.setCell (Below.setCell (Below.setCell (Below.setCell hHeld (p := ⟨w.heap.size, 0, none⟩) (Nat.le_refl _) (.int .i64 j.id)) (p := ⟨w.heap.size, 1, none⟩) (Nat.le_refl _) (.int .i64 j.mult)) (p := ⟨w.heap.size, 2, none⟩) (Nat.le_refl _) (.int .i64 j.price)) (p := ⟨w.heap.size, 3, none⟩) (Nat.le_refl _) (.int .i64 j.nxt)) (p := ⟨w.heap.size, 4, none⟩) (Nat.le_refl _) (.slice IA j.mv.length IC))
          skip
          go_simp
          refine hK.out _ _ (by (try dsimp only); exact hKeep) (fun hHeld => ?_)
          clear hK K hKeep
          try simp only [Act.put, List.setIfInBounds_toArray, List.set_cons_zero, List.set_cons_succ]
          refine wpAnyH_done (by kernel_rfl) ?_ _
          go_wp2_with fail
          go_meet
          case rel => exact ⟨_, R, cs, A', c', rfl, D5, D0, KF, KT, HL.1, HQ.out.1, HQ.out.2.1, HQ.out.2.2.1, HQ.out.2.2.2, hHeld⟩
        · have hHd := hHeld
          skip
          obtain ⟨q_, ⟨r0, r1, r2, r3, r4⟩, q__⟩ := KI.got
          have hKeep := hHeld
          go_simp
          refine hK.out _ _ (by (try dsimp only); exact hKeep) (fun hHeld => ?_)
          clear hK K hKeep
          try simp only [Act.put, List.setIfInBounds_toArray, List.set_cons_zero, List.set_cons_succ]
          refine wpAnyH_ready (rs := [2]) (by kernel_rfl) (by simp) ?_
          refine AllReadyH.cons (o := { dst := some 25, op := _, type := _, pos := _, after := _, guard := _ }) rfl (fun K hK => ?_) AllReadyH.nil
          go_simp
          refine (HFW.out _ hHeld).mono ?_
          rintro e x1 ⟨⟨R, cs, A', c', rfl, ownR, htR, hR, hg, hk⟩, hk1⟩
          have hKeep := since_step hHeld hk1
          have HL := Lies.of_own ownR
          have HQ := Lib.hid (And.intro htR (And.intro hR (And.intro hg hk)))
          clear ownR htR hR hg hk
          have hB9 := Nat.lt_succ_of_le hHeld.size
          have hX5 := Nat.lt_succ_of_lt X5.1.1
          have KI := KI.below hk1
          have KF := KF.below hk1
          have KT := KT.below hk1
          have X5 := X5.below hk1
          clear hk1
          go_wp2_with fail
          refine hK.out _ _ (by (try dsimp only); exact hKeep) (fun hHeld => ?_)
          clear hK K hKeep
          try simp only [Act.put, List.setIfInBounds_toArray, List.set_cons_zero, List.set_cons_succ]
          refine wpAnyH_ready (rs := [4]) (by kernel_rfl) (by simp) ?_
          refine AllReadyH.cons (o := { dst := some 27, op := _, type := _, pos := _, after := _, guard := _ }) rfl (fun K hK => ?_) AllReadyH.nil
          go_simp
          refine (HON.out _ hHeld).mono ?_
          rintro e x2 ⟨rfl, hk2⟩
          have hKeep := since_step hHeld hk2
          have KI := KI.below hk2
          have KF := KF.below hk2
          have KT := KT.below hk2
          have HL := HL.below hk2
          have X5 := X5.below hk2
          clear hk2
          go_wp2_with fail
          refine hK.out _ _ (by (try dsimp only); exact hKeep) (fun hHeld => ?_)
          clear hK K hKeep
          try simp only [Act.put, List.setIfInBounds_toArray, List.set_cons_zero, List.set_cons_succ]
          refine wpAnyH_ready (rs := [6]) (by kernel_rfl) (by simp) ?_
          refine AllReadyH.cons (o := { dst := none, op := _, type := _, pos := _, after := _, guard := _ }) rfl (fun K hK => ?_) AllReadyH.nil
          have hHd := hHeld
          skip
          obtain ⟨y0, y1, y2, y3, y4⟩ := X5.got
          have D5 := X5.set (.slice A' R.length c') (.slice a1 p.length c1)
          have KI := KI.far (p := ⟨VD.heap.size, 0, none⟩) (by show VD.heap.size ≠ w.heap.size; omega) (.slice A' R.length c')
          have KF := KF.far2 (p := ⟨VD.heap.size, 0, none⟩) (by show VD.heap.size ≠ w.heap.size + 1; omega) (.slice A' R.length c')
          have KT := KT.far2 (p := ⟨VD.heap.size, 0, none⟩) (by show VD.heap.size ≠ w.heap.size + 1 + 1; omega) (.slice A' R.length c')
          have HL := HL.set (p := ⟨VD.heap.size, 0, none⟩) (.inl hX5) (.slice A' R.length c')
          have KI := KI.far (p := ⟨VD.heap.size, 1, none⟩) (by show VD.heap.size ≠ w.heap.size; omega) (.slice a1 p.length c1)
          have KF := KF.far2 (p := ⟨VD.heap.size, 1, none⟩) (by show VD.heap.size ≠ w.heap.size + 1; omega) (.slice a1 p.length c1)
          have KT := KT.far2 (p := ⟨VD.heap.size, 1, none⟩) (by show VD.heap.size ≠ w.heap.size + 1 + 1; omega) (.slice a1 p.length c1)
          have HL := HL.set (p := ⟨VD.heap.size, 1, none⟩) (.inl hX5) (.slice a1 p.length c1)
          have hgw : w.heap.size ≤ VD.heap.size := by omega
          have hKeep := Below.setCell (Below.setCell hHeld (p := ⟨VD.heap.size, 0, none⟩) hgw (.slice A' R.length c')) (p := ⟨VD.heap.size, 1, none⟩) hgw (.slice a1 p.length c1)
          skip
          go_simp
          refine hK.out _ _ (by (try dsimp only); exact hKeep) (fun hHeld => ?_)
          clear hK K hKeep
          try simp only [Act.put, List.setIfInBounds_toArray, List.set_cons_zero, List.set_cons_succ]
          refine wpAnyH_ready (rs := [7]) (by kernel_rfl) (by simp) ?_
          refine AllReadyH.cons (o := { dst := none, op := _, type := _, pos := _, after := _, guard := _ }) rfl (fun K hK => ?_) AllReadyH.nil
          have hHd := hHeld
          skip
          obtain ⟨q_, ⟨r0, r1, r2, r3, r4⟩, ⟨s0, s1, s2, s3, s4⟩⟩ := KI.got
          have D0 := KI.set (.int .i64 j.id) (.int .i64 j.mult) (.int .i64 j.price) (.int .i64 j.nxt) (.slice IA j.mv.length IC)
          have KF := KF.far2 (p := ⟨w.heap.size, 0, none⟩) (by show w.heap.size ≠ w.heap.size + 1; omega) (.int .i64 j.id)
          have KT := KT.far2 (p := ⟨w.heap.size, 0, none⟩) (by show w.heap.size ≠ w.heap.size + 1 + 1; omega) (.int .i64 j.id)
          have D5 := D5.far2 (p := ⟨w.heap.size, 0, none⟩) (by show w.heap.size ≠ VD.heap.size; omega) (.int .i64 j.id)
          have HL := HL.set (p := ⟨w.heap.size, 0, none⟩) (.inl hB9) (.int .i64 j.id)
          have KF := KF.far2 (p := ⟨w.heap.size, 1, none⟩) (by show w.heap.size ≠ w.heap.size + 1; omega) (.int .i64 j.mult)
          have KT := KT.far2 (p := ⟨w.heap.size, 1, none⟩) (by show w.heap.size ≠ w.heap.size + 1 + 1; omega) (.int .i64 j.mult)
          have D5 := D5.far2 (p := ⟨w.heap.size, 1, none⟩) (by show w.heap.size ≠ VD.heap.size; omega) (.int .i64 j.mult)
          have HL := HL.set (p := ⟨w.heap.size, 1, none⟩) (.inl hB9) (.int .i64 j.mult)
          have KF := KF.far2 (p := ⟨w.heap.size, 2, none⟩) (by show w.heap.size ≠ w.heap.size + 1; omega) (.int .i64 j.price)
          have KT := KT.far2 (p := ⟨w.heap.size, 2, none⟩) (by show w.heap.size ≠ w.heap.size + 1 + 1; omega) (.int .i64 j.price)
          have D5 := D5.far2 (p := ⟨w.heap.size, 2, none⟩) (by show w.heap.size ≠ VD.heap.size; omega) (.int .i64 j.price)
          have HL := HL.set (p := ⟨w.heap.size, 2, none⟩) (.inl hB9) (.int .i64 j.price)
          have KF := KF.far2 (p := ⟨w.heap.size, 3, none⟩) (by show w.heap.size ≠ w.heap.size + 1; omega) (.int .i64 j.nxt)
          have KT := KT.far2 (p := ⟨w.heap.size, 3, none⟩) (by show w.heap.size ≠ w.heap.size + 1 + 1; omega) (.int .i64 j.nxt)
          have D5 := D5.far2 (p := ⟨w.heap.size, 3, none⟩) (by show w.heap.size ≠ VD.heap.size; omega) (.int .i64 j.nxt)
          have HL := HL.set (p := ⟨w.heap.size, 3, none⟩) (.inl hB9) (.int .i64 j.nxt)
          have KF := KF.far2 (p := ⟨w.heap.size, 4, none⟩) (by show w.heap.size ≠ w.heap.size + 1; omega) (.slice IA j.mv.length IC)
          have KT := KT.far2 (p := ⟨w.heap.size, 4, none⟩) (by show w.heap.size ≠ w.heap.size + 1 + 1; omega) (.slice IA j.mv.length IC)
          have D5 := D5.far2 (p := ⟨w.heap.size, 4, none⟩) (by show w.heap.size ≠ VD.heap.size; omega) (.slice IA j.mv.length IC)
          have HL := HL.set (p := ⟨w.heap.size, 4, none⟩) (.inl hB9) (.slice IA j.mv.length IC)
          have hKeep := (Below.setCell (Below.setCell (Below.setCell (Below.setCell (Below.setCell hHeld (p := ⟨w.heap.size, 0, none⟩) (Nat.le_refl _) (.int .i64 j.id)) (p := ⟨w.heap.size, 1, none⟩) (Nat.le_refl _) (.int .i64 j.mult)) (p := ⟨w.heap.size, 2, none⟩) (Nat.le_refl _) (.int .i64 j.price)) (p := ⟨w.heap.size, 3, none⟩) (Nat.le_refl _) (.int .i64 j.nxt)) (p := ⟨w.heap.size, 4, none⟩) (Nat.le_refl _) (.slice IA j.mv.length IC))
          skip
          go_simp
          refine hK.out _ _ (by (try dsimp only); exact hKeep) (fun hHeld => ?_)
          clear hK K hKeep
          try simp only [Act.put, List.setIfInBounds_toArray, List.set_cons_zero, List.set_cons_succ]
          refine wpAnyH_done (by kernel_rfl) ?_ _
          go_wp2_with fail
          go_meet
          case rel => exact ⟨_, R, cs, A', c', rfl, D5, D0, KF, KT, HL.1, HQ.out.1, HQ.out.2.1, HQ.out.2.2.1, HQ.out.2.2.2, hHeld⟩
  case rest =>
    have HLV := Lib.hid (fun V => lives21_any V)
    obtain ⟨g, R, cs, A', c', rfl, KD, KI, KF, KT, hsR, htR, hR, hgd, hky, hB⟩ := hcut
    generalize hw1 : wc = y0 at *
    clear hw1
    have D0 : Dk y0 A' R cs a1 p := ⟨hsR, htR.below hB, HSP.out _ hB⟩
    have HJW : Hid (∀ V, Below y0.heap.size y0 V → InsAt V j IA IC) := Lib.hid fun V h => HIJ.out _ (hB.trans (h.mono hB.size))
    have HDW : Hid (∀ V, Below y0.heap.size y0 V → Dk V A' R cs a1 p) := Lib.hid fun V h => D0.below h
    have hR8 : R.length ≤ 800000 := by omega
    have hcsn : cs.length ≤ 12 := by have := htR.1; omega
    have hcl4 : ∀ g ∈ cs, g.L.length ≤ 400000 := fun g hg => Nat.le_trans (hgd.1 g hg) (by omega)
    have hcl9 : ∀ g ∈ cs, g.L.length ≤ 900000 := fun g hg => Nat.le_trans (hgd.1 g hg) (by omega)
    clear hsR htR HFW HON HSP HIJ D0 hB0
    have HAT := Lib.hid (fun V (h : Below y0.heap.size y0 V) => dat_any A' c' R cs a1 c1 p j IA IC fa fc ta tc q buy V hR8 hcl4 hgd.2 (by omega) hpq ⟨hf.1, hf.2, ht.1, ht.2⟩ h_q h_buy (HDW.out V h) (HJW.out V h))
    obtain ⟨n, B, P, hT⟩ : ∃ n B P, dealR cs p j fa fc ta tc q buy = (n, B, P) := ⟨_, _, _, rfl⟩
    obtain ⟨hbB, hbP, hbL⟩ := deal_bd hgd.1 hT
    have hB6 := deal_in6 hgd.2 hT
    have hP6 := deal_inF hpq ⟨hf.1, hf.2, ht.1, ht.2⟩ hT
    rw [hT] at HAT
    simp only at HAT
    unfold DRes insV at HAT
    have hB4 : ∀ g ∈ B, g.L.length ≤ 400000 := fun g hg => Nat.le_trans (hbL g hg) (by omega)
    have HA2 := Lib.hid (fun A1 k1 m1 A2 k2 V (hm : m1.length ≤ 800000) (hd : Dk V A1 m1 B A2 P) (h : Below y0.heap.size y0 V) => dat_any A1 k1 m1 B A2 k2 P j IA IC ta tc fa fc q sell V hm hB4 hB6 (by omega) hP6 ⟨ht.1, ht.2, hf.1, hf.2⟩ h_q h_sell hd (HJW.out V h))
    obtain ⟨n2, B2, P2, hT2⟩ : ∃ n' B' P', dealR B P j ta tc fa fc q sell = (n', B', P') := ⟨_, _, _, rfl⟩
    obtain ⟨hbB2, hbP2, hbL2⟩ := deal_bd hbL hT2
    rw [hT2] at HA2
    simp only at HA2
    unfold DRes insV at HA2
    have HB14 : Hid (B.length ≤ 14) := Lib.hid (by omega)
    have HNT : Hid (n = 0 → n2 = 0 → B2 = cs ∧ getF P2 ta tc - getF p ta tc = q * j.mult * (sell - buy)) := Lib.hid fun h1 h2 => by subst h1; subst h2; exact deal_nets hT hT2
    have HSM := Lib.hid (fun A1 k1 m1 V (hm : m1.length ≤ 900000) h1 h2 (h : Below y0.heap.size y0 V) => rhsame_self A1 k1 m1 A' c' R cs V hm hcl9 h1 h2 (HDW.out V h).s (HDW.out V h).t)
    have HG2 := Lib.hid (fun A1 k1 V h => pget_any A1 k1 P2 ta tc V (by omega) h)
    have HG1 := Lib.hid (fun V (h : Below y0.heap.size y0 V) => pget_any a1 c1 p ta tc V (by omega) (HDW.out V h).f)
    have hg2 := getF_in (deal_inF hP6 ⟨ht.1, ht.2, hf.1, hf.2⟩ hT2) ta tc
    have hg1 := getF_in hpq ta tc
    have HGN := Lib.hid (fun V (h : Below y0.heap.size y0 V) => rgain_any j IA IC q buy sell V (HJW.out V h) h_q h_buy h_sell)
    unfold insV at HGN
    generalize getF P2 ta tc = v2 at *
    generalize getF p ta tc = v1 at *
    have HO2 := Lib.hid (fun V => bof_any v2 V hg2)
    have HO1 := Lib.hid (fun V => bof_any v1 V hg1)
    have HV128 : Hid (In128 v2 ∧ In128 v1 ∧ In128 (v2 - v1)) := Lib.hid ⟨in128_of64 hg2, in128_of64 hg1, by unfold In64 In128 at *; omega⟩
    have HM5 : Hid (cs.length ≤ 900000) := Lib.hid (by omega)
    clear hT hT2 hbB hbP hbL hB4 hB6 hP6 hbB2 hbP2 hbL2 hg1 hg2 hgd hky hcl4 hcl9 hcsn hR hR8 hp20 hpq hf ht h_q h_buy h_sell
    have hC := Below.refl y0.heap.size y0
    obtain ⟨KD_l, KD_c⟩ := id KD
    have KD_0 := KD_c 0
    have KD_1 := KD_c 1
    simp at KD_0 KD_1
    clear KD_c
    obtain ⟨KI_l, KI_c⟩ := id KI
    have KI_0 := KI_c 0
    have KI_1 := KI_c 1
    have KI_2 := KI_c 2
    have KI_3 := KI_c 3
    have KI_4 := KI_c 4
    simp at KI_0 KI_1 KI_2 KI_3 KI_4
    clear KI_c
    obtain ⟨KF_l, KF_c⟩ := id KF
    have KF_0 := KF_c 0
    have KF_1 := KF_c 1
    simp at KF_0 KF_1
    clear KF_c
    obtain ⟨KT_l, KT_c⟩ := id KT
    have KT_0 := KT_c 0
    have KT_1 := KT_c 1
    simp at KT_0 KT_1
    clear KT_c
    go_wp2_with fail
    refine (HAT.out _ hC).mono ?_
    rintro e z1 ⟨⟨m5, A5, k5, A6, k6, rfl, D5⟩, hb⟩
    have hC := since_step hC hb
    have KD := KD.below hb
    have KI := KI.below hb
    have KF := KF.below hb
    have KT := KT.below hb
    clear hb
    clear KD_l KD_0 KD_1 KI_l KI_0 KI_1 KI_2 KI_3 KI_4 KF_l KF_0 KF_1 KT_l KT_0 KT_1
    have hA := (Below.refl z1.heap.size z1).alloc (Nat.le_refl _) (.cells #[.slice A5 m5.length k5, .slice A6 P.length k6] 30)
    have K6 := Bk.new z1 #[.slice A5 m5.length k5, .slice A6 P.length k6] 30
    have KD := KD.below hA
    have KI := KI.below hA
    have KF := KF.below hA
    have KT := KT.below hA
    have D5 := D5.below hA
    have hC := since_step hC hA
    clear hA
    go_upto_region 3 with fail
    generalize hYY : z1.alloc (.cells #[.slice A5 m5.length k5, .slice A6 P.length k6] 30) = Y3 at *
    generalize hGG : z1.heap.size = gY3 at *
    clear hYY hGG
    by_cases hn : n = 0
    · have bn : (n != 0) = false := by rw [hn]; rfl
      have HNT := Lib.hid (HNT.out hn)
      clear hn
      have HM14 : Hid (m5.length ≤ 800000) := Lib.hid (by rw [D5.t.1]; have := HB14.out; omega)
      obtain ⟨KD_l, KD_c⟩ := id KD
      have KD_0 := KD_c 0
      have KD_1 := KD_c 1
      simp at KD_0 KD_1
      clear KD_c
      obtain ⟨KI_l, KI_c⟩ := id KI
      have KI_0 := KI_c 0
      have KI_1 := KI_c 1
      have KI_2 := KI_c 2
      have KI_3 := KI_c 3
      have KI_4 := KI_c 4
      simp at KI_0 KI_1 KI_2 KI_3 KI_4
      clear KI_c
      obtain ⟨KF_l, KF_c⟩ := id KF
      have KF_0 := KF_c 0
      have KF_1 := KF_c 1
      simp at KF_0 KF_1
      clear KF_c
      obtain ⟨KT_l, KT_c⟩ := id KT
      have KT_0 := KT_c 0
      have KT_1 := KT_c 1
      simp at KT_0 KT_1
      clear KT_c
      obtain ⟨K6_l, K6_c⟩ := id K6
      have K6_0 := K6_c 0
      have K6_1 := K6_c 1
      simp at K6_0 K6_1
      clear K6_c
      go_wp2_with fail
      refine (HA2.out _ _ _ _ _ _ HM14.out D5 hC).mono ?_
      rintro e z2 ⟨⟨m7, A7, k7, A8, k8, rfl, D7⟩, hb⟩
      have hC := since_step hC hb
      have KD := KD.below hb
      have KI := KI.below hb
      have KF := KF.below hb
      have KT := KT.below hb
      have D5 := D5.below hb
      have K6 := K6.below hb
      clear hb
      clear KD_l KD_0 KD_1 KI_l KI_0 KI_1 KI_2 KI_3 KI_4 KF_l KF_0 KF_1 KT_l KT_0 KT_1 K6_l K6_0 K6_1
      have hA := (Below.refl z2.heap.size z2).alloc (Nat.le_refl _) (.cells #[.slice A7 m7.length k7, .slice A8 P2.length k8] 30)
      have K8 := Bk.new z2 #[.slice A7 m7.length k7, .slice A8 P2.length k8] 30
      have KD := KD.below hA
      have KI := KI.below hA
      have KF := KF.below hA
      have KT := KT.below hA
      have D5 := D5.below hA
      have K6 := K6.below hA
      have D7 := D7.below hA
      have hC := since_step hC hA
      clear hA
      go_upto_region 6 with fail
      generalize hYY : z2.alloc (.cells #[.slice A7 m7.length k7, .slice A8 P2.length k8] 30) = Y6 at *
      generalize hGG : z2.heap.size = gY6 at *
      clear hYY hGG
      clear HA2 HAT HM14
      by_cases hn2 : n2 = 0
      · have bn2 : (n2 != 0) = false := by rw [hn2]; rfl
        have hNT := HNT.out hn2
        clear hn2 HNT
        obtain ⟨hE, hG⟩ := hNT
        subst hE
        have HGE := Lib.hid hG
        clear hG
        have HM7 : Hid (m7.length ≤ 900000) := Lib.hid (by rw [D7.t.1]; exact HM5.out)
        obtain ⟨KD_l, KD_c⟩ := id KD
        have KD_0 := KD_c 0
        have KD_1 := KD_c 1
        simp at KD_0 KD_1
        clear KD_c
        obtain ⟨KI_l, KI_c⟩ := id KI
        have KI_0 := KI_c 0
        have KI_1 := KI_c 1
        have KI_2 := KI_c 2
        have KI_3 := KI_c 3
        have KI_4 := KI_c 4
        simp at KI_0 KI_1 KI_2 KI_3 KI_4
        clear KI_c
        obtain ⟨KF_l, KF_c⟩ := id KF
        have KF_0 := KF_c 0
        have KF_1 := KF_c 1
        simp at KF_0 KF_1
        clear KF_c
        obtain ⟨KT_l, KT_c⟩ := id KT
        have KT_0 := KT_c 0
        have KT_1 := KT_c 1
        simp at KT_0 KT_1
        clear KT_c
        obtain ⟨K6_l, K6_c⟩ := id K6
        have K6_0 := K6_c 0
        have K6_1 := K6_c 1
        simp at K6_0 K6_1
        clear K6_c
        obtain ⟨K8_l, K8_c⟩ := id K8
        have K8_0 := K8_c 0
        have K8_1 := K8_c 1
        simp at K8_0 K8_1
        clear K8_c
        go_wp2_with fail
        refine (HSM.out _ _ _ _ HM7.out D7.s D7.t hC).mono ?_
        rintro e z3 ⟨rfl, hb⟩
        have hC := since_step hC hb
        have KD := KD.below hb
        have KI := KI.below hb
        have KF := KF.below hb
        have KT := KT.below hb
        have D5 := D5.below hb
        have K6 := K6.below hb
        have D7 := D7.below hb
        have K8 := K8.below hb
        clear hb
        clear KD_l KD_0 KD_1 KI_l KI_0 KI_1 KI_2 KI_3 KI_4 KF_l KF_0 KF_1 KT_l KT_0 KT_1 K6_l K6_0 K6_1 K8_l K8_0 K8_1
        clear HSM HM7
        go_upto_region 10 with fail
        generalize hYY : z3 = Y at *
        clear hYY
        go_cut [22] (fun s22 wx => ∃ (gb : Nat) (s9 : Bool) (A9 : Option Addr) (n9 c9 : Nat), s22 = .pointer (some ⟨gb, 0, none⟩) ∧ BB wx gb s9 A9 n9 c9 ∧ BigAt wx s9 A9 n9 c9 (v2 - v1) ∧ Below Y.heap.size Y wx)
        case first =>
          focus
            have HQ : Hid (∀ V, Below Y.heap.size Y V → V.cell? ⟨g, 1, none⟩ = some (.slice a1 p.length c1) ∧ V.cell? ⟨gY6, 1, none⟩ = some (.slice A8 P2.length k8) ∧ (V.cell? ⟨w.heap.size + 1 + 1, 0, none⟩ = some (.int .i64 ta) ∧ V.cell? ⟨w.heap.size + 1 + 1, 1, none⟩ = some (.int .i64 tc))) := Lib.hid fun V h => ⟨(KD.below h).2 1, (K8.below h).2 1, ⟨(KT.below h).2 0, (KT.below h).2 1⟩⟩
            have HYC : Hid (∀ V, Below Y.heap.size Y V → Below y0.heap.size y0 V) := Lib.hid fun V h => hC.trans (h.mono hC.size)
            have HDD : Hid (∀ V, Below Y.heap.size Y V → Sl V A8 (rc Fw.cells P2)) := Lib.hid fun V h => (D7.below h).f
            clear KD KI KF KT K6 K8 D5 D7 hC HGN HGE
            go_wp2_with fail
            refine wp_region_held_drew (S := (fun V => Below Y.heap.size Y V)) (by kernel_rfl) (by exact (Below.refl _ _).drew) (fun hHeld => ?_)
            generalize Y.drew = VE at *
            refine wpAnyH_take (i := 0) (oi := { dst := some 60, op := _, type := _, pos := _, after := _, guard := _ }) (v := ?_) rfl (by kernel_rfl) (by kernel_rfl) (by kernel_rfl) (fun _ _ _ h => h) (Or.inl ⟨by rfl, ?_⟩) hHeld ?_
            rotate_left
            · (intro w hSw; clear hSw; go_simp <;> with_reducible rfl)
            try simp only [Act.put, List.setIfInBounds_toArray, List.set_cons_zero, List.set_cons_succ]
            refine wpAnyH_take (i := 1) (oi := { dst := some 61, op := _, type := _, pos := _, after := _, guard := _ }) (v := ?_) rfl (by kernel_rfl) (by kernel_rfl) (by kernel_rfl) (fun _ _ _ h => h) (Or.inl ⟨by rfl, ?_⟩) hHeld ?_
            rotate_left
            · (intro w hSw; obtain ⟨d1, e1_, ⟨u0, u1⟩⟩ := HQ.out _ (hSw); go_simp <;> with_reducible rfl)
            try simp only [Act.put, List.setIfInBounds_toArray, List.set_cons_zero, List.set_cons_succ]
            refine wpAnyH_take (i := 2) (oi := { dst := some 62, op := _, type := _, pos := _, after := _, guard := _ }) (v := ?_) rfl (by kernel_rfl) (by kernel_rfl) (by kernel_rfl) (fun _ _ _ h => h) (Or.inl ⟨by rfl, ?_⟩) hHeld ?_
            rotate_left
            · (intro w hSw; obtain ⟨d1, e1_, ⟨u0, u1⟩⟩ := HQ.out _ (hSw); go_simp <;> with_reducible rfl)
            try simp only [Act.put, List.setIfInBounds_toArray, List.set_cons_zero, List.set_cons_succ]
            refine wpAnyH_take (i := 5) (oi := { dst := some 65, op := _, type := _, pos := _, after := _, guard := _ }) (v := ?_) rfl (by kernel_rfl) (by kernel_rfl) (by kernel_rfl) (fun _ _ _ h => h) (Or.inl ⟨by rfl, ?_⟩) hHeld ?_
            rotate_left
            · (intro w hSw; clear hSw; go_simp <;> with_reducible rfl)
            try simp only [Act.put, List.setIfInBounds_toArray, List.set_cons_zero, List.set_cons_succ]
            refine wpAnyH_take (i := 6) (oi := { dst := some 66, op := _, type := _, pos := _, after := _, guard := _ }) (v := ?_) rfl (by kernel_rfl) (by kernel_rfl) (by kernel_rfl) (fun _ _ _ h => h) (Or.inl ⟨by rfl, ?_⟩) hHeld ?_
            rotate_left
            · (intro w hSw; obtain ⟨d1, e1_, ⟨u0, u1⟩⟩ := HQ.out _ (hSw); go_simp <;> with_reducible rfl)
            try simp only [Act.put, List.setIfInBounds_toArray, List.set_cons_zero, List.set_cons_succ]
            refine wpAnyH_take (i := 7) (oi := { dst := some 67, op := _, type := _, pos := _, after := _, guard := _ }) (v := ?_) rfl (by kernel_rfl) (by kernel_rfl) (by kernel_rfl) (fun _ _ _ h => h) (Or.inl ⟨by rfl, ?_⟩) hHeld ?_
            rotate_left
            · (intro w hSw; obtain ⟨d1, e1_, ⟨u0, u1⟩⟩ := HQ.out _ (hSw); go_simp <;> with_reducible rfl)
            try simp only [Act.put, List.setIfInBounds_toArray, List.set_cons_zero, List.set_cons_succ]
            refine wpAnyH_ready (rs := [3, 11]) (by kernel_rfl) (by simp) ?_
            refine AllReadyH.cons (o := { dst := some 63, op := _, type := _, pos := _, after := _, guard := _ }) rfl (fun K hK => ?_) (AllReadyH.cons (o := { dst := some 22, op := _, type := _, pos := _, after := _, guard := _ }) rfl (fun K hK => ?_) AllReadyH.nil)
            · go_simp
              refine (HG2.out _ _ _ (HDD.out _ hHeld)).mono ?_
              rintro e x1 ⟨rfl, hk1⟩
              have hKeep := since_step hHeld hk1
              clear hk1
              go_wp2_with fail
              refine hK.out _ _ (by (try dsimp only); exact hKeep) (fun hHeld => ?_)
              clear hK K hKeep
              try simp only [Act.put, List.setIfInBounds_toArray, List.set_cons_zero, List.set_cons_succ]
              refine wpAnyH_ready (rs := [4, 11]) (by kernel_rfl) (by simp) ?_
              refine AllReadyH.cons (o := { dst := some 64, op := _, type := _, pos := _, after := _, guard := _ }) rfl (fun K hK => ?_) (AllReadyH.cons (o := { dst := some 22, op := _, type := _, pos := _, after := _, guard := _ }) rfl (fun K hK => ?_) AllReadyH.nil)
              · go_simp
                refine (HO2.out _).mono ?_
                rintro e x2 ⟨⟨s4, A4, n4, c4, rfl, hf4, T4⟩, hk1⟩
                have hKeep := since_step hHeld hk1
                clear hk1
                go_wp2_with fail
                refine hK.out _ _ (by (try dsimp only); exact hKeep) (fun hHeld => ?_)
                clear hK K hKeep
                try simp only [Act.put, List.setIfInBounds_toArray, List.set_cons_zero, List.set_cons_succ]
                refine wpAnyH_ready (rs := [8, 11]) (by kernel_rfl) (by simp) ?_
                refine AllReadyH.cons (o := { dst := some 68, op := _, type := _, pos := _, after := _, guard := _ }) rfl (fun K hK => ?_) (AllReadyH.cons (o := { dst := some 22, op := _, type := _, pos := _, after := _, guard := _ }) rfl (fun K hK => ?_) AllReadyH.nil)
                · go_simp
                  refine (HG1.out _ (HYC.out _ hHeld)).mono ?_
                  rintro e x3 ⟨rfl, hk1⟩
                  have hKeep := since_step hHeld hk1
                  have T4 := T4.below hk1
                  clear hk1
                  go_wp2_with fail
                  refine hK.out _ _ (by (try dsimp only); exact hKeep) (fun hHeld => ?_)
                  clear hK K hKeep
                  try simp only [Act.put, List.setIfInBounds_toArray, List.set_cons_zero, List.set_cons_succ]
                  refine wpAnyH_ready (rs := [9, 11]) (by kernel_rfl) (by simp) ?_
                  refine AllReadyH.cons (o := { dst := some 69, op := _, type := _, pos := _, after := _, guard := _ }) rfl (fun K hK => ?_) (AllReadyH.cons (o := { dst := some 22, op := _, type := _, pos := _, after := _, guard := _ }) rfl (fun K hK => ?_) AllReadyH.nil)
                  · go_simp
                    refine (HO1.out _).mono ?_
                    rintro e x4 ⟨⟨s5_, A5_, n5_, c5_, rfl, hf5, T5⟩, hk1⟩
                    have hKeep := since_step hHeld hk1
                    have T4 := T4.below hk1
                    clear hk1
                    go_wp2_with fail
                    refine hK.out _ _ (by (try dsimp only); exact hKeep) (fun hHeld => ?_)
                    clear hK K hKeep
                    try simp only [Act.put, List.setIfInBounds_toArray, List.set_cons_zero, List.set_cons_succ]
                    refine wpAnyH_ready (rs := [10, 11]) (by kernel_rfl) (by simp) ?_
                    refine AllReadyH.cons (o := { dst := some 70, op := _, type := _, pos := _, after := _, guard := _ }) rfl (fun K hK => ?_) (AllReadyH.cons (o := { dst := some 22, op := _, type := _, pos := _, after := _, guard := _ }) rfl (fun K hK => ?_) AllReadyH.nil)
                    · go_simp
                      refine (bsub_any _ _ _ _ _ _ _ _ _ _ _ (by have := T4.l128 HV128.out.1; omega) (by have := T5.l128 HV128.out.2.1; omega) T4 T5).mono ?_
                      rintro e x5 ⟨⟨s9, A9, n9, c9, rfl, hf9, T9⟩, hk1⟩
                      have hKeep := since_step hHeld hk1
                      have T4 := T4.below hk1
                      clear T4 T5
                      clear hk1
                      go_wp2_with fail
                      refine hK.out _ _ (by (try dsimp only); exact hKeep) (fun hHeld => ?_)
                      clear hK K hKeep
                      try simp only [Act.put, List.setIfInBounds_toArray, List.set_cons_zero, List.set_cons_succ]
                      refine wpAnyH_ready (rs := [11]) (by kernel_rfl) (by simp) ?_
                      refine AllReadyH.cons (o := { dst := some 22, op := _, type := _, pos := _, after := _, guard := _ }) rfl (fun K hK => ?_) AllReadyH.nil
                      have hHd := hHeld
                      obtain ⟨d1, e1_, ⟨u0, u1⟩⟩ := HQ.out _ (hHd)
                      have hHp := hHeld
                      have X := BB.new x5 false none 0 0 50
                      have hgs : Y.heap.size ≤ x5.heap.size := hHeld.size
                      have hA := (Below.refl x5.heap.size x5).alloc (Nat.le_refl _) (.cells #[.bool false, .slice none 0 0] 50)
                      clear hA
                      have hKeep := since_alloc hHeld (.cells #[.bool false, .slice none 0 0] 50)
                      go_simp
                      refine hK.out _ _ (by (try dsimp only); exact hKeep) (fun hHeld => ?_)
                      clear hK K hKeep
                      try simp only [Act.put, List.setIfInBounds_toArray, List.set_cons_zero, List.set_cons_succ]
                      refine wpAnyH_ready (rs := [12]) (by kernel_rfl) (by simp) ?_
                      refine AllReadyH.cons (o := { dst := none, op := _, type := _, pos := _, after := _, guard := _ }) rfl (fun K hK => ?_) AllReadyH.nil
                      have hHd := hHeld
                      obtain ⟨d1, e1_, ⟨u0, u1⟩⟩ := HQ.out _ (hHd)
                      obtain ⟨q0, q1, q2, q3, q4⟩ := id X
                      have E9 := BB.new x5 s9 A9 n9 c9 50
                      have T9 := T9.alloc (.cells #[.bool s9, .slice A9 n9 c9] 50)
                      have hKeep := since_alloc hHp (.cells #[.bool s9, .slice A9 n9 c9] 50)
                      skip
                      go_simp
                      refine hK.out _ _ (by (try dsimp only); exact hKeep) (fun hHeld => ?_)
                      clear hK K hKeep
                      try simp only [Act.put, List.setIfInBounds_toArray, List.set_cons_zero, List.set_cons_succ]
                      refine wpAnyH_done (by kernel_rfl) ?_ _
                      go_wp2_with fail
                      go_meet
                      case rel => exact ⟨_, s9, A9, n9, c9, rfl, E9, T9, hHeld⟩
                    · have hHd := hHeld
                      obtain ⟨d1, e1_, ⟨u0, u1⟩⟩ := HQ.out _ (hHd)
                      have hHp := hHeld
                      have X := BB.new x4 false none 0 0 50
                      have hgs : Y.heap.size ≤ x4.heap.size := hHeld.size
                      have hA := (Below.refl x4.heap.size x4).alloc (Nat.le_refl _) (.cells #[.bool false, .slice none 0 0] 50)
                      have T4 := T4.below hA
                      have T5 := T5.below hA
                      clear hA
                      have hKeep := since_alloc hHeld (.cells #[.bool false, .slice none 0 0] 50)
                      go_simp
                      refine hK.out _ _ (by (try dsimp only); exact hKeep) (fun hHeld => ?_)
                      clear hK K hKeep
                      try simp only [Act.put, List.setIfInBounds_toArray, List.set_cons_zero, List.set_cons_succ]
                      refine wpAnyH_ready (rs := [10]) (by kernel_rfl) (by simp) ?_
                      refine AllReadyH.cons (o := { dst := some 70, op := _, type := _, pos := _, after := _, guard := _ }) rfl (fun K hK => ?_) AllReadyH.nil
                      go_simp
                      have hlt9 := X.1
                      refine (bsub_any _ _ _ _ _ _ _ _ _ _ _ (by have := T4.l128 HV128.out.1; omega) (by have := T5.l128 HV128.out.2.1; omega) T4 T5).mono ?_
                      rintro e x5 ⟨⟨s9, A9, n9, c9, rfl, hf9, T9⟩, hk1⟩
                      have hKeep := since_step hHeld hk1
                      have X := X.below hk1
                      have T4 := T4.below hk1
                      clear T4 T5
                      clear hk1
                      go_wp2_with fail
                      refine hK.out _ _ (by (try dsimp only); exact hKeep) (fun hHeld => ?_)
                      clear hK K hKeep
                      try simp only [Act.put, List.setIfInBounds_toArray, List.set_cons_zero, List.set_cons_succ]
                      refine wpAnyH_ready (rs := [12]) (by kernel_rfl) (by simp) ?_
                      refine AllReadyH.cons (o := { dst := none, op := _, type := _, pos := _, after := _, guard := _ }) rfl (fun K hK => ?_) AllReadyH.nil
                      have hHd := hHeld
                      obtain ⟨d1, e1_, ⟨u0, u1⟩⟩ := HQ.out _ (hHd)
                      obtain ⟨q0, q1, q2, q3, q4⟩ := id X
                      have E9 := X.set2 s9 A9 n9 c9
                      have hne : ∀ b o, A9 = some ⟨b, o, none⟩ → 0 < n9 → b ≠ x4.heap.size := fun b o hA hn => by have h1 := hf9 b o hA hn; have h2 := hlt9; omega
                      have T9 := (T9.far (p := ⟨x4.heap.size, 0, none⟩) hne (.bool s9)).far (p := ⟨x4.heap.size, 1, none⟩) hne (.slice A9 n9 c9)
                      have hKeep := Below.setCell (Below.setCell hHeld (p := ⟨x4.heap.size, 0, none⟩) hgs (.bool s9)) (p := ⟨x4.heap.size, 1, none⟩) hgs (.slice A9 n9 c9)
                      skip
                      go_simp
                      refine hK.out _ _ (by (try dsimp only); exact hKeep) (fun hHeld => ?_)
                      clear hK K hKeep
                      try simp only [Act.put, List.setIfInBounds_toArray, List.set_cons_zero, List.set_cons_succ]
                      refine wpAnyH_done (by kernel_rfl) ?_ _
                      go_wp2_with fail
                      go_meet
                      case rel => exact ⟨_, s9, A9, n9, c9, rfl, E9, T9, hHeld⟩
                  · have hHd := hHeld
                    obtain ⟨d1, e1_, ⟨u0, u1⟩⟩ := HQ.out _ (hHd)
                    have hHp := hHeld
                    have X := BB.new x3 false none 0 0 50
                    have hgs : Y.heap.size ≤ x3.heap.size := hHeld.size
                    have hA := (Below.refl x3.heap.size x3).alloc (Nat.le_refl _) (.cells #[.bool false, .slice none 0 0] 50)
                    have T4 := T4.below hA
                    clear hA
                    have hKeep := since_alloc hHeld (.cells #[.bool false, .slice none 0 0] 50)
                    go_simp
                    refine hK.out _ _ (by (try dsimp only); exact hKeep) (fun hHeld => ?_)
                    clear hK K hKeep
                    try simp only [Act.put, List.setIfInBounds_toArray, List.set_cons_zero, List.set_cons_succ]
                    refine wpAnyH_ready (rs := [9]) (by kernel_rfl) (by simp) ?_
                    refine AllReadyH.cons (o := { dst := some 69, op := _, type := _, pos := _, after := _, guard := _ }) rfl (fun K hK => ?_) AllReadyH.nil
                    go_simp
                    refine (HO1.out _).mono ?_
                    rintro e x4 ⟨⟨s5_, A5_, n5_, c5_, rfl, hf5, T5⟩, hk1⟩
                    have hKeep := since_step hHeld hk1
                    have X := X.below hk1
                    have T4 := T4.below hk1
                    clear hk1
                    go_wp2_with fail
                    refine hK.out _ _ (by (try dsimp only); exact hKeep) (fun hHeld => ?_)
                    clear hK K hKeep
                    try simp only [Act.put, List.setIfInBounds_toArray, List.set_cons_zero, List.set_cons_succ]
                    refine wpAnyH_ready (rs := [10]) (by kernel_rfl) (by simp) ?_
                    refine AllReadyH.cons (o := { dst := some 70, op := _, type := _, pos := _, after := _, guard := _ }) rfl (fun K hK => ?_) AllReadyH.nil
                    go_simp
                    have hlt9 := X.1
                    refine (bsub_any _ _ _ _ _ _ _ _ _ _ _ (by have := T4.l128 HV128.out.1; omega) (by have := T5.l128 HV128.out.2.1; omega) T4 T5).mono ?_
                    rintro e x5 ⟨⟨s9, A9, n9, c9, rfl, hf9, T9⟩, hk1⟩
                    have hKeep := since_step hHeld hk1
                    have X := X.below hk1
                    have T4 := T4.below hk1
                    clear T4 T5
                    clear hk1
                    go_wp2_with fail
                    refine hK.out _ _ (by (try dsimp only); exact hKeep) (fun hHeld => ?_)
                    clear hK K hKeep
                    try simp only [Act.put, List.setIfInBounds_toArray, List.set_cons_zero, List.set_cons_succ]
                    refine wpAnyH_ready (rs := [12]) (by kernel_rfl) (by simp) ?_
                    refine AllReadyH.cons (o := { dst := none, op := _, type := _, pos := _, after := _, guard := _ }) rfl (fun K hK => ?_) AllReadyH.nil
                    have hHd := hHeld
                    obtain ⟨d1, e1_, ⟨u0, u1⟩⟩ := HQ.out _ (hHd)
                    obtain ⟨q0, q1, q2, q3, q4⟩ := id X
                    have E9 := X.set2 s9 A9 n9 c9
                    have hne : ∀ b o, A9 = some ⟨b, o, none⟩ → 0 < n9 → b ≠ x3.heap.size := fun b o hA hn => by have h1 := hf9 b o hA hn; have h2 := hlt9; omega
                    have T9 := (T9.far (p := ⟨x3.heap.size, 0, none⟩) hne (.bool s9)).far (p := ⟨x3.heap.size, 1, none⟩) hne (.slice A9 n9 c9)
                    have hKeep := Below.setCell (Below.setCell hHeld (p := ⟨x3.heap.size, 0, none⟩) hgs (.bool s9)) (p := ⟨x3.heap.size, 1, none⟩) hgs (.slice A9 n9 c9)
                    skip
                    go_simp
                    refine hK.out _ _ (by (try dsimp only); exact hKeep) (fun hHeld => ?_)
                    clear hK K hKeep
                    try simp only [Act.put, List.setIfInBounds_toArray, List.set_cons_zero, List.set_cons_succ]
                    refine wpAnyH_done (by kernel_rfl) ?_ _
                    go_wp2_with fail
                    go_meet
                    case rel => exact ⟨_, s9, A9, n9, c9, rfl, E9, T9, hHeld⟩
                · have hHd := hHeld
                  obtain ⟨d1, e1_, ⟨u0, u1⟩⟩ := HQ.out _ (hHd)
                  have hHp := hHeld
                  have X := BB.new x2 false none 0 0 50
                  have hgs : Y.heap.size ≤ x2.heap.size := hHeld.size
                  have hA := (Below.refl x2.heap.size x2).alloc (Nat.le_refl _) (.cells #[.bool false, .slice none 0 0] 50)
                  have T4 := T4.below hA
                  clear hA
                  have hKeep := since_alloc hHeld (.cells #[.bool false, .slice none 0 0] 50)
                  go_simp
                  refine hK.out _ _ (by (try dsimp only); exact hKeep) (fun hHeld => ?_)
                  clear hK K hKeep
                  try simp only [Act.put, List.setIfInBounds_toArray, List.set_cons_zero, List.set_cons_succ]
                  refine wpAnyH_ready (rs := [8]) (by kernel_rfl) (by simp) ?_
                  refine AllReadyH.cons (o := { dst := some 68, op := _, type := _, pos := _, after := _, guard := _ }) rfl (fun K hK => ?_) AllReadyH.nil
                  go_simp
                  refine (HG1.out _ (HYC.out _ hHeld)).mono ?_
                  rintro e x3 ⟨rfl, hk1⟩
                  have hKeep := since_step hHeld hk1
                  have X := X.below hk1
                  have T4 := T4.below hk1
                  clear hk1
                  go_wp2_with fail
                  refine hK.out _ _ (by (try dsimp only); exact hKeep) (fun hHeld => ?_)
                  clear hK K hKeep
                  try simp only [Act.put, List.setIfInBounds_toArray, List.set_cons_zero, List.set_cons_succ]
                  refine wpAnyH_ready (rs := [9]) (by kernel_rfl) (by simp) ?_
                  refine AllReadyH.cons (o := { dst := some 69, op := _, type := _, pos := _, after := _, guard := _ }) rfl (fun K hK => ?_) AllReadyH.nil
                  go_simp
                  refine (HO1.out _).mono ?_
                  rintro e x4 ⟨⟨s5_, A5_, n5_, c5_, rfl, hf5, T5⟩, hk1⟩
                  have hKeep := since_step hHeld hk1
                  have X := X.below hk1
                  have T4 := T4.below hk1
                  clear hk1
                  go_wp2_with fail
                  refine hK.out _ _ (by (try dsimp only); exact hKeep) (fun hHeld => ?_)
                  clear hK K hKeep
                  try simp only [Act.put, List.setIfInBounds_toArray, List.set_cons_zero, List.set_cons_succ]
                  refine wpAnyH_ready (rs := [10]) (by kernel_rfl) (by simp) ?_
                  refine AllReadyH.cons (o := { dst := some 70, op := _, type := _, pos := _, after := _, guard := _ }) rfl (fun K hK => ?_) AllReadyH.nil
                  go_simp
                  have hlt9 := X.1
                  refine (bsub_any _ _ _ _ _ _ _ _ _ _ _ (by have := T4.l128 HV128.out.1; omega) (by have := T5.l128 HV128.out.2.1; omega) T4 T5).mono ?_
                  rintro e x5 ⟨⟨s9, A9, n9, c9, rfl, hf9, T9⟩, hk1⟩
                  have hKeep := since_step hHeld hk1
                  have X := X.below hk1
                  have T4 := T4.below hk1
                  clear T4 T5
                  clear hk1
                  go_wp2_with fail
                  refine hK.out _ _ (by (try dsimp only); exact hKeep) (fun hHeld => ?_)
                  clear hK K hKeep
                  try simp only [Act.put, List.setIfInBounds_toArray, List.set_cons_zero, List.set_cons_succ]
                  refine wpAnyH_ready (rs := [12]) (by kernel_rfl) (by simp) ?_
                  refine AllReadyH.cons (o := { dst := none, op := _, type := _, pos := _, after := _, guard := _ }) rfl (fun K hK => ?_) AllReadyH.nil
                  have hHd := hHeld
                  obtain ⟨d1, e1_, ⟨u0, u1⟩⟩ := HQ.out _ (hHd)
                  obtain ⟨q0, q1, q2, q3, q4⟩ := id X
                  have E9 := X.set2 s9 A9 n9 c9
                  have hne : ∀ b o, A9 = some ⟨b, o, none⟩ → 0 < n9 → b ≠ x2.heap.size := fun b o hA hn => by have h1 := hf9 b o hA hn; have h2 := hlt9; omega
                  have T9 := (T9.far (p := ⟨x2.heap.size, 0, none⟩) hne (.bool s9)).far (p := ⟨x2.heap.size, 1, none⟩) hne (.slice A9 n9 c9)
                  have hKeep := Below.setCell (Below.setCell hHeld (p := ⟨x2.heap.size, 0, none⟩) hgs (.bool s9)) (p := ⟨x2.heap.size, 1, none⟩) hgs (.slice A9 n9 c9)
                  skip
                  go_simp
                  refine hK.out _ _ (by (try dsimp only); exact hKeep) (fun hHeld => ?_)
                  clear hK K hKeep
                  try simp only [Act.put, List.setIfInBounds_toArray, List.set_cons_zero, List.set_cons_succ]
                  refine wpAnyH_done (by kernel_rfl) ?_ _
                  go_wp2_with fail
                  go_meet
                  case rel => exact ⟨_, s9, A9, n9, c9, rfl, E9, T9, hHeld⟩
              · have hHd := hHeld
                obtain ⟨d1, e1_, ⟨u0, u1⟩⟩ := HQ.out _ (hHd)
                have hHp := hHeld
                have X := BB.new x1 false none 0 0 50
                have hgs : Y.heap.size ≤ x1.heap.size := hHeld.size
                have hA := (Below.refl x1.heap.size x1).alloc (Nat.le_refl _) (.cells #[.bool false, .slice none 0 0] 50)
                clear hA
                have hKeep := since_alloc hHeld (.cells #[.bool false, .slice none 0 0] 50)
                go_simp
                refine hK.out _ _ (by (try dsimp only); exact hKeep) (fun hHeld => ?_)
                clear hK K hKeep
                try simp only [Act.put, List.setIfInBounds_toArray, List.set_cons_zero, List.set_cons_succ]
                refine wpAnyH_ready (rs := [4]) (by kernel_rfl) (by simp) ?_
                refine AllReadyH.cons (o := { dst := some 64, op := _, type := _, pos := _, after := _, guard := _ }) rfl (fun K hK => ?_) AllReadyH.nil
                go_simp
                refine (HO2.out _).mono ?_
                rintro e x2 ⟨⟨s4, A4, n4, c4, rfl, hf4, T4⟩, hk1⟩
                have hKeep := since_step hHeld hk1
                have X := X.below hk1
                clear hk1
                go_wp2_with fail
                refine hK.out _ _ (by (try dsimp only); exact hKeep) (fun hHeld => ?_)
                clear hK K hKeep
                try simp only [Act.put, List.setIfInBounds_toArray, List.set_cons_zero, List.set_cons_succ]
                refine wpAnyH_ready (rs := [8]) (by kernel_rfl) (by simp) ?_
                refine AllReadyH.cons (o := { dst := some 68, op := _, type := _, pos := _, after := _, guard := _ }) rfl (fun K hK => ?_) AllReadyH.nil
                go_simp
                refine (HG1.out _ (HYC.out _ hHeld)).mono ?_
                rintro e x3 ⟨rfl, hk1⟩
                have hKeep := since_step hHeld hk1
                have X := X.below hk1
                have T4 := T4.below hk1
                clear hk1
                go_wp2_with fail
                refine hK.out _ _ (by (try dsimp only); exact hKeep) (fun hHeld => ?_)
                clear hK K hKeep
                try simp only [Act.put, List.setIfInBounds_toArray, List.set_cons_zero, List.set_cons_succ]
                refine wpAnyH_ready (rs := [9]) (by kernel_rfl) (by simp) ?_
                refine AllReadyH.cons (o := { dst := some 69, op := _, type := _, pos := _, after := _, guard := _ }) rfl (fun K hK => ?_) AllReadyH.nil
                go_simp
                refine (HO1.out _).mono ?_
                rintro e x4 ⟨⟨s5_, A5_, n5_, c5_, rfl, hf5, T5⟩, hk1⟩
                have hKeep := since_step hHeld hk1
                have X := X.below hk1
                have T4 := T4.below hk1
                clear hk1
                go_wp2_with fail
                refine hK.out _ _ (by (try dsimp only); exact hKeep) (fun hHeld => ?_)
                clear hK K hKeep
                try simp only [Act.put, List.setIfInBounds_toArray, List.set_cons_zero, List.set_cons_succ]
                refine wpAnyH_ready (rs := [10]) (by kernel_rfl) (by simp) ?_
                refine AllReadyH.cons (o := { dst := some 70, op := _, type := _, pos := _, after := _, guard := _ }) rfl (fun K hK => ?_) AllReadyH.nil
                go_simp
                have hlt9 := X.1
                refine (bsub_any _ _ _ _ _ _ _ _ _ _ _ (by have := T4.l128 HV128.out.1; omega) (by have := T5.l128 HV128.out.2.1; omega) T4 T5).mono ?_
                rintro e x5 ⟨⟨s9, A9, n9, c9, rfl, hf9, T9⟩, hk1⟩
                have hKeep := since_step hHeld hk1
                have X := X.below hk1
                have T4 := T4.below hk1
                clear T4 T5
                clear hk1
                go_wp2_with fail
                refine hK.out _ _ (by (try dsimp only); exact hKeep) (fun hHeld => ?_)
                clear hK K hKeep
                try simp only [Act.put, List.setIfInBounds_toArray, List.set_cons_zero, List.set_cons_succ]
                refine wpAnyH_ready (rs := [12]) (by kernel_rfl) (by simp) ?_
                refine AllReadyH.cons (o := { dst := none, op := _, type := _, pos := _, after := _, guard := _ }) rfl (fun K hK => ?_) AllReadyH.nil
                have hHd := hHeld
                obtain ⟨d1, e1_, ⟨u0, u1⟩⟩ := HQ.out _ (hHd)
                obtain ⟨q0, q1, q2, q3, q4⟩ := id X
                have E9 := X.set2 s9 A9 n9 c9
                have hne : ∀ b o, A9 = some ⟨b, o, none⟩ → 0 < n9 → b ≠ x1.heap.size := fun b o hA hn => by have h1 := hf9 b o hA hn; have h2 := hlt9; omega
                have T9 := (T9.far (p := ⟨x1.heap.size, 0, none⟩) hne (.bool s9)).far (p := ⟨x1.heap.size, 1, none⟩) hne (.slice A9 n9 c9)
                have hKeep := Below.setCell (Below.setCell hHeld (p := ⟨x1.heap.size, 0, none⟩) hgs (.bool s9)) (p := ⟨x1.heap.size, 1, none⟩) hgs (.slice A9 n9 c9)
                skip
                go_simp
                refine hK.out _ _ (by (try dsimp only); exact hKeep) (fun hHeld => ?_)
                clear hK K hKeep
                try simp only [Act.put, List.setIfInBounds_toArray, List.set_cons_zero, List.set_cons_succ]
                refine wpAnyH_done (by kernel_rfl) ?_ _
                go_wp2_with fail
                go_meet
                case rel => exact ⟨_, s9, A9, n9, c9, rfl, E9, T9, hHeld⟩
            · have hHd := hHeld
              obtain ⟨d1, e1_, ⟨u0, u1⟩⟩ := HQ.out _ (hHd)
              have hHp := hHeld
              have X := BB.new VE false none 0 0 50
              have hgs : Y.heap.size ≤ VE.heap.size := hHeld.size
              have hA := (Below.refl VE.heap.size VE).alloc (Nat.le_refl _) (.cells #[.bool false, .slice none 0 0] 50)
              clear hA
              have hKeep := since_alloc hHeld (.cells #[.bool false, .slice none 0 0] 50)
              go_simp
              refine hK.out _ _ (by (try dsimp only); exact hKeep) (fun hHeld => ?_)
              clear hK K hKeep
              try simp only [Act.put, List.setIfInBounds_toArray, List.set_cons_zero, List.set_cons_succ]
              refine wpAnyH_ready (rs := [3]) (by kernel_rfl) (by simp) ?_
              refine AllReadyH.cons (o := { dst := some 63, op := _, type := _, pos := _, after := _, guard := _ }) rfl (fun K hK => ?_) AllReadyH.nil
              go_simp
              refine (HG2.out _ _ _ (HDD.out _ hHeld)).mono ?_
              rintro e x1 ⟨rfl, hk1⟩
              have hKeep := since_step hHeld hk1
              have X := X.below hk1
              clear hk1
              go_wp2_with fail
              refine hK.out _ _ (by (try dsimp only); exact hKeep) (fun hHeld => ?_)
              clear hK K hKeep
              try simp only [Act.put, List.setIfInBounds_toArray, List.set_cons_zero, List.set_cons_succ]
              refine wpAnyH_ready (rs := [4]) (by kernel_rfl) (by simp) ?_
              refine AllReadyH.cons (o := { dst := some 64, op := _, type := _, pos := _, after := _, guard := _ }) rfl (fun K hK => ?_) AllReadyH.nil
              go_simp
              refine (HO2.out _).mono ?_
              rintro e x2 ⟨⟨s4, A4, n4, c4, rfl, hf4, T4⟩, hk1⟩
              have hKeep := since_step hHeld hk1
              have X := X.below hk1
              clear hk1
              go_wp2_with fail
              refine hK.out _ _ (by (try dsimp only); exact hKeep) (fun hHeld => ?_)
              clear hK K hKeep
              try simp only [Act.put, List.setIfInBounds_toArray, List.set_cons_zero, List.set_cons_succ]
              refine wpAnyH_ready (rs := [8]) (by kernel_rfl) (by simp) ?_
              refine AllReadyH.cons (o := { dst := some 68, op := _, type := _, pos := _, after := _, guard := _ }) rfl (fun K hK => ?_) AllReadyH.nil
              go_simp
              refine (HG1.out _ (HYC.out _ hHeld)).mono ?_
              rintro e x3 ⟨rfl, hk1⟩
              have hKeep := since_step hHeld hk1
              have X := X.below hk1
              have T4 := T4.below hk1
              clear hk1
              go_wp2_with fail
              refine hK.out _ _ (by (try dsimp only); exact hKeep) (fun hHeld => ?_)
              clear hK K hKeep
              try simp only [Act.put, List.setIfInBounds_toArray, List.set_cons_zero, List.set_cons_succ]
              refine wpAnyH_ready (rs := [9]) (by kernel_rfl) (by simp) ?_
              refine AllReadyH.cons (o := { dst := some 69, op := _, type := _, pos := _, after := _, guard := _ }) rfl (fun K hK => ?_) AllReadyH.nil
              go_simp
              refine (HO1.out _).mono ?_
              rintro e x4 ⟨⟨s5_, A5_, n5_, c5_, rfl, hf5, T5⟩, hk1⟩
              have hKeep := since_step hHeld hk1
              have X := X.below hk1
              have T4 := T4.below hk1
              clear hk1
              go_wp2_with fail
              refine hK.out _ _ (by (try dsimp only); exact hKeep) (fun hHeld => ?_)
              clear hK K hKeep
              try simp only [Act.put, List.setIfInBounds_toArray, List.set_cons_zero, List.set_cons_succ]
              refine wpAnyH_ready (rs := [10]) (by kernel_rfl) (by simp) ?_
              refine AllReadyH.cons (o := { dst := some 70, op := _, type := _, pos := _, after := _, guard := _ }) rfl (fun K hK => ?_) AllReadyH.nil
              go_simp
              have hlt9 := X.1
              refine (bsub_any _ _ _ _ _ _ _ _ _ _ _ (by have := T4.l128 HV128.out.1; omega) (by have := T5.l128 HV128.out.2.1; omega) T4 T5).mono ?_
              rintro e x5 ⟨⟨s9, A9, n9, c9, rfl, hf9, T9⟩, hk1⟩
              have hKeep := since_step hHeld hk1
              have X := X.below hk1
              have T4 := T4.below hk1
              clear T4 T5
              clear hk1
              go_wp2_with fail
              refine hK.out _ _ (by (try dsimp only); exact hKeep) (fun hHeld => ?_)
              clear hK K hKeep
              try simp only [Act.put, List.setIfInBounds_toArray, List.set_cons_zero, List.set_cons_succ]
              refine wpAnyH_ready (rs := [12]) (by kernel_rfl) (by simp) ?_
              refine AllReadyH.cons (o := { dst := none, op := _, type := _, pos := _, after := _, guard := _ }) rfl (fun K hK => ?_) AllReadyH.nil
              have hHd := hHeld
              obtain ⟨d1, e1_, ⟨u0, u1⟩⟩ := HQ.out _ (hHd)
              obtain ⟨q0, q1, q2, q3, q4⟩ := id X
              have E9 := X.set2 s9 A9 n9 c9
              have hne : ∀ b o, A9 = some ⟨b, o, none⟩ → 0 < n9 → b ≠ VE.heap.size := fun b o hA hn => by have h1 := hf9 b o hA hn; have h2 := hlt9; omega
              have T9 := (T9.far (p := ⟨VE.heap.size, 0, none⟩) hne (.bool s9)).far (p := ⟨VE.heap.size, 1, none⟩) hne (.slice A9 n9 c9)
              have hKeep := Below.setCell (Below.setCell hHeld (p := ⟨VE.heap.size, 0, none⟩) hgs (.bool s9)) (p := ⟨VE.heap.size, 1, none⟩) hgs (.slice A9 n9 c9)
              skip
              go_simp
              refine hK.out _ _ (by (try dsimp only); exact hKeep) (fun hHeld => ?_)
              clear hK K hKeep
              try simp only [Act.put, List.setIfInBounds_toArray, List.set_cons_zero, List.set_cons_succ]
              refine wpAnyH_done (by kernel_rfl) ?_ _
              go_wp2_with fail
              go_meet
              case rel => exact ⟨_, s9, A9, n9, c9, rfl, E9, T9, hHeld⟩
        case rest =>
          obtain ⟨gb, s9, A9, n9, c9, rfl, X9, T9, hbx⟩ := hcut
          have KD := KD.below hbx
          have KI := KI.below hbx
          have KF := KF.below hbx
          have KT := KT.below hbx
          have D5 := D5.below hbx
          have K6 := K6.below hbx
          have D7 := D7.below hbx
          have K8 := K8.below hbx
          have hC := since_step hC hbx
          clear hbx
          go_upto_region 11 with fail
          have HQ : Hid (∀ V, Below wc.heap.size wc V → (V.cell? ⟨w.heap.size, 0, none⟩ = some (.int .i64 j.id) ∧ V.cell? ⟨w.heap.size, 1, none⟩ = some (.int .i64 j.mult) ∧ V.cell? ⟨w.heap.size, 2, none⟩ = some (.int .i64 j.price) ∧ V.cell? ⟨w.heap.size, 3, none⟩ = some (.int .i64 j.nxt) ∧ V.cell? ⟨w.heap.size, 4, none⟩ = some (.slice IA j.mv.length IC)) ∧ (V.cell? ⟨gb, 0, none⟩ = some (.bool s9) ∧ V.cell? ⟨gb, 1, none⟩ = some (.slice A9 n9 c9))) := Lib.hid fun V h => ⟨⟨(KI.below h).2 0, (KI.below h).2 1, (KI.below h).2 2, (KI.below h).2 3, (KI.below h).2 4⟩, ⟨(X9.below h).2.1, (X9.below h).2.2.1⟩⟩
          have HYC : Hid (∀ V, Below wc.heap.size wc V → Below y0.heap.size y0 V) := Lib.hid fun V h => hC.trans (h.mono hC.size)
          have HT9 : Hid (∀ V, Below wc.heap.size wc V → BigAt V s9 A9 n9 c9 (v2 - v1)) := Lib.hid fun V h => T9.below h
          clear KD KI KF KT K6 K8 D5 D7 hC X9 T9
          go_wp2_with fail
          refine wp_region_held_drew (S := (fun V => Below wc.heap.size wc V)) (by kernel_rfl) (by exact (Below.refl _ _).drew) (fun hHeld => ?_)
          refine wpAnyH_take (i := 0) (oi := { dst := some 71, op := _, type := _, pos := _, after := _, guard := _ }) (v := ?_) rfl (by kernel_rfl) (by kernel_rfl) (by kernel_rfl) (fun _ _ _ h => h) (Or.inl ⟨by rfl, ?_⟩) hHeld ?_
          rotate_left
          · (intro w hSw; obtain ⟨⟨i0, i1, i2, i3, i4⟩, ⟨q0, q1⟩⟩ := HQ.out _ (hSw); go_simp <;> with_reducible rfl)
          try simp only [Act.put, List.setIfInBounds_toArray, List.set_cons_zero, List.set_cons_succ]
          refine wpAnyH_take (i := 1) (oi := { dst := some 72, op := _, type := _, pos := _, after := _, guard := _ }) (v := ?_) rfl (by kernel_rfl) (by kernel_rfl) (by kernel_rfl) (fun _ _ _ h => h) (Or.inl ⟨by rfl, ?_⟩) hHeld ?_
          rotate_left
          · (intro w hSw; obtain ⟨⟨i0, i1, i2, i3, i4⟩, ⟨q0, q1⟩⟩ := HQ.out _ (hSw); go_simp <;> with_reducible rfl)
          try simp only [Act.put, List.setIfInBounds_toArray, List.set_cons_zero, List.set_cons_succ]
          refine wpAnyH_take (i := 2) (oi := { dst := some 73, op := _, type := _, pos := _, after := _, guard := _ }) (v := ?_) rfl (by kernel_rfl) (by kernel_rfl) (by kernel_rfl) (fun _ _ _ h => h) (Or.inl ⟨by rfl, ?_⟩) hHeld ?_
          rotate_left
          · (intro w hSw; clear hSw; go_simp <;> with_reducible rfl)
          try simp only [Act.put, List.setIfInBounds_toArray, List.set_cons_zero, List.set_cons_succ]
          refine wpAnyH_take (i := 3) (oi := { dst := some 74, op := _, type := _, pos := _, after := _, guard := _ }) (v := ?_) rfl (by kernel_rfl) (by kernel_rfl) (by kernel_rfl) (fun _ _ _ h => h) (Or.inl ⟨by rfl, ?_⟩) hHeld ?_
          rotate_left
          · (intro w hSw; clear hSw; go_simp <;> with_reducible rfl)
          try simp only [Act.put, List.setIfInBounds_toArray, List.set_cons_zero, List.set_cons_succ]
          refine wpAnyH_take (i := 4) (oi := { dst := some 75, op := _, type := _, pos := _, after := _, guard := _ }) (v := ?_) rfl (by kernel_rfl) (by kernel_rfl) (by kernel_rfl) (fun _ _ _ h => h) (Or.inl ⟨by rfl, ?_⟩) hHeld ?_
          rotate_left
          · (intro w hSw; clear hSw; go_simp <;> with_reducible rfl)
          try simp only [Act.put, List.setIfInBounds_toArray, List.set_cons_zero, List.set_cons_succ]
          refine wpAnyH_ready (rs := [5]) (by kernel_rfl) (by simp) ?_
          refine AllReadyH.cons (o := { dst := some 76, op := _, type := _, pos := _, after := _, guard := _ }) rfl (fun K hK => ?_) AllReadyH.nil
          go_simp
          refine (HGN.out _ (HYC.out _ hHeld)).mono ?_
          rintro e x1 ⟨⟨s4, A4, n4, c4, rfl, _, T4⟩, hk1⟩
          have hKeep := since_step hHeld hk1
          rw [← HGE.out] at T4
          clear hk1
          go_wp2_with fail
          refine hK.out _ _ (by (try dsimp only); exact hKeep) (fun hHeld => ?_)
          clear hK K hKeep
          try simp only [Act.put, List.setIfInBounds_toArray, List.set_cons_zero, List.set_cons_succ]
          refine wpAnyH_ready (rs := [6]) (by kernel_rfl) (by simp) ?_
          refine AllReadyH.cons (o := { dst := some 77, op := _, type := _, pos := _, after := _, guard := _ }) rfl (fun K hK => ?_) AllReadyH.nil
          go_simp
          refine (bcmp_any _ _ _ _ _ _ _ _ _ _ _ (by have := (HT9.out _ hHeld).l128 HV128.out.2.2; omega) (by have := T4.l128 HV128.out.2.2; omega) (HT9.out _ hHeld) T4).mono ?_
          rw [cmp_same]
          rintro e x2 ⟨rfl, hk1⟩
          have hKeep := since_step hHeld hk1
          clear T4
          clear hk1
          go_wp2_with fail
          refine hK.out _ _ (by (try dsimp only); exact hKeep) (fun hHeld => ?_)
          clear hK K hKeep
          try simp only [Act.put, List.setIfInBounds_toArray, List.set_cons_zero, List.set_cons_succ]
          refine wpAnyH_take (i := 7) (oi := { dst := some 78, op := _, type := _, pos := _, after := _, guard := _ }) (v := ?_) rfl (by kernel_rfl) (by kernel_rfl) (by kernel_rfl) (fun _ _ _ h => h) (Or.inl ⟨by rfl, ?_⟩) hHeld ?_
          rotate_left
          · (intro w hSw; clear hSw; go_simp <;> with_reducible rfl)
          try simp only [Act.put, List.setIfInBounds_toArray, List.set_cons_zero, List.set_cons_succ]
          refine wpAnyH_take (i := 8) (oi := { dst := some 79, op := _, type := _, pos := _, after := _, guard := _ }) (v := ?_) rfl (by kernel_rfl) (by kernel_rfl) (by kernel_rfl) (fun _ _ _ h => h) (Or.inl ⟨by rfl, ?_⟩) hHeld ?_
          rotate_left
          · (intro w hSw; clear hSw; go_simp <;> with_reducible rfl)
          try simp only [Act.put, List.setIfInBounds_toArray, List.set_cons_zero, List.set_cons_succ]
          refine wpAnyH_ready (rs := [9]) (by kernel_rfl) (by simp) ?_
          refine AllReadyH.cons (o := { dst := some 80, op := _, type := _, pos := _, after := _, guard := _ }) rfl (fun K hK => ?_) AllReadyH.nil
          go_simp
          refine (HLV.out _).mono ?_
          rintro e x3 ⟨rfl, hk1⟩
          have hKeep := since_step hHeld hk1
          clear hk1
          go_wp2_with fail
          refine hK.out _ _ (by (try dsimp only); exact hKeep) (fun hHeld => ?_)
          clear hK K hKeep
          try simp only [Act.put, List.setIfInBounds_toArray, List.set_cons_zero, List.set_cons_succ]
          refine wpAnyH_take (i := 10) (oi := { dst := some 81, op := _, type := _, pos := _, after := _, guard := _ }) (v := ?_) rfl (by kernel_rfl) (by kernel_rfl) (by kernel_rfl) (fun _ _ _ h => h) (Or.inl ⟨by rfl, ?_⟩) hHeld ?_
          rotate_left
          · (intro w hSw; clear hSw; go_simp <;> with_reducible rfl)
          try simp only [Act.put, List.setIfInBounds_toArray, List.set_cons_zero, List.set_cons_succ]
          refine wpAnyH_take (i := 11) (oi := { dst := some 16, op := _, type := _, pos := _, after := _, guard := _ }) (v := ?_) rfl (by kernel_rfl) (by kernel_rfl) (by kernel_rfl) (fun _ _ _ h => h) (Or.inl ⟨by rfl, ?_⟩) hHeld ?_
          rotate_left
          · (intro w hSw; clear hSw; go_simp <;> with_reducible rfl)
          try simp only [Act.put, List.setIfInBounds_toArray, List.set_cons_zero, List.set_cons_succ]
          refine wpAnyH_done (by kernel_rfl) ?_ _
          have hC := HYC.out _ hHeld
          go_wp2_with fail
          go_ret
          exact ⟨rfl, hB.trans (hC.mono hB.size)⟩
      · have bn2 : (n2 != 0) = true := by simpa using hn2
        clear hn2 HNT
        go_wp2_with fail
        refine (HLV.out _).mono ?_
        rintro e z3 ⟨rfl, hb⟩
        have hC := since_step hC hb
        clear hb
        go_wp2_with fail
        go_ret
        exact ⟨rfl, hB.trans (hC.mono hB.size)⟩
    · have bn : (n != 0) = true := by simpa using hn
      clear hn HNT
      go_wp2_with fail
      refine (HLV.out _).mono ?_
      rintro e z2 ⟨rfl, hb⟩
      have hC := since_step hC hb
      clear hb
      go_wp2_with fail
      go_ret
      exact ⟨rfl, hB.trans (hC.mono hB.size)⟩
theorem walk_DealNets (a0 : Option Addr) (n0 c0 : Nat) (a1 : Option Addr) (n1 c1 : Nat) (a2 : Array Value) (a3 : Array Value) (a4 : Array Value) (a5 : Int) (a6 : Int) (a7 : Int) (w : World) (w0 : Rd w (.sl (.cat (.cat (.int .i64) (.cat (.int .i64) .nil)) (.cat (.sl (.cat (.int .i64) (.cat (.int .i64) .nil))) .nil))) [.slice a0 n0 c0]) (w1 : Rd w (.sl (.cat (.cat (.int .i64) (.cat (.int .i64) .nil)) (.cat (.int .i64) .nil))) [.slice a1 n1 c1]) (w2 : Rd w (.cat (.int .i64) (.cat (.int .i64) (.cat (.int .i64) (.cat (.int .i64) (.cat (.sl (.int .i64)) .nil))))) a2.toList) (w3 : Rd w (.cat (.int .i64) (.cat (.int .i64) .nil)) a3.toList) (w4 : Rd w (.cat (.int .i64) (.cat (.int .i64) .nil)) a4.toList) (w5 : (Lit.int .i64 a5).wf = true) (w6 : (Lit.int .i64 a6).wf = true) (w7 : (Lit.int .i64 a7).wf = true) :
    Calls Tryz.prog 5 #[.slice a0 n0 c0, .slice a1 n1 c1, .agg a2, .agg a3, .agg a4, .int .i64 a5, .int .i64 a6, .int .i64 a7] w fun e w' => e = .returned (.bool true) ∧ Below w.heap.size w w' := by
  obtain ⟨l, rfl, _, _, hs0, hd0⟩ := rd_rowsP (f := Po.cells) (fun r => rd_posk) w0
  obtain ⟨p, hp20, hpq, hsp, HF1⟩ := rd_fws w1
  obtain ⟨i, IA, IC, e2, hi0⟩ := rd_inst w2
  obtain ⟨fa, fc, e3, hfa, hfc⟩ := rd_unv w3
  obtain ⟨ta, tc, e4, hta, htc⟩ := rd_unv w4
  rw [e2, e3, e4]
  exact dealnets_any a0 c0 l a1 n1 c1 p i IA IC fa fc ta tc a5 a6 a7 w hs0 hd0 hp20 hpq hsp HF1 hi0 ⟨hfa, hfc⟩ ⟨hta, htc⟩ (bd_i64 w5) (bd_i64 w6) (bd_i64 w7)
end Go.Proofs.YtahdmomadbbhoaaGreat
end
