import Derived.Test.YtahdmomadbbhoaaGreatDg52
section
namespace Go.Proofs.YtahdmomadbbhoaaGreat
open Go.ChangeShapes Go.WideShapes Go.ChangeAt Go.RowKit
set_option linter.unusedVariables false
set_option linter.unusedSimpArgs false

set_option maxHeartbeats 32000000 in
set_option maxRecDepth 100000 in
theorem dealgoes_any (a0 : Option Addr) (c0 : Nat) (l : List Po) (a1 : Option Addr) (n1 c1 : Nat) (p : List Fw) (i : Ins) (IA : Option Addr) (IC : Nat) (fa fc ta tc q pr : Int) (w : World) (hs0 : Sl w a0 (rc Po.cells l)) (hd0 : ∀ g ∈ l, InK w g) (hp20 : p.length ≤ 20) (hpq : ∀ x ∈ p, Fw.in_ x) (hsp : Sl w a1 (rc Fw.cells p)) (HF1 : Hid (∀ V, Below w.heap.size w V → Calls Tryz.prog 29 #[.slice a1 n1 c1] V fun e w' => e = .returned (.slice a1 p.length c1) ∧ Below V.heap.size V w')) (hi0 : InsAt w i IA IC) (hf : In64 fa ∧ In64 fc) (ht : In64 ta ∧ In64 tc) (h_q : In64 q) (h_pr : In64 pr) :
    Calls Tryz.prog 3 #[.slice a0 l.length c0, .slice a1 n1 c1, insV i IA IC, .agg #[.int .i64 fa, .int .i64 fc], .agg #[.int .i64 ta, .int .i64 tc], .int .i64 q, .int .i64 pr] w fun e w' => e = .returned (.bool true) ∧ Below w.heap.size w w' := by
  have hB0 := since_alloc (since_alloc (since_alloc (Below.refl _ w) (.cells #[.int .i64 i.id, .int .i64 i.mult, .int .i64 i.price, .int .i64 i.nxt, .slice IA i.mv.length IC] 26)) (.cells #[.int .i64 fa, .int .i64 fc] 28)) (.cells #[.int .i64 ta, .int .i64 tc] 28)
  have KI := (((IX.new w i IA IC 26).below ((Below.refl _ _).alloc (Nat.le_refl _) (.cells #[.int .i64 fa, .int .i64 fc] 28))).below ((Below.refl _ _).alloc (Nat.le_refl _) (.cells #[.int .i64 ta, .int .i64 tc] 28)))
  have KF := ((Bk.new (w.alloc (.cells #[.int .i64 i.id, .int .i64 i.mult, .int .i64 i.price, .int .i64 i.nxt, .slice IA i.mv.length IC] 26)) #[.int .i64 fa, .int .i64 fc] 28).below ((Below.refl _ _).alloc (Nat.le_refl _) (.cells #[.int .i64 ta, .int .i64 tc] 28)))
  rw [World.size_alloc] at KF
  have KT := (Bk.new ((w.alloc (.cells #[.int .i64 i.id, .int .i64 i.mult, .int .i64 i.price, .int .i64 i.nxt, .slice IA i.mv.length IC] 26)).alloc (.cells #[.int .i64 fa, .int .i64 fc] 28)) #[.int .i64 ta, .int .i64 tc] 28)
  rw [World.size_alloc, World.size_alloc] at KT
  have HFW := Lib.hid (fun V (h : Below w.heap.size w V) => few21v_any a0 c0 l a1 n1 c1 p w V h (hs0.below h) hd0 (Lib.hid fun V' h' => HF1.out V' (since_step h h')))
  unfold FewDV at HFW
  have hON := fun V (h : Below w.heap.size w V) => one21_any i IA IC V (hi0.below h)
  have hj := InsAt.one hi0
  have HSP : Hid (∀ V, Below w.heap.size w V → Sl V a1 (rc Fw.cells p)) := Lib.hid fun V h => hsp.below h
  unfold insV at hON ⊢
  generalize oneI i = j at *
  have HON := Lib.hid hON
  have HIJ : Hid (∀ V, Below w.heap.size w V → InsAt V j IA IC) := Lib.hid fun V h => hj.below h
  have hj6 := hj.n64
  clear hs0 hd0 hsp HF1 hi0 hON hj
  go_enter Tryz.func3, Tryz.ntmps3
  go_upto_region 1 with fail
  generalize hWW : (((w.alloc (.cells #[.int .i64 i.id, .int .i64 i.mult, .int .i64 i.price, .int .i64 i.nxt, .slice IA i.mv.length IC] 26)).alloc (.cells #[.int .i64 fa, .int .i64 fc] 28)).alloc (.cells #[.int .i64 ta, .int .i64 tc] 28)) = W at *
  clear hWW
  go_cut [15] (fun s15 wx => ∃ (g : Nat) (R : List Po) (cs : List Pc) (A' : Option Addr) (c' : Nat), s15 = .pointer (some ⟨g, 0, none⟩) ∧ Bk wx g #[.slice A' R.length c', .slice a1 p.length c1] ∧ Bk wx w.heap.size #[.int .i64 j.id, .int .i64 j.mult, .int .i64 j.price, .int .i64 j.nxt, .slice IA j.mv.length IC] ∧ Bk wx (w.heap.size + 1) #[.int .i64 fa, .int .i64 fc] ∧ Bk wx (w.heap.size + 1 + 1) #[.int .i64 ta, .int .i64 tc] ∧ Sl wx A' (rc Po.cells R) ∧ PoTab w R cs ∧ R.length ≤ 12 ∧ GoodH cs ∧ KeysH cs ∧ Below w.heap.size w wx)
  case first =>
    focus
      have KI := KI.below (Below.refl _ W).drew
      have KF := KF.below (Below.refl _ W).drew
      have KT := KT.below (Below.refl _ W).drew
      go_wp2_with fail
      refine wp_region_held_drew (S := (fun V => Below w.heap.size w V)) (by kernel_rfl) (by exact hB0.drew) (fun hHeld => ?_)
      generalize W.drew = VD at *
      refine tkZ (i := 0) (oi := ⟨some 22, _, _, _, _, _⟩) (v := ?_) rfl (by kernel_rfl) (fun _ _ _ h => h) (Or.inl ⟨by rfl, ?_⟩) hHeld ?_
      rotate_left
      · (intro w hSw; clear hSw; go_simp <;> with_reducible rfl)
      try simp only [pqZ]
      refine tkZ (i := 1) (oi := ⟨some 23, _, _, _, _, _⟩) (v := ?_) rfl (by kernel_rfl) (fun _ _ _ h => h) (Or.inl ⟨by rfl, ?_⟩) hHeld ?_
      rotate_left
      · (intro w hSw; clear hSw; go_simp <;> with_reducible rfl)
      try simp only [pqZ]
      refine wpAnyH_ready (rs := [2, 3, 5]) (by kernel_rfl) (by simp) ?_
      refine AllReadyH.cons (o := ⟨some 24, _, _, _, _, _⟩) rfl (fun K hK => ?_) (AllReadyH.cons (o := ⟨some 25, _, _, _, _, _⟩) rfl (fun K hK => ?_) (AllReadyH.cons (o := ⟨some 15, _, _, _, _, _⟩) rfl (fun K hK => ?_) AllReadyH.nil))
      · go_simp
        refine (HFW.out _ hHeld).mono ?_
        rintro e x1 ⟨⟨R, cs, A', c', rfl, ownR, htR, hR, hg, hk⟩, hk1⟩
        have hKeep := since_step hHeld hk1
        have HL := Lies.of_own ownR
        have HQ := Lib.hid (And.intro htR (And.intro hR (And.intro hg hk)))
        clear ownR htR hR hg hk
        have hB9 := Nat.lt_succ_of_le hHeld.size
        have KI := KI.below hk1
        have KF := KF.below hk1
        have KT := KT.below hk1
        clear hk1
        go_wp2_with fail
        refine hK.out _ _ (by (try dsimp only); exact hKeep) (fun hHeld => ?_)
        clear hK K hKeep
        try simp only [pqZ]
        refine wpAnyH_ready (rs := [3, 5]) (by kernel_rfl) (by simp) ?_
        refine AllReadyH.cons (o := ⟨some 25, _, _, _, _, _⟩) rfl (fun K hK => ?_) (AllReadyH.cons (o := ⟨some 15, _, _, _, _, _⟩) rfl (fun K hK => ?_) AllReadyH.nil)
        · have hHd := hHeld
          skip
          obtain ⟨q_, ⟨r0, r1, r2, r3, r4⟩, q__⟩ := KI.got
          have hKeep := hHeld
          go_simp
          refine hK.out _ _ (by (try dsimp only); exact hKeep) (fun hHeld => ?_)
          clear hK K hKeep
          try simp only [pqZ]
          refine wpAnyH_ready (rs := [4, 5]) (by kernel_rfl) (by simp) ?_
          refine AllReadyH.cons (o := ⟨some 26, _, _, _, _, _⟩) rfl (fun K hK => ?_) (AllReadyH.cons (o := ⟨some 15, _, _, _, _, _⟩) rfl (fun K hK => ?_) AllReadyH.nil)
          · go_simp
            refine (HON.out _ hHeld).mono ?_
            rintro e x2 ⟨rfl, hk2⟩
            have hKeep := since_step hHeld hk2
            have KI := KI.below hk2
            have KF := KF.below hk2
            have KT := KT.below hk2
            have HL := HL.below hk2
            clear hk2
            go_wp2_with fail
            refine hK.out _ _ (by (try dsimp only); exact hKeep) (fun hHeld => ?_)
            clear hK K hKeep
            try simp only [pqZ]
            refine wpAnyH_ready (rs := [5]) (by kernel_rfl) (by simp) ?_
            refine AllReadyH.cons (o := ⟨some 15, _, _, _, _, _⟩) rfl (fun K hK => ?_) AllReadyH.nil
            have hHd := hHeld
            skip
            have hg5 : w.heap.size + 1 + 1 < x2.heap.size := by have h := KT.1; exact h
            have X5 := DB.new x2 30
            have hHp := hHeld
            have hKeep := since_alloc hHeld (.cells #[.slice none 0 0, .slice none 0 0] 30)
            go_simp
            refine hK.out _ _ (by (try dsimp only); exact hKeep) (fun hHeld => ?_)
            clear hK K hKeep
            try simp only [pqZ]
            refine wpAnyH_ready (rs := [6]) (by kernel_rfl) (by simp) ?_
            refine AllReadyH.cons (o := ⟨none, _, _, _, _, _⟩) rfl (fun K hK => ?_) AllReadyH.nil
            have hHd := hHeld
            skip
            obtain ⟨y0, y1, y2, y3, y4⟩ := X5.got
            have D5 := Bk.new x2 #[.slice A' R.length c', .slice a1 p.length c1] 30
            have hA := (Below.refl x2.heap.size x2).alloc (Nat.le_refl _) (.cells #[.slice A' R.length c', .slice a1 p.length c1] 30)
            have KI := KI.below hA
            have KF := KF.below hA
            have KT := KT.below hA
            have HL := HL.below hA
            clear hA
            have hKeep := since_alloc hHp (.cells #[.slice A' R.length c', .slice a1 p.length c1] 30)
            skip
            go_simp
            refine hK.out _ _ (by (try dsimp only); exact hKeep) (fun hHeld => ?_)
            clear hK K hKeep
            try simp only [pqZ]
            refine wpAnyH_ready (rs := [7]) (by kernel_rfl) (by simp) ?_
            refine AllReadyH.cons (o := ⟨none, _, _, _, _, _⟩) rfl (fun K hK => ?_) AllReadyH.nil
            have hHd := hHeld
            skip
            obtain ⟨q_, ⟨r0, r1, r2, r3, r4⟩, ⟨s0, s1, s2, s3, s4⟩⟩ := KI.got
            have D0 := KI.set (.int .i64 j.id) (.int .i64 j.mult) (.int .i64 j.price) (.int .i64 j.nxt) (.slice IA j.mv.length IC)
            have KF := KF.far2 (p := ⟨w.heap.size, 0, none⟩) (by show w.heap.size ≠ w.heap.size + 1; omega) (.int .i64 j.id)
            have KT := KT.far2 (p := ⟨w.heap.size, 0, none⟩) (by show w.heap.size ≠ w.heap.size + 1 + 1; omega) (.int .i64 j.id)
            have D5 := D5.far2 (p := ⟨w.heap.size, 0, none⟩) (by show w.heap.size ≠ x2.heap.size; omega) (.int .i64 j.id)
            have HL := HL.set (p := ⟨w.heap.size, 0, none⟩) (.inl hB9) (.int .i64 j.id)
            have KF := KF.far2 (p := ⟨w.heap.size, 1, none⟩) (by show w.heap.size ≠ w.heap.size + 1; omega) (.int .i64 j.mult)
            have KT := KT.far2 (p := ⟨w.heap.size, 1, none⟩) (by show w.heap.size ≠ w.heap.size + 1 + 1; omega) (.int .i64 j.mult)
            have D5 := D5.far2 (p := ⟨w.heap.size, 1, none⟩) (by show w.heap.size ≠ x2.heap.size; omega) (.int .i64 j.mult)
            have HL := HL.set (p := ⟨w.heap.size, 1, none⟩) (.inl hB9) (.int .i64 j.mult)
            have KF := KF.far2 (p := ⟨w.heap.size, 2, none⟩) (by show w.heap.size ≠ w.heap.size + 1; omega) (.int .i64 j.price)
            have KT := KT.far2 (p := ⟨w.heap.size, 2, none⟩) (by show w.heap.size ≠ w.heap.size + 1 + 1; omega) (.int .i64 j.price)
            have D5 := D5.far2 (p := ⟨w.heap.size, 2, none⟩) (by show w.heap.size ≠ x2.heap.size; omega) (.int .i64 j.price)
            have HL := HL.set (p := ⟨w.heap.size, 2, none⟩) (.inl hB9) (.int .i64 j.price)
            have KF := KF.far2 (p := ⟨w.heap.size, 3, none⟩) (by show w.heap.size ≠ w.heap.size + 1; omega) (.int .i64 j.nxt)
            have KT := KT.far2 (p := ⟨w.heap.size, 3, none⟩) (by show w.heap.size ≠ w.heap.size + 1 + 1; omega) (.int .i64 j.nxt)
            have D5 := D5.far2 (p := ⟨w.heap.size, 3, none⟩) (by show w.heap.size ≠ x2.heap.size; omega) (.int .i64 j.nxt)
            have HL := HL.set (p := ⟨w.heap.size, 3, none⟩) (.inl hB9) (.int .i64 j.nxt)
            have KF := KF.far2 (p := ⟨w.heap.size, 4, none⟩) (by show w.heap.size ≠ w.heap.size + 1; omega) (.slice IA j.mv.length IC)
            have KT := KT.far2 (p := ⟨w.heap.size, 4, none⟩) (by show w.heap.size ≠ w.heap.size + 1 + 1; omega) (.slice IA j.mv.length IC)
            have D5 := D5.far2 (p := ⟨w.heap.size, 4, none⟩) (by show w.heap.size ≠ x2.heap.size; omega) (.slice IA j.mv.length IC)
            have HL := HL.set (p := ⟨w.heap.size, 4, none⟩) (.inl hB9) (.slice IA j.mv.length IC)
            have hKeep := (Below.setCell (Below.setCell (Below.setCell (Below.setCell (Below.setCell hHeld (p := ⟨w.heap.size, 0, none⟩) (Nat.le_refl _) (.int .i64 j.id)) (p := ⟨w.heap.size, 1, none⟩) (Nat.le_refl _) (.int .i64 j.mult)) (p := ⟨w.heap.size, 2, none⟩) (Nat.le_refl _) (.int .i64 j.price)) (p := ⟨w.heap.size, 3, none⟩) (Nat.le_refl _) (.int .i64 j.nxt)) (p := ⟨w.heap.size, 4, none⟩) (Nat.le_refl _) (.slice IA j.mv.length IC))
            skip
            go_simp
            refine hK.out _ _ (by (try dsimp only); exact hKeep) (fun hHeld => ?_)
            clear hK K hKeep
            try simp only [pqZ]
            refine wpAnyH_done (by kernel_rfl) ?_ _
            go_wp2_with fail
            go_meet
            case rel => exact ⟨_, R, cs, A', c', rfl, D5, D0, KF, KT, HL.1, HQ.out.1, HQ.out.2.1, HQ.out.2.2.1, HQ.out.2.2.2, hHeld⟩
          · have hHd := hHeld
            skip
            have hg5 : w.heap.size + 1 + 1 < x1.heap.size := by have h := KT.1; exact h
            have X5 := DB.new x1 30
            have hHp := hHeld
            have hA := (Below.refl x1.heap.size x1).alloc (Nat.le_refl _) (.cells #[.slice none 0 0, .slice none 0 0] 30)
            have KI := KI.below hA
            have KF := KF.below hA
            have KT := KT.below hA
            have HL := HL.below hA
            clear hA
            have hX5 : x1.heap.size ≤ x1.heap.size := Nat.le_refl _
            have hKeep := since_alloc hHeld (.cells #[.slice none 0 0, .slice none 0 0] 30)
            go_simp
            refine hK.out _ _ (by (try dsimp only); exact hKeep) (fun hHeld => ?_)
            clear hK K hKeep
            try simp only [pqZ]
            refine wpAnyH_ready (rs := [4]) (by kernel_rfl) (by simp) ?_
            refine AllReadyH.cons (o := ⟨some 26, _, _, _, _, _⟩) rfl (fun K hK => ?_) AllReadyH.nil
            go_simp
            refine (HON.out _ hHeld).mono ?_
            rintro e x2 ⟨rfl, hk2⟩
            have hKeep := since_step hHeld hk2
            have KI := KI.below hk2
            have KF := KF.below hk2
            have KT := KT.below hk2
            have HL := HL.below hk2
            have X5 := X5.below hk2
            clear hk2
            go_wp2_with fail
            refine hK.out _ _ (by (try dsimp only); exact hKeep) (fun hHeld => ?_)
            clear hK K hKeep
            try simp only [pqZ]
            refine wpAnyH_ready (rs := [6]) (by kernel_rfl) (by simp) ?_
            refine AllReadyH.cons (o := ⟨none, _, _, _, _, _⟩) rfl (fun K hK => ?_) AllReadyH.nil
            have hHd := hHeld
            skip
            obtain ⟨y0, y1, y2, y3, y4⟩ := X5.got
            have D5 := X5.set (.slice A' R.length c') (.slice a1 p.length c1)
            have KI := KI.far (p := ⟨x1.heap.size, 0, none⟩) (by show x1.heap.size ≠ w.heap.size; omega) (.slice A' R.length c')
            have KF := KF.far2 (p := ⟨x1.heap.size, 0, none⟩) (by show x1.heap.size ≠ w.heap.size + 1; omega) (.slice A' R.length c')
            have KT := KT.far2 (p := ⟨x1.heap.size, 0, none⟩) (by show x1.heap.size ≠ w.heap.size + 1 + 1; omega) (.slice A' R.length c')
            have HL := HL.set (p := ⟨x1.heap.size, 0, none⟩) (.inr hX5) (.slice A' R.length c')
            have KI := KI.far (p := ⟨x1.heap.size, 1, none⟩) (by show x1.heap.size ≠ w.heap.size; omega) (.slice a1 p.length c1)
            have KF := KF.far2 (p := ⟨x1.heap.size, 1, none⟩) (by show x1.heap.size ≠ w.heap.size + 1; omega) (.slice a1 p.length c1)
            have KT := KT.far2 (p := ⟨x1.heap.size, 1, none⟩) (by show x1.heap.size ≠ w.heap.size + 1 + 1; omega) (.slice a1 p.length c1)
            have HL := HL.set (p := ⟨x1.heap.size, 1, none⟩) (.inr hX5) (.slice a1 p.length c1)
            have hgw : w.heap.size ≤ x1.heap.size := by omega
            have hKeep := Below.setCell (Below.setCell hHeld (p := ⟨x1.heap.size, 0, none⟩) hgw (.slice A' R.length c')) (p := ⟨x1.heap.size, 1, none⟩) hgw (.slice a1 p.length c1)
            skip
            go_simp
            refine hK.out _ _ (by (try dsimp only); exact hKeep) (fun hHeld => ?_)
            clear hK K hKeep
            try simp only [pqZ]
            refine wpAnyH_ready (rs := [7]) (by kernel_rfl) (by simp) ?_
            refine AllReadyH.cons (o := ⟨none, _, _, _, _, _⟩) rfl (fun K hK => ?_) AllReadyH.nil
            have hHd := hHeld
            skip
            obtain ⟨q_, ⟨r0, r1, r2, r3, r4⟩, ⟨s0, s1, s2, s3, s4⟩⟩ := KI.got
            have D0 := KI.set (.int .i64 j.id) (.int .i64 j.mult) (.int .i64 j.price) (.int .i64 j.nxt) (.slice IA j.mv.length IC)
            have KF := KF.far2 (p := ⟨w.heap.size, 0, none⟩) (by show w.heap.size ≠ w.heap.size + 1; omega) (.int .i64 j.id)
            have KT := KT.far2 (p := ⟨w.heap.size, 0, none⟩) (by show w.heap.size ≠ w.heap.size + 1 + 1; omega) (.int .i64 j.id)
            have D5 := D5.far2 (p := ⟨w.heap.size, 0, none⟩) (by show w.heap.size ≠ x1.heap.size; omega) (.int .i64 j.id)
            have HL := HL.set (p := ⟨w.heap.size, 0, none⟩) (.inl hB9) (.int .i64 j.id)
            have KF := KF.far2 (p := ⟨w.heap.size, 1, none⟩) (by show w.heap.size ≠ w.heap.size + 1; omega) (.int .i64 j.mult)
            have KT := KT.far2 (p := ⟨w.heap.size, 1, none⟩) (by show w.heap.size ≠ w.heap.size + 1 + 1; omega) (.int .i64 j.mult)
            have D5 := D5.far2 (p := ⟨w.heap.size, 1, none⟩) (by show w.heap.size ≠ x1.heap.size; omega) (.int .i64 j.mult)
            have HL := HL.set (p := ⟨w.heap.size, 1, none⟩) (.inl hB9) (.int .i64 j.mult)
            have KF := KF.far2 (p := ⟨w.heap.size, 2, none⟩) (by show w.heap.size ≠ w.heap.size + 1; omega) (.int .i64 j.price)
            have KT := KT.far2 (p := ⟨w.heap.size, 2, none⟩) (by show w.heap.size ≠ w.heap.size + 1 + 1; omega) (.int .i64 j.price)
            have D5 := D5.far2 (p := ⟨w.heap.size, 2, none⟩) (by show w.heap.size ≠ x1.heap.size; omega) (.int .i64 j.price)
            have HL := HL.set (p := ⟨w.heap.size, 2, none⟩) (.inl hB9) (.int .i64 j.price)
            have KF := KF.far2 (p := ⟨w.heap.size, 3, none⟩) (by show w.heap.size ≠ w.heap.size + 1; omega) (.int .i64 j.nxt)
            have KT := KT.far2 (p := ⟨w.heap.size, 3, none⟩) (by show w.heap.size ≠ w.heap.size + 1 + 1; omega) (.int .i64 j.nxt)
            have D5 := D5.far2 (p := ⟨w.heap.size, 3, none⟩) (by show w.heap.size ≠ x1.heap.size; omega) (.int .i64 j.nxt)
            have HL := HL.set (p := ⟨w.heap.size, 3, none⟩) (.inl hB9) (.int .i64 j.nxt)
            have KF := KF.far2 (p := ⟨w.heap.size, 4, none⟩) (by show w.heap.size ≠ w.heap.size + 1; omega) (.slice IA j.mv.length IC)
            have KT := KT.far2 (p := ⟨w.heap.size, 4, none⟩) (by show w.heap.size ≠ w.heap.size + 1 + 1; omega) (.slice IA j.mv.length IC)
            have D5 := D5.far2 (p := ⟨w.heap.size, 4, none⟩) (by show w.heap.size ≠ x1.heap.size; omega) (.slice IA j.mv.length IC)
            have HL := HL.set (p := ⟨w.heap.size, 4, none⟩) (.inl hB9) (.slice IA j.mv.length IC)
            have hKeep := (Below.setCell (Below.setCell (Below.setCell (Below.setCell (Below.setCell hHeld (p := ⟨w.heap.size, 0, none⟩) (Nat.le_refl _) (.int .i64 j.id)) (p := ⟨w.heap.size, 1, none⟩) (Nat.le_refl _) (.int .i64 j.mult)) (p := ⟨w.heap.size, 2, none⟩) (Nat.le_refl _) (.int .i64 j.price)) (p := ⟨w.heap.size, 3, none⟩) (Nat.le_refl _) (.int .i64 j.nxt)) (p := ⟨w.heap.size, 4, none⟩) (Nat.le_refl _) (.slice IA j.mv.length IC))
            skip
            go_simp
            refine hK.out _ _ (by (try dsimp only); exact hKeep) (fun hHeld => ?_)
            clear hK K hKeep
            try simp only [pqZ]
            refine wpAnyH_done (by kernel_rfl) ?_ _
            go_wp2_with fail
            go_meet
            case rel => exact ⟨_, R, cs, A', c', rfl, D5, D0, KF, KT, HL.1, HQ.out.1, HQ.out.2.1, HQ.out.2.2.1, HQ.out.2.2.2, hHeld⟩
        · have hHd := hHeld
          skip
          have hg5 : w.heap.size + 1 + 1 < x1.heap.size := by have h := KT.1; exact h
          have X5 := DB.new x1 30
          have hHp := hHeld
          have hA := (Below.refl x1.heap.size x1).alloc (Nat.le_refl _) (.cells #[.slice none 0 0, .slice none 0 0] 30)
          have KI := KI.below hA
          have KF := KF.below hA
          have KT := KT.below hA
          have HL := HL.below hA
          clear hA
          have hX5 : x1.heap.size ≤ x1.heap.size := Nat.le_refl _
          have hKeep := since_alloc hHeld (.cells #[.slice none 0 0, .slice none 0 0] 30)
          go_simp
          refine hK.out _ _ (by (try dsimp only); exact hKeep) (fun hHeld => ?_)
          clear hK K hKeep
          try simp only [pqZ]
          refine wpAnyH_ready (rs := [3]) (by kernel_rfl) (by simp) ?_
          refine AllReadyH.cons (o := ⟨some 25, _, _, _, _, _⟩) rfl (fun K hK => ?_) AllReadyH.nil
          have hHd := hHeld
          skip
          obtain ⟨q_, ⟨r0, r1, r2, r3, r4⟩, q__⟩ := KI.got
          have hKeep := hHeld
          go_simp
          refine hK.out _ _ (by (try dsimp only); exact hKeep) (fun hHeld => ?_)
          clear hK K hKeep
          try simp only [pqZ]
          refine wpAnyH_ready (rs := [4]) (by kernel_rfl) (by simp) ?_
          refine AllReadyH.cons (o := ⟨some 26, _, _, _, _, _⟩) rfl (fun K hK => ?_) AllReadyH.nil
          go_simp
          refine (HON.out _ hHeld).mono ?_
          rintro e x2 ⟨rfl, hk2⟩
          have hKeep := since_step hHeld hk2
          have KI := KI.below hk2
          have KF := KF.below hk2
          have KT := KT.below hk2
          have HL := HL.below hk2
          have X5 := X5.below hk2
          clear hk2
          go_wp2_with fail
          refine hK.out _ _ (by (try dsimp only); exact hKeep) (fun hHeld => ?_)
          clear hK K hKeep
          try simp only [pqZ]
          refine wpAnyH_ready (rs := [6]) (by kernel_rfl) (by simp) ?_
          refine AllReadyH.cons (o := ⟨none, _, _, _, _, _⟩) rfl (fun K hK => ?_) AllReadyH.nil
          have hHd := hHeld
          skip
          obtain ⟨y0, y1, y2, y3, y4⟩ := X5.got
          have D5 := X5.set (.slice A' R.length c') (.slice a1 p.length c1)
          have KI := KI.far (p := ⟨x1.heap.size, 0, none⟩) (by show x1.heap.size ≠ w.heap.size; omega) (.slice A' R.length c')
          have KF := KF.far2 (p := ⟨x1.heap.size, 0, none⟩) (by show x1.heap.size ≠ w.heap.size + 1; omega) (.slice A' R.length c')
          have KT := KT.far2 (p := ⟨x1.heap.size, 0, none⟩) (by show x1.heap.size ≠ w.heap.size + 1 + 1; omega) (.slice A' R.length c')
          have HL := HL.set (p := ⟨x1.heap.size, 0, none⟩) (.inr hX5) (.slice A' R.length c')
          have KI := KI.far (p := ⟨x1.heap.size, 1, none⟩) (by show x1.heap.size ≠ w.heap.size; omega) (.slice a1 p.length c1)
          have KF := KF.far2 (p := ⟨x1.heap.size, 1, none⟩) (by show x1.heap.size ≠ w.heap.size + 1; omega) (.slice a1 p.length c1)
          have KT := KT.far2 (p := ⟨x1.heap.size, 1, none⟩) (by show x1.heap.size ≠ w.heap.size + 1 + 1; omega) (.slice a1 p.length c1)
          have HL := HL.set (p := ⟨x1.heap.size, 1, none⟩) (.inr hX5) (.slice a1 p.length c1)
          have hgw : w.heap.size ≤ x1.heap.size := by omega
          have hKeep := Below.setCell (Below.setCell hHeld (p := ⟨x1.heap.size, 0, none⟩) hgw (.slice A' R.length c')) (p := ⟨x1.heap.size, 1, none⟩) hgw (.slice a1 p.length c1)
          skip
          go_simp
          refine hK.out _ _ (by (try dsimp only); exact hKeep) (fun hHeld => ?_)
          clear hK K hKeep
          try simp only [pqZ]
          refine wpAnyH_ready (rs := [7]) (by kernel_rfl) (by simp) ?_
          refine AllReadyH.cons (o := ⟨none, _, _, _, _, _⟩) rfl (fun K hK => ?_) AllReadyH.nil
          have hHd := hHeld
          skip
          obtain ⟨q_, ⟨r0, r1, r2, r3, r4⟩, ⟨s0, s1, s2, s3, s4⟩⟩ := KI.got
          have D0 := KI.set (.int .i64 j.id) (.int .i64 j.mult) (.int .i64 j.price) (.int .i64 j.nxt) (.slice IA j.mv.length IC)
          have KF := KF.far2 (p := ⟨w.heap.size, 0, none⟩) (by show w.heap.size ≠ w.heap.size + 1; omega) (.int .i64 j.id)
          have KT := KT.far2 (p := ⟨w.heap.size, 0, none⟩) (by show w.heap.size ≠ w.heap.size + 1 + 1; omega) (.int .i64 j.id)
          have D5 := D5.far2 (p := ⟨w.heap.size, 0, none⟩) (by show w.heap.size ≠ x1.heap.size; omega) (.int .i64 j.id)
          have HL := HL.set (p := ⟨w.heap.size, 0, none⟩) (.inl hB9) (.int .i64 j.id)
          have KF := KF.far2 (p := ⟨w.heap.size, 1, none⟩) (by show w.heap.size ≠ w.heap.size + 1; omega) (.int .i64 j.mult)
          have KT := KT.far2 (p := ⟨w.heap.size, 1, none⟩) (by show w.heap.size ≠ w.heap.size + 1 + 1; omega) (.int .i64 j.mult)
          have D5 := D5.far2 (p := ⟨w.heap.size, 1, none⟩) (by show w.heap.size ≠ x1.heap.size; omega) (.int .i64 j.mult)
          have HL := HL.set (p := ⟨w.heap.size, 1, none⟩) (.inl hB9) (.int .i64 j.mult)
          have KF := KF.far2 (p := ⟨w.heap.size, 2, none⟩) (by show w.heap.size ≠ w.heap.size + 1; omega) (.int .i64 j.price)
          have KT := KT.far2 (p := ⟨w.heap.size, 2, none⟩) (by show w.heap.size ≠ w.heap.size + 1 + 1; omega) (.int .i64 j.price)
          have D5 := D5.far2 (p := ⟨w.heap.size, 2, none⟩) (by show w.heap.size ≠ x1.heap.size; omega) (.int .i64 j.price)
          have HL := HL.set (p := ⟨w.heap.size, 2, none⟩) (.inl hB9) (.int .i64 j.price)
          have KF := KF.far2 (p := ⟨w.heap.size, 3, none⟩) (by show w.heap.size ≠ w.heap.size + 1; omega) (.int .i64 j.nxt)
          have KT := KT.far2 (p := ⟨w.heap.size, 3, none⟩) (by show w.heap.size ≠ w.heap.size + 1 + 1; omega) (.int .i64 j.nxt)
          have D5 := D5.far2 (p := ⟨w.heap.size, 3, none⟩) (by show w.heap.size ≠ x1.heap.size; omega) (.int .i64 j.nxt)
          have HL := HL.set (p := ⟨w.heap.size, 3, none⟩) (.inl hB9) (.int .i64 j.nxt)
          have KF := KF.far2 (p := ⟨w.heap.size, 4, none⟩) (by show w.heap.size ≠ w.heap.size + 1; omega) (.slice IA j.mv.length IC)
          have KT := KT.far2 (p := ⟨w.heap.size, 4, none⟩) (by show w.heap.size ≠ w.heap.size + 1 + 1; omega) (.slice IA j.mv.length IC)
          have D5 := D5.far2 (p := ⟨w.heap.size, 4, none⟩) (by show w.heap.size ≠ x1.heap.size; omega) (.slice IA j.mv.length IC)
          have HL := HL.set (p := ⟨w.heap.size, 4, none⟩) (.inl hB9) (.slice IA j.mv.length IC)
          have hKeep := (Below.setCell (Below.setCell (Below.setCell (Below.setCell (Below.setCell hHeld (p := ⟨w.heap.size, 0, none⟩) (Nat.le_refl _) (.int .i64 j.id)) (p := ⟨w.heap.size, 1, none⟩) (Nat.le_refl _) (.int .i64 j.mult)) (p := ⟨w.heap.size, 2, none⟩) (Nat.le_refl _) (.int .i64 j.price)) (p := ⟨w.heap.size, 3, none⟩) (Nat.le_refl _) (.int .i64 j.nxt)) (p := ⟨w.heap.size, 4, none⟩) (Nat.le_refl _) (.slice IA j.mv.length IC))
          skip
          go_simp
          refine hK.out _ _ (by (try dsimp only); exact hKeep) (fun hHeld => ?_)
          clear hK K hKeep
          try simp only [pqZ]
          refine wpAnyH_done (by kernel_rfl) ?_ _
          go_wp2_with fail
          go_meet
          case rel => exact ⟨_, R, cs, A', c', rfl, D5, D0, KF, KT, HL.1, HQ.out.1, HQ.out.2.1, HQ.out.2.2.1, HQ.out.2.2.2, hHeld⟩
      · have hHd := hHeld
        skip
        obtain ⟨q_, ⟨r0, r1, r2, r3, r4⟩, q__⟩ := KI.got
        have hKeep := hHeld
        go_simp
        refine hK.out _ _ (by (try dsimp only); exact hKeep) (fun hHeld => ?_)
        clear hK K hKeep
        try simp only [pqZ]
        refine wpAnyH_ready (rs := [2, 5]) (by kernel_rfl) (by simp) ?_
        refine AllReadyH.cons (o := ⟨some 24, _, _, _, _, _⟩) rfl (fun K hK => ?_) (AllReadyH.cons (o := ⟨some 15, _, _, _, _, _⟩) rfl (fun K hK => ?_) AllReadyH.nil)
        · go_simp
          refine (HFW.out _ hHeld).mono ?_
          rintro e x1 ⟨⟨R, cs, A', c', rfl, ownR, htR, hR, hg, hk⟩, hk1⟩
          have hKeep := since_step hHeld hk1
          have HL := Lies.of_own ownR
          have HQ := Lib.hid (And.intro htR (And.intro hR (And.intro hg hk)))
          clear ownR htR hR hg hk
          have hB9 := Nat.lt_succ_of_le hHeld.size
          have KI := KI.below hk1
          have KF := KF.below hk1
          have KT := KT.below hk1
          clear hk1
          go_wp2_with fail
          refine hK.out _ _ (by (try dsimp only); exact hKeep) (fun hHeld => ?_)
          clear hK K hKeep
          try simp only [pqZ]
          refine wpAnyH_ready (rs := [4, 5]) (by kernel_rfl) (by simp) ?_
          refine AllReadyH.cons (o := ⟨some 26, _, _, _, _, _⟩) rfl (fun K hK => ?_) (AllReadyH.cons (o := ⟨some 15, _, _, _, _, _⟩) rfl (fun K hK => ?_) AllReadyH.nil)
          · go_simp
            refine (HON.out _ hHeld).mono ?_
            rintro e x2 ⟨rfl, hk2⟩
            have hKeep := since_step hHeld hk2
            have KI := KI.below hk2
            have KF := KF.below hk2
            have KT := KT.below hk2
            have HL := HL.below hk2
            clear hk2
            go_wp2_with fail
            refine hK.out _ _ (by (try dsimp only); exact hKeep) (fun hHeld => ?_)
            clear hK K hKeep
            try simp only [pqZ]
            refine wpAnyH_ready (rs := [5]) (by kernel_rfl) (by simp) ?_
            refine AllReadyH.cons (o := ⟨some 15, _, _, _, _, _⟩) rfl (fun K hK => ?_) AllReadyH.nil
            have hHd := hHeld
            skip
            have hg5 : w.heap.size + 1 + 1 < x2.heap.size := by have h := KT.1; exact h
            have X5 := DB.new x2 30
            have hHp := hHeld
            have hKeep := since_alloc hHeld (.cells #[.slice none 0 0, .slice none 0 0] 30)
            go_simp
            refine hK.out _ _ (by (try dsimp only); exact hKeep) (fun hHeld => ?_)
            clear hK K hKeep
            try simp only [pqZ]
            refine wpAnyH_ready (rs := [6]) (by kernel_rfl) (by simp) ?_
            refine AllReadyH.cons (o := ⟨none, _, _, _, _, _⟩) rfl (fun K hK => ?_) AllReadyH.nil
            have hHd := hHeld
            skip
            obtain ⟨y0, y1, y2, y3, y4⟩ := X5.got
            have D5 := Bk.new x2 #[.slice A' R.length c', .slice a1 p.length c1] 30
            have hA := (Below.refl x2.heap.size x2).alloc (Nat.le_refl _) (.cells #[.slice A' R.length c', .slice a1 p.length c1] 30)
            have KI := KI.below hA
            have KF := KF.below hA
            have KT := KT.below hA
            have HL := HL.below hA
            clear hA
            have hKeep := since_alloc hHp (.cells #[.slice A' R.length c', .slice a1 p.length c1] 30)
            skip
            go_simp
            refine hK.out _ _ (by (try dsimp only); exact hKeep) (fun hHeld => ?_)
            clear hK K hKeep
            try simp only [pqZ]
            refine wpAnyH_ready (rs := [7]) (by kernel_rfl) (by simp) ?_
            refine AllReadyH.cons (o := ⟨none, _, _, _, _, _⟩) rfl (fun K hK => ?_) AllReadyH.nil
            have hHd := hHeld
            skip
            obtain ⟨q_, ⟨r0, r1, r2, r3, r4⟩, ⟨s0, s1, s2, s3, s4⟩⟩ := KI.got
            have D0 := KI.set (.int .i64 j.id) (.int .i64 j.mult) (.int .i64 j.price) (.int .i64 j.nxt) (.slice IA j.mv.length IC)
            have KF := KF.far2 (p := ⟨w.heap.size, 0, none⟩) (by show w.heap.size ≠ w.heap.size + 1; omega) (.int .i64 j.id)
            have KT := KT.far2 (p := ⟨w.heap.size, 0, none⟩) (by show w.heap.size ≠ w.heap.size + 1 + 1; omega) (.int .i64 j.id)
            have D5 := D5.far2 (p := ⟨w.heap.size, 0, none⟩) (by show w.heap.size ≠ x2.heap.size; omega) (.int .i64 j.id)
            have HL := HL.set (p := ⟨w.heap.size, 0, none⟩) (.inl hB9) (.int .i64 j.id)
            have KF := KF.far2 (p := ⟨w.heap.size, 1, none⟩) (by show w.heap.size ≠ w.heap.size + 1; omega) (.int .i64 j.mult)
            have KT := KT.far2 (p := ⟨w.heap.size, 1, none⟩) (by show w.heap.size ≠ w.heap.size + 1 + 1; omega) (.int .i64 j.mult)
            have D5 := D5.far2 (p := ⟨w.heap.size, 1, none⟩) (by show w.heap.size ≠ x2.heap.size; omega) (.int .i64 j.mult)
            have HL := HL.set (p := ⟨w.heap.size, 1, none⟩) (.inl hB9) (.int .i64 j.mult)
            have KF := KF.far2 (p := ⟨w.heap.size, 2, none⟩) (by show w.heap.size ≠ w.heap.size + 1; omega) (.int .i64 j.price)
            have KT := KT.far2 (p := ⟨w.heap.size, 2, none⟩) (by show w.heap.size ≠ w.heap.size + 1 + 1; omega) (.int .i64 j.price)
            have D5 := D5.far2 (p := ⟨w.heap.size, 2, none⟩) (by show w.heap.size ≠ x2.heap.size; omega) (.int .i64 j.price)
            have HL := HL.set (p := ⟨w.heap.size, 2, none⟩) (.inl hB9) (.int .i64 j.price)
            have KF := KF.far2 (p := ⟨w.heap.size, 3, none⟩) (by show w.heap.size ≠ w.heap.size + 1; omega) (.int .i64 j.nxt)
            have KT := KT.far2 (p := ⟨w.heap.size, 3, none⟩) (by show w.heap.size ≠ w.heap.size + 1 + 1; omega) (.int .i64 j.nxt)
            have D5 := D5.far2 (p := ⟨w.heap.size, 3, none⟩) (by show w.heap.size ≠ x2.heap.size; omega) (.int .i64 j.nxt)
            have HL := HL.set (p := ⟨w.heap.size, 3, none⟩) (.inl hB9) (.int .i64 j.nxt)
            have KF := KF.far2 (p := ⟨w.heap.size, 4, none⟩) (by show w.heap.size ≠ w.heap.size + 1; omega) (.slice IA j.mv.length IC)
            have KT := KT.far2 (p := ⟨w.heap.size, 4, none⟩) (by show w.heap.size ≠ w.heap.size + 1 + 1; omega) (.slice IA j.mv.length IC)
            have D5 := D5.far2 (p := ⟨w.heap.size, 4, none⟩) (by show w.heap.size ≠ x2.heap.size; omega) (.slice IA j.mv.length IC)
            have HL := HL.set (p := ⟨w.heap.size, 4, none⟩) (.inl hB9) (.slice IA j.mv.length IC)
            have hKeep := (Below.setCell (Below.setCell (Below.setCell (Below.setCell (Below.setCell hHeld (p := ⟨w.heap.size, 0, none⟩) (Nat.le_refl _) (.int .i64 j.id)) (p := ⟨w.heap.size, 1, none⟩) (Nat.le_refl _) (.int .i64 j.mult)) (p := ⟨w.heap.size, 2, none⟩) (Nat.le_refl _) (.int .i64 j.price)) (p := ⟨w.heap.size, 3, none⟩) (Nat.le_refl _) (.int .i64 j.nxt)) (p := ⟨w.heap.size, 4, none⟩) (Nat.le_refl _) (.slice IA j.mv.length IC))
            skip
            go_simp
            refine hK.out _ _ (by (try dsimp only); exact hKeep) (fun hHeld => ?_)
            clear hK K hKeep
            try simp only [pqZ]
            refine wpAnyH_done (by kernel_rfl) ?_ _
            go_wp2_with fail
            go_meet
            case rel => exact ⟨_, R, cs, A', c', rfl, D5, D0, KF, KT, HL.1, HQ.out.1, HQ.out.2.1, HQ.out.2.2.1, HQ.out.2.2.2, hHeld⟩
          · have hHd := hHeld
            skip
            have hg5 : w.heap.size + 1 + 1 < x1.heap.size := by have h := KT.1; exact h
            have X5 := DB.new x1 30
            have hHp := hHeld
            have hA := (Below.refl x1.heap.size x1).alloc (Nat.le_refl _) (.cells #[.slice none 0 0, .slice none 0 0] 30)
            have KI := KI.below hA
            have KF := KF.below hA
            have KT := KT.below hA
            have HL := HL.below hA
            clear hA
            have hX5 : x1.heap.size ≤ x1.heap.size := Nat.le_refl _
            have hKeep := since_alloc hHeld (.cells #[.slice none 0 0, .slice none 0 0] 30)
            go_simp
            refine hK.out _ _ (by (try dsimp only); exact hKeep) (fun hHeld => ?_)
            clear hK K hKeep
            try simp only [pqZ]
            refine wpAnyH_ready (rs := [4]) (by kernel_rfl) (by simp) ?_
            refine AllReadyH.cons (o := ⟨some 26, _, _, _, _, _⟩) rfl (fun K hK => ?_) AllReadyH.nil
            go_simp
            refine (HON.out _ hHeld).mono ?_
            rintro e x2 ⟨rfl, hk2⟩
            have hKeep := since_step hHeld hk2
            have KI := KI.below hk2
            have KF := KF.below hk2
            have KT := KT.below hk2
            have HL := HL.below hk2
            have X5 := X5.below hk2
            clear hk2
            go_wp2_with fail
            refine hK.out _ _ (by (try dsimp only); exact hKeep) (fun hHeld => ?_)
            clear hK K hKeep
            try simp only [pqZ]
            refine wpAnyH_ready (rs := [6]) (by kernel_rfl) (by simp) ?_
            refine AllReadyH.cons (o := ⟨none, _, _, _, _, _⟩) rfl (fun K hK => ?_) AllReadyH.nil
            have hHd := hHeld
            skip
            obtain ⟨y0, y1, y2, y3, y4⟩ := X5.got
            have D5 := X5.set (.slice A' R.length c') (.slice a1 p.length c1)
            have KI := KI.far (p := ⟨x1.heap.size, 0, none⟩) (by show x1.heap.size ≠ w.heap.size; omega) (.slice A' R.length c')
            have KF := KF.far2 (p := ⟨x1.heap.size, 0, none⟩) (by show x1.heap.size ≠ w.heap.size + 1; omega) (.slice A' R.length c')
            have KT := KT.far2 (p := ⟨x1.heap.size, 0, none⟩) (by show x1.heap.size ≠ w.heap.size + 1 + 1; omega) (.slice A' R.length c')
            have HL := HL.set (p := ⟨x1.heap.size, 0, none⟩) (.inr hX5) (.slice A' R.length c')
            have KI := KI.far (p := ⟨x1.heap.size, 1, none⟩) (by show x1.heap.size ≠ w.heap.size; omega) (.slice a1 p.length c1)
            have KF := KF.far2 (p := ⟨x1.heap.size, 1, none⟩) (by show x1.heap.size ≠ w.heap.size + 1; omega) (.slice a1 p.length c1)
            have KT := KT.far2 (p := ⟨x1.heap.size, 1, none⟩) (by show x1.heap.size ≠ w.heap.size + 1 + 1; omega) (.slice a1 p.length c1)
            have HL := HL.set (p := ⟨x1.heap.size, 1, none⟩) (.inr hX5) (.slice a1 p.length c1)
            have hgw : w.heap.size ≤ x1.heap.size := by omega
            have hKeep := Below.setCell (Below.setCell hHeld (p := ⟨x1.heap.size, 0, none⟩) hgw (.slice A' R.length c')) (p := ⟨x1.heap.size, 1, none⟩) hgw (.slice a1 p.length c1)
            skip
            go_simp
            refine hK.out _ _ (by (try dsimp only); exact hKeep) (fun hHeld => ?_)
            clear hK K hKeep
            try simp only [pqZ]
            refine wpAnyH_ready (rs := [7]) (by kernel_rfl) (by simp) ?_
            refine AllReadyH.cons (o := ⟨none, _, _, _, _, _⟩) rfl (fun K hK => ?_) AllReadyH.nil
            have hHd := hHeld
            skip
            obtain ⟨q_, ⟨r0, r1, r2, r3, r4⟩, ⟨s0, s1, s2, s3, s4⟩⟩ := KI.got
            have D0 := KI.set (.int .i64 j.id) (.int .i64 j.mult) (.int .i64 j.price) (.int .i64 j.nxt) (.slice IA j.mv.length IC)
            have KF := KF.far2 (p := ⟨w.heap.size, 0, none⟩) (by show w.heap.size ≠ w.heap.size + 1; omega) (.int .i64 j.id)
            have KT := KT.far2 (p := ⟨w.heap.size, 0, none⟩) (by show w.heap.size ≠ w.heap.size + 1 + 1; omega) (.int .i64 j.id)
            have D5 := D5.far2 (p := ⟨w.heap.size, 0, none⟩) (by show w.heap.size ≠ x1.heap.size; omega) (.int .i64 j.id)
            have HL := HL.set (p := ⟨w.heap.size, 0, none⟩) (.inl hB9) (.int .i64 j.id)
            have KF := KF.far2 (p := ⟨w.heap.size, 1, none⟩) (by show w.heap.size ≠ w.heap.size + 1; omega) (.int .i64 j.mult)
            have KT := KT.far2 (p := ⟨w.heap.size, 1, none⟩) (by show w.heap.size ≠ w.heap.size + 1 + 1; omega) (.int .i64 j.mult)
            have D5 := D5.far2 (p := ⟨w.heap.size, 1, none⟩) (by show w.heap.size ≠ x1.heap.size; omega) (.int .i64 j.mult)
            have HL := HL.set (p := ⟨w.heap.size, 1, none⟩) (.inl hB9) (.int .i64 j.mult)
            have KF := KF.far2 (p := ⟨w.heap.size, 2, none⟩) (by show w.heap.size ≠ w.heap.size + 1; omega) (.int .i64 j.price)
            have KT := KT.far2 (p := ⟨w.heap.size, 2, none⟩) (by show w.heap.size ≠ w.heap.size + 1 + 1; omega) (.int .i64 j.price)
            have D5 := D5.far2 (p := ⟨w.heap.size, 2, none⟩) (by show w.heap.size ≠ x1.heap.size; omega) (.int .i64 j.price)
            have HL := HL.set (p := ⟨w.heap.size, 2, none⟩) (.inl hB9) (.int .i64 j.price)
            have KF := KF.far2 (p := ⟨w.heap.size, 3, none⟩) (by show w.heap.size ≠ w.heap.size + 1; omega) (.int .i64 j.nxt)
            have KT := KT.far2 (p := ⟨w.heap.size, 3, none⟩) (by show w.heap.size ≠ w.heap.size + 1 + 1; omega) (.int .i64 j.nxt)
            have D5 := D5.far2 (p := ⟨w.heap.size, 3, none⟩) (by show w.heap.size ≠ x1.heap.size; omega) (.int .i64 j.nxt)
            have HL := HL.set (p := ⟨w.heap.size, 3, none⟩) (.inl hB9) (.int .i64 j.nxt)
            have KF := KF.far2 (p := ⟨w.heap.size, 4, none⟩) (by show w.heap.size ≠ w.heap.size + 1; omega) (.slice IA j.mv.length IC)
            have KT := KT.far2 (p := ⟨w.heap.size, 4, none⟩) (by show w.heap.size ≠ w.heap.size + 1 + 1; omega) (.slice IA j.mv.length IC)
            have D5 := D5.far2 (p := ⟨w.heap.size, 4, none⟩) (by show w.heap.size ≠ x1.heap.size; omega) (.slice IA j.mv.length IC)
            have HL := HL.set (p := ⟨w.heap.size, 4, none⟩) (.inl hB9) (.slice IA j.mv.length IC)
            have hKeep := (Below.setCell (Below.setCell (Below.setCell (Below.setCell (Below.setCell hHeld (p := ⟨w.heap.size, 0, none⟩) (Nat.le_refl _) (.int .i64 j.id)) (p := ⟨w.heap.size, 1, none⟩) (Nat.le_refl _) (.int .i64 j.mult)) (p := ⟨w.heap.size, 2, none⟩) (Nat.le_refl _) (.int .i64 j.price)) (p := ⟨w.heap.size, 3, none⟩) (Nat.le_refl _) (.int .i64 j.nxt)) (p := ⟨w.heap.size, 4, none⟩) (Nat.le_refl _) (.slice IA j.mv.length IC))
            skip
            go_simp
            refine hK.out _ _ (by (try dsimp only); exact hKeep) (fun hHeld => ?_)
            clear hK K hKeep
            try simp only [pqZ]
            refine wpAnyH_done (by kernel_rfl) ?_ _
            go_wp2_with fail
            go_meet
            case rel => exact ⟨_, R, cs, A', c', rfl, D5, D0, KF, KT, HL.1, HQ.out.1, HQ.out.2.1, HQ.out.2.2.1, HQ.out.2.2.2, hHeld⟩
        · have hHd := hHeld
          skip
          have hg5 : w.heap.size + 1 + 1 < VD.heap.size := by have h := KT.1; exact h
          have X5 := DB.new VD 30
          have hHp := hHeld
          have hA := (Below.refl VD.heap.size VD).alloc (Nat.le_refl _) (.cells #[.slice none 0 0, .slice none 0 0] 30)
          have KI := KI.below hA
          have KF := KF.below hA
          have KT := KT.below hA
          clear hA
          have hKeep := since_alloc hHeld (.cells #[.slice none 0 0, .slice none 0 0] 30)
          go_simp
          refine hK.out _ _ (by (try dsimp only); exact hKeep) (fun hHeld => ?_)
          clear hK K hKeep
          try simp only [pqZ]
          refine wpAnyH_ready (rs := [2]) (by kernel_rfl) (by simp) ?_
          refine AllReadyH.cons (o := ⟨some 24, _, _, _, _, _⟩) rfl (fun K hK => ?_) AllReadyH.nil
          go_simp
          refine (HFW.out _ hHeld).mono ?_
          rintro e x1 ⟨⟨R, cs, A', c', rfl, ownR, htR, hR, hg, hk⟩, hk1⟩
          have hKeep := since_step hHeld hk1
          have HL := Lies.of_own ownR
          have HQ := Lib.hid (And.intro htR (And.intro hR (And.intro hg hk)))
          clear ownR htR hR hg hk
          have hB9 := Nat.lt_succ_of_le hHeld.size
          have hX5 := Nat.lt_succ_of_lt X5.1.1
          have KI := KI.below hk1
          have KF := KF.below hk1
          have KT := KT.below hk1
          have X5 := X5.below hk1
          clear hk1
          go_wp2_with fail
          refine hK.out _ _ (by (try dsimp only); exact hKeep) (fun hHeld => ?_)
          clear hK K hKeep
          try simp only [pqZ]
          refine wpAnyH_ready (rs := [4]) (by kernel_rfl) (by simp) ?_
          refine AllReadyH.cons (o := ⟨some 26, _, _, _, _, _⟩) rfl (fun K hK => ?_) AllReadyH.nil
          go_simp
          refine (HON.out _ hHeld).mono ?_
          rintro e x2 ⟨rfl, hk2⟩
          have hKeep := since_step hHeld hk2
          have KI := KI.below hk2
          have KF := KF.below hk2
          have KT := KT.below hk2
          have HL := HL.below hk2
          have X5 := X5.below hk2
          clear hk2
          go_wp2_with fail
          refine hK.out _ _ (by (try dsimp only); exact hKeep) (fun hHeld => ?_)
          clear hK K hKeep
          try simp only [pqZ]
          refine wpAnyH_ready (rs := [6]) (by kernel_rfl) (by simp) ?_
          refine AllReadyH.cons (o := ⟨none, _, _, _, _, _⟩) rfl (fun K hK => ?_) AllReadyH.nil
          have hHd := hHeld
          skip
          obtain ⟨y0, y1, y2, y3, y4⟩ := X5.got
          have D5 := X5.set (.slice A' R.length c') (.slice a1 p.length c1)
          have KI := KI.far (p := ⟨VD.heap.size, 0, none⟩) (by show VD.heap.size ≠ w.heap.size; omega) (.slice A' R.length c')
          have KF := KF.far2 (p := ⟨VD.heap.size, 0, none⟩) (by show VD.heap.size ≠ w.heap.size + 1; omega) (.slice A' R.length c')
          have KT := KT.far2 (p := ⟨VD.heap.size, 0, none⟩) (by show VD.heap.size ≠ w.heap.size + 1 + 1; omega) (.slice A' R.length c')
          have HL := HL.set (p := ⟨VD.heap.size, 0, none⟩) (.inl hX5) (.slice A' R.length c')
          have KI := KI.far (p := ⟨VD.heap.size, 1, none⟩) (by show VD.heap.size ≠ w.heap.size; omega) (.slice a1 p.length c1)
          have KF := KF.far2 (p := ⟨VD.heap.size, 1, none⟩) (by show VD.heap.size ≠ w.heap.size + 1; omega) (.slice a1 p.length c1)
          have KT := KT.far2 (p := ⟨VD.heap.size, 1, none⟩) (by show VD.heap.size ≠ w.heap.size + 1 + 1; omega) (.slice a1 p.length c1)
          have HL := HL.set (p := ⟨VD.heap.size, 1, none⟩) (.inl hX5) (.slice a1 p.length c1)
          have hgw : w.heap.size ≤ VD.heap.size := by omega
          have hKeep := Below.setCell (Below.setCell hHeld (p := ⟨VD.heap.size, 0, none⟩) hgw (.slice A' R.length c')) (p := ⟨VD.heap.size, 1, none⟩) hgw (.slice a1 p.length c1)
          skip
          go_simp
          refine hK.out _ _ (by (try dsimp only); exact hKeep) (fun hHeld => ?_)
          clear hK K hKeep
          try simp only [pqZ]
          refine wpAnyH_ready (rs := [7]) (by kernel_rfl) (by simp) ?_
          refine AllReadyH.cons (o := ⟨none, _, _, _, _, _⟩) rfl (fun K hK => ?_) AllReadyH.nil
          have hHd := hHeld
          skip
          obtain ⟨q_, ⟨r0, r1, r2, r3, r4⟩, ⟨s0, s1, s2, s3, s4⟩⟩ := KI.got
          have D0 := KI.set (.int .i64 j.id) (.int .i64 j.mult) (.int .i64 j.price) (.int .i64 j.nxt) (.slice IA j.mv.length IC)
          have KF := KF.far2 (p := ⟨w.heap.size, 0, none⟩) (by show w.heap.size ≠ w.heap.size + 1; omega) (.int .i64 j.id)
          have KT := KT.far2 (p := ⟨w.heap.size, 0, none⟩) (by show w.heap.size ≠ w.heap.size + 1 + 1; omega) (.int .i64 j.id)
          have D5 := D5.far2 (p := ⟨w.heap.size, 0, none⟩) (by show w.heap.size ≠ VD.heap.size; omega) (.int .i64 j.id)
          have HL := HL.set (p := ⟨w.heap.size, 0, none⟩) (.inl hB9) (.int .i64 j.id)
          have KF := KF.far2 (p := ⟨w.heap.size, 1, none⟩) (by show w.heap.size ≠ w.heap.size + 1; omega) (.int .i64 j.mult)
          have KT := KT.far2 (p := ⟨w.heap.size, 1, none⟩) (by show w.heap.size ≠ w.heap.size + 1 + 1; omega) (.int .i64 j.mult)
          have D5 := D5.far2 (p := ⟨w.heap.size, 1, none⟩) (by show w.heap.size ≠ VD.heap.size; omega) (.int .i64 j.mult)
          have HL := HL.set (p := ⟨w.heap.size, 1, none⟩) (.inl hB9) (.int .i64 j.mult)
          have KF := KF.far2 (p := ⟨w.heap.size, 2, none⟩) (by show w.heap.size ≠ w.heap.size + 1; omega) (.int .i64 j.price)
          have KT := KT.far2 (p := ⟨w.heap.size, 2, none⟩) (by show w.heap.size ≠ w.heap.size + 1 + 1; omega) (.int .i64 j.price)
          have D5 := D5.far2 (p := ⟨w.heap.size, 2, none⟩) (by show w.heap.size ≠ VD.heap.size; omega) (.int .i64 j.price)
          have HL := HL.set (p := ⟨w.heap.size, 2, none⟩) (.inl hB9) (.int .i64 j.price)
          have KF := KF.far2 (p := ⟨w.heap.size, 3, none⟩) (by show w.heap.size ≠ w.heap.size + 1; omega) (.int .i64 j.nxt)
          have KT := KT.far2 (p := ⟨w.heap.size, 3, none⟩) (by show w.heap.size ≠ w.heap.size + 1 + 1; omega) (.int .i64 j.nxt)
          have D5 := D5.far2 (p := ⟨w.heap.size, 3, none⟩) (by show w.heap.size ≠ VD.heap.size; omega) (.int .i64 j.nxt)
          have HL := HL.set (p := ⟨w.heap.size, 3, none⟩) (.inl hB9) (.int .i64 j.nxt)
          have KF := KF.far2 (p := ⟨w.heap.size, 4, none⟩) (by show w.heap.size ≠ w.heap.size + 1; omega) (.slice IA j.mv.length IC)
          have KT := KT.far2 (p := ⟨w.heap.size, 4, none⟩) (by show w.heap.size ≠ w.heap.size + 1 + 1; omega) (.slice IA j.mv.length IC)
          have D5 := D5.far2 (p := ⟨w.heap.size, 4, none⟩) (by show w.heap.size ≠ VD.heap.size; omega) (.slice IA j.mv.length IC)
          have HL := HL.set (p := ⟨w.heap.size, 4, none⟩) (.inl hB9) (.slice IA j.mv.length IC)
          have hKeep := (Below.setCell (Below.setCell (Below.setCell (Below.setCell (Below.setCell hHeld (p := ⟨w.heap.size, 0, none⟩) (Nat.le_refl _) (.int .i64 j.id)) (p := ⟨w.heap.size, 1, none⟩) (Nat.le_refl _) (.int .i64 j.mult)) (p := ⟨w.heap.size, 2, none⟩) (Nat.le_refl _) (.int .i64 j.price)) (p := ⟨w.heap.size, 3, none⟩) (Nat.le_refl _) (.int .i64 j.nxt)) (p := ⟨w.heap.size, 4, none⟩) (Nat.le_refl _) (.slice IA j.mv.length IC))
          skip
          go_simp
          refine hK.out _ _ (by (try dsimp only); exact hKeep) (fun hHeld => ?_)
          clear hK K hKeep
          try simp only [pqZ]
          refine wpAnyH_done (by kernel_rfl) ?_ _
          go_wp2_with fail
          go_meet
          case rel => exact ⟨_, R, cs, A', c', rfl, D5, D0, KF, KT, HL.1, HQ.out.1, HQ.out.2.1, HQ.out.2.2.1, HQ.out.2.2.2, hHeld⟩
      · have hHd := hHeld
        skip
        have hg5 : w.heap.size + 1 + 1 < VD.heap.size := by have h := KT.1; exact h
        have X5 := DB.new VD 30
        have hHp := hHeld
        have hA := (Below.refl VD.heap.size VD).alloc (Nat.le_refl _) (.cells #[.slice none 0 0, .slice none 0 0] 30)
        have KI := KI.below hA
        have KF := KF.below hA
        have KT := KT.below hA
        clear hA
        have hKeep := since_alloc hHeld (.cells #[.slice none 0 0, .slice none 0 0] 30)
        go_simp
        refine hK.out _ _ (by (try dsimp only); exact hKeep) (fun hHeld => ?_)
        clear hK K hKeep
        try simp only [pqZ]
        refine wpAnyH_ready (rs := [2, 3]) (by kernel_rfl) (by simp) ?_
        refine AllReadyH.cons (o := ⟨some 24, _, _, _, _, _⟩) rfl (fun K hK => ?_) (AllReadyH.cons (o := ⟨some 25, _, _, _, _, _⟩) rfl (fun K hK => ?_) AllReadyH.nil)
        · go_simp
          refine (HFW.out _ hHeld).mono ?_
          rintro e x1 ⟨⟨R, cs, A', c', rfl, ownR, htR, hR, hg, hk⟩, hk1⟩
          have hKeep := since_step hHeld hk1
          have HL := Lies.of_own ownR
          have HQ := Lib.hid (And.intro htR (And.intro hR (And.intro hg hk)))
          clear ownR htR hR hg hk
          have hB9 := Nat.lt_succ_of_le hHeld.size
          have hX5 := Nat.lt_succ_of_lt X5.1.1
          have KI := KI.below hk1
          have KF := KF.below hk1
          have KT := KT.below hk1
          have X5 := X5.below hk1
          clear hk1
          go_wp2_with fail
          refine hK.out _ _ (by (try dsimp only); exact hKeep) (fun hHeld => ?_)
          clear hK K hKeep
          try simp only [pqZ]
          refine wpAnyH_ready (rs := [3]) (by kernel_rfl) (by simp) ?_
          refine AllReadyH.cons (o := ⟨some 25, _, _, _, _, _⟩) rfl (fun K hK => ?_) AllReadyH.nil
          have hHd := hHeld
          skip
          obtain ⟨q_, ⟨r0, r1, r2, r3, r4⟩, q__⟩ := KI.got
          have hKeep := hHeld
          go_simp
          refine hK.out _ _ (by (try dsimp only); exact hKeep) (fun hHeld => ?_)
          clear hK K hKeep
          try simp only [pqZ]
          refine wpAnyH_ready (rs := [4]) (by kernel_rfl) (by simp) ?_
          refine AllReadyH.cons (o := ⟨some 26, _, _, _, _, _⟩) rfl (fun K hK => ?_) AllReadyH.nil
          go_simp
          refine (HON.out _ hHeld).mono ?_
          rintro e x2 ⟨rfl, hk2⟩
          have hKeep := since_step hHeld hk2
          have KI := KI.below hk2
          have KF := KF.below hk2
          have KT := KT.below hk2
          have HL := HL.below hk2
          have X5 := X5.below hk2
          clear hk2
          go_wp2_with fail
          refine hK.out _ _ (by (try dsimp only); exact hKeep) (fun hHeld => ?_)
          clear hK K hKeep
          try simp only [pqZ]
          refine wpAnyH_ready (rs := [6]) (by kernel_rfl) (by simp) ?_
          refine AllReadyH.cons (o := ⟨none, _, _, _, _, _⟩) rfl (fun K hK => ?_) AllReadyH.nil
          have hHd := hHeld
          skip
          obtain ⟨y0, y1, y2, y3, y4⟩ := X5.got
          have D5 := X5.set (.slice A' R.length c') (.slice a1 p.length c1)
          have KI := KI.far (p := ⟨VD.heap.size, 0, none⟩) (by show VD.heap.size ≠ w.heap.size; omega) (.slice A' R.length c')
          have KF := KF.far2 (p := ⟨VD.heap.size, 0, none⟩) (by show VD.heap.size ≠ w.heap.size + 1; omega) (.slice A' R.length c')
          have KT := KT.far2 (p := ⟨VD.heap.size, 0, none⟩) (by show VD.heap.size ≠ w.heap.size + 1 + 1; omega) (.slice A' R.length c')
          have HL := HL.set (p := ⟨VD.heap.size, 0, none⟩) (.inl hX5) (.slice A' R.length c')
          have KI := KI.far (p := ⟨VD.heap.size, 1, none⟩) (by show VD.heap.size ≠ w.heap.size; omega) (.slice a1 p.length c1)
          have KF := KF.far2 (p := ⟨VD.heap.size, 1, none⟩) (by show VD.heap.size ≠ w.heap.size + 1; omega) (.slice a1 p.length c1)
          have KT := KT.far2 (p := ⟨VD.heap.size, 1, none⟩) (by show VD.heap.size ≠ w.heap.size + 1 + 1; omega) (.slice a1 p.length c1)
          have HL := HL.set (p := ⟨VD.heap.size, 1, none⟩) (.inl hX5) (.slice a1 p.length c1)
          have hgw : w.heap.size ≤ VD.heap.size := by omega
          have hKeep := Below.setCell (Below.setCell hHeld (p := ⟨VD.heap.size, 0, none⟩) hgw (.slice A' R.length c')) (p := ⟨VD.heap.size, 1, none⟩) hgw (.slice a1 p.length c1)
          skip
          go_simp
          refine hK.out _ _ (by (try dsimp only); exact hKeep) (fun hHeld => ?_)
          clear hK K hKeep
          try simp only [pqZ]
          refine wpAnyH_ready (rs := [7]) (by kernel_rfl) (by simp) ?_
          refine AllReadyH.cons (o := ⟨none, _, _, _, _, _⟩) rfl (fun K hK => ?_) AllReadyH.nil
          have hHd := hHeld
          skip
          obtain ⟨q_, ⟨r0, r1, r2, r3, r4⟩, ⟨s0, s1, s2, s3, s4⟩⟩ := KI.got
          have D0 := KI.set (.int .i64 j.id) (.int .i64 j.mult) (.int .i64 j.price) (.int .i64 j.nxt) (.slice IA j.mv.length IC)
          have KF := KF.far2 (p := ⟨w.heap.size, 0, none⟩) (by show w.heap.size ≠ w.heap.size + 1; omega) (.int .i64 j.id)
          have KT := KT.far2 (p := ⟨w.heap.size, 0, none⟩) (by show w.heap.size ≠ w.heap.size + 1 + 1; omega) (.int .i64 j.id)
          have D5 := D5.far2 (p := ⟨w.heap.size, 0, none⟩) (by show w.heap.size ≠ VD.heap.size; omega) (.int .i64 j.id)
          have HL := HL.set (p := ⟨w.heap.size, 0, none⟩) (.inl hB9) (.int .i64 j.id)
          have KF := KF.far2 (p := ⟨w.heap.size, 1, none⟩) (by show w.heap.size ≠ w.heap.size + 1; omega) (.int .i64 j.mult)
          have KT := KT.far2 (p := ⟨w.heap.size, 1, none⟩) (by show w.heap.size ≠ w.heap.size + 1 + 1; omega) (.int .i64 j.mult)
          have D5 := D5.far2 (p := ⟨w.heap.size, 1, none⟩) (by show w.heap.size ≠ VD.heap.size; omega) (.int .i64 j.mult)
          have HL := HL.set (p := ⟨w.heap.size, 1, none⟩) (.inl hB9) (.int .i64 j.mult)
          have KF := KF.far2 (p := ⟨w.heap.size, 2, none⟩) (by show w.heap.size ≠ w.heap.size + 1; omega) (.int .i64 j.price)
          have KT := KT.far2 (p := ⟨w.heap.size, 2, none⟩) (by show w.heap.size ≠ w.heap.size + 1 + 1; omega) (.int .i64 j.price)
          have D5 := D5.far2 (p := ⟨w.heap.size, 2, none⟩) (by show w.heap.size ≠ VD.heap.size; omega) (.int .i64 j.price)
          have HL := HL.set (p := ⟨w.heap.size, 2, none⟩) (.inl hB9) (.int .i64 j.price)
          have KF := KF.far2 (p := ⟨w.heap.size, 3, none⟩) (by show w.heap.size ≠ w.heap.size + 1; omega) (.int .i64 j.nxt)
          have KT := KT.far2 (p := ⟨w.heap.size, 3, none⟩) (by show w.heap.size ≠ w.heap.size + 1 + 1; omega) (.int .i64 j.nxt)
          have D5 := D5.far2 (p := ⟨w.heap.size, 3, none⟩) (by show w.heap.size ≠ VD.heap.size; omega) (.int .i64 j.nxt)
          have HL := HL.set (p := ⟨w.heap.size, 3, none⟩) (.inl hB9) (.int .i64 j.nxt)
          have KF := KF.far2 (p := ⟨w.heap.size, 4, none⟩) (by show w.heap.size ≠ w.heap.size + 1; omega) (.slice IA j.mv.length IC)
          have KT := KT.far2 (p := ⟨w.heap.size, 4, none⟩) (by show w.heap.size ≠ w.heap.size + 1 + 1; omega) (.slice IA j.mv.length IC)
          have D5 := D5.far2 (p := ⟨w.heap.size, 4, none⟩) (by show w.heap.size ≠ VD.heap.size; omega) (.slice IA j.mv.length IC)
          have HL := HL.set (p := ⟨w.heap.size, 4, none⟩) (.inl hB9) (.slice IA j.mv.length IC)
          have hKeep := (Below.setCell (Below.setCell (Below.setCell (Below.setCell (Below.setCell hHeld (p := ⟨w.heap.size, 0, none⟩) (Nat.le_refl _) (.int .i64 j.id)) (p := ⟨w.heap.size, 1, none⟩) (Nat.le_refl _) (.int .i64 j.mult)) (p := ⟨w.heap.size, 2, none⟩) (Nat.le_refl _) (.int .i64 j.price)) (p := ⟨w.heap.size, 3, none⟩) (Nat.le_refl _) (.int .i64 j.nxt)) (p := ⟨w.heap.size, 4, none⟩) (Nat.le_refl _) (.slice IA j.mv.length IC))
          skip
          go_simp
          refine hK.out _ _ (by (try dsimp only); exact hKeep) (fun hHeld => ?_)
          clear hK K hKeep
          try simp only [pqZ]
          refine wpAnyH_done (by kernel_rfl) ?_ _
          go_wp2_with fail
          go_meet
          case rel => exact ⟨_, R, cs, A', c', rfl, D5, D0, KF, KT, HL.1, HQ.out.1, HQ.out.2.1, HQ.out.2.2.1, HQ.out.2.2.2, hHeld⟩
        · have hHd := hHeld
          skip
          obtain ⟨q_, ⟨r0, r1, r2, r3, r4⟩, q__⟩ := KI.got
          have hKeep := hHeld
          go_simp
          refine hK.out _ _ (by (try dsimp only); exact hKeep) (fun hHeld => ?_)
          clear hK K hKeep
          try simp only [pqZ]
          refine wpAnyH_ready (rs := [2]) (by kernel_rfl) (by simp) ?_
          refine AllReadyH.cons (o := ⟨some 24, _, _, _, _, _⟩) rfl (fun K hK => ?_) AllReadyH.nil
          go_simp
          refine (HFW.out _ hHeld).mono ?_
          rintro e x1 ⟨⟨R, cs, A', c', rfl, ownR, htR, hR, hg, hk⟩, hk1⟩
          have hKeep := since_step hHeld hk1
          have HL := Lies.of_own ownR
          have HQ := Lib.hid (And.intro htR (And.intro hR (And.intro hg hk)))
          clear ownR htR hR hg hk
          have hB9 := Nat.lt_succ_of_le hHeld.size
          have hX5 := Nat.lt_succ_of_lt X5.1.1
          have KI := KI.below hk1
          have KF := KF.below hk1
          have KT := KT.below hk1
          have X5 := X5.below hk1
          clear hk1
          go_wp2_with fail
          refine hK.out _ _ (by (try dsimp only); exact hKeep) (fun hHeld => ?_)
          clear hK K hKeep
          try simp only [pqZ]
          refine wpAnyH_ready (rs := [4]) (by kernel_rfl) (by simp) ?_
          refine AllReadyH.cons (o := ⟨some 26, _, _, _, _, _⟩) rfl (fun K hK => ?_) AllReadyH.nil
          go_simp
          refine (HON.out _ hHeld).mono ?_
          rintro e x2 ⟨rfl, hk2⟩
          have hKeep := since_step hHeld hk2
          have KI := KI.below hk2
          have KF := KF.below hk2
          have KT := KT.below hk2
          have HL := HL.below hk2
          have X5 := X5.below hk2
          clear hk2
          go_wp2_with fail
          refine hK.out _ _ (by (try dsimp only); exact hKeep) (fun hHeld => ?_)
          clear hK K hKeep
          try simp only [pqZ]
          refine wpAnyH_ready (rs := [6]) (by kernel_rfl) (by simp) ?_
          refine AllReadyH.cons (o := ⟨none, _, _, _, _, _⟩) rfl (fun K hK => ?_) AllReadyH.nil
          have hHd := hHeld
          skip
          obtain ⟨y0, y1, y2, y3, y4⟩ := X5.got
          have D5 := X5.set (.slice A' R.length c') (.slice a1 p.length c1)
          have KI := KI.far (p := ⟨VD.heap.size, 0, none⟩) (by show VD.heap.size ≠ w.heap.size; omega) (.slice A' R.length c')
          have KF := KF.far2 (p := ⟨VD.heap.size, 0, none⟩) (by show VD.heap.size ≠ w.heap.size + 1; omega) (.slice A' R.length c')
          have KT := KT.far2 (p := ⟨VD.heap.size, 0, none⟩) (by show VD.heap.size ≠ w.heap.size + 1 + 1; omega) (.slice A' R.length c')
          have HL := HL.set (p := ⟨VD.heap.size, 0, none⟩) (.inl hX5) (.slice A' R.length c')
          have KI := KI.far (p := ⟨VD.heap.size, 1, none⟩) (by show VD.heap.size ≠ w.heap.size; omega) (.slice a1 p.length c1)
          have KF := KF.far2 (p := ⟨VD.heap.size, 1, none⟩) (by show VD.heap.size ≠ w.heap.size + 1; omega) (.slice a1 p.length c1)
          have KT := KT.far2 (p := ⟨VD.heap.size, 1, none⟩) (by show VD.heap.size ≠ w.heap.size + 1 + 1; omega) (.slice a1 p.length c1)
          have HL := HL.set (p := ⟨VD.heap.size, 1, none⟩) (.inl hX5) (.slice a1 p.length c1)
          have hgw : w.heap.size ≤ VD.heap.size := by omega
          have hKeep := Below.setCell (Below.setCell hHeld (p := ⟨VD.heap.size, 0, none⟩) hgw (.slice A' R.length c')) (p := ⟨VD.heap.size, 1, none⟩) hgw (.slice a1 p.length c1)
          skip
          go_simp
          refine hK.out _ _ (by (try dsimp only); exact hKeep) (fun hHeld => ?_)
          clear hK K hKeep
          try simp only [pqZ]
          refine wpAnyH_ready (rs := [7]) (by kernel_rfl) (by simp) ?_
          refine AllReadyH.cons (o := ⟨none, _, _, _, _, _⟩) rfl (fun K hK => ?_) AllReadyH.nil
          have hHd := hHeld
          skip
          obtain ⟨q_, ⟨r0, r1, r2, r3, r4⟩, ⟨s0, s1, s2, s3, s4⟩⟩ := KI.got
          have D0 := KI.set (.int .i64 j.id) (.int .i64 j.mult) (.int .i64 j.price) (.int .i64 j.nxt) (.slice IA j.mv.length IC)
          have KF := KF.far2 (p := ⟨w.heap.size, 0, none⟩) (by show w.heap.size ≠ w.heap.size + 1; omega) (.int .i64 j.id)
          have KT := KT.far2 (p := ⟨w.heap.size, 0, none⟩) (by show w.heap.size ≠ w.heap.size + 1 + 1; omega) (.int .i64 j.id)
          have D5 := D5.far2 (p := ⟨w.heap.size, 0, none⟩) (by show w.heap.size ≠ VD.heap.size; omega) (.int .i64 j.id)
          have HL := HL.set (p := ⟨w.heap.size, 0, none⟩) (.inl hB9) (.int .i64 j.id)
          have KF := KF.far2 (p := ⟨w.heap.size, 1, none⟩) (by show w.heap.size ≠ w.heap.size + 1; omega) (.int .i64 j.mult)
          have KT := KT.far2 (p := ⟨w.heap.size, 1, none⟩) (by show w.heap.size ≠ w.heap.size + 1 + 1; omega) (.int .i64 j.mult)
          have D5 := D5.far2 (p := ⟨w.heap.size, 1, none⟩) (by show w.heap.size ≠ VD.heap.size; omega) (.int .i64 j.mult)
          have HL := HL.set (p := ⟨w.heap.size, 1, none⟩) (.inl hB9) (.int .i64 j.mult)
          have KF := KF.far2 (p := ⟨w.heap.size, 2, none⟩) (by show w.heap.size ≠ w.heap.size + 1; omega) (.int .i64 j.price)
          have KT := KT.far2 (p := ⟨w.heap.size, 2, none⟩) (by show w.heap.size ≠ w.heap.size + 1 + 1; omega) (.int .i64 j.price)
          have D5 := D5.far2 (p := ⟨w.heap.size, 2, none⟩) (by show w.heap.size ≠ VD.heap.size; omega) (.int .i64 j.price)
          have HL := HL.set (p := ⟨w.heap.size, 2, none⟩) (.inl hB9) (.int .i64 j.price)
          have KF := KF.far2 (p := ⟨w.heap.size, 3, none⟩) (by show w.heap.size ≠ w.heap.size + 1; omega) (.int .i64 j.nxt)
          have KT := KT.far2 (p := ⟨w.heap.size, 3, none⟩) (by show w.heap.size ≠ w.heap.size + 1 + 1; omega) (.int .i64 j.nxt)
          have D5 := D5.far2 (p := ⟨w.heap.size, 3, none⟩) (by show w.heap.size ≠ VD.heap.size; omega) (.int .i64 j.nxt)
          have HL := HL.set (p := ⟨w.heap.size, 3, none⟩) (.inl hB9) (.int .i64 j.nxt)
          have KF := KF.far2 (p := ⟨w.heap.size, 4, none⟩) (by show w.heap.size ≠ w.heap.size + 1; omega) (.slice IA j.mv.length IC)
          have KT := KT.far2 (p := ⟨w.heap.size, 4, none⟩) (by show w.heap.size ≠ w.heap.size + 1 + 1; omega) (.slice IA j.mv.length IC)
          have D5 := D5.far2 (p := ⟨w.heap.size, 4, none⟩) (by show w.heap.size ≠ VD.heap.size; omega) (.slice IA j.mv.length IC)
          have HL := HL.set (p := ⟨w.heap.size, 4, none⟩) (.inl hB9) (.slice IA j.mv.length IC)
          have hKeep := (Below.setCell (Below.setCell (Below.setCell (Below.setCell (Below.setCell hHeld (p := ⟨w.heap.size, 0, none⟩) (Nat.le_refl _) (.int .i64 j.id)) (p := ⟨w.heap.size, 1, none⟩) (Nat.le_refl _) (.int .i64 j.mult)) (p := ⟨w.heap.size, 2, none⟩) (Nat.le_refl _) (.int .i64 j.price)) (p := ⟨w.heap.size, 3, none⟩) (Nat.le_refl _) (.int .i64 j.nxt)) (p := ⟨w.heap.size, 4, none⟩) (Nat.le_refl _) (.slice IA j.mv.length IC))
          skip
          go_simp
          refine hK.out _ _ (by (try dsimp only); exact hKeep) (fun hHeld => ?_)
          clear hK K hKeep
          try simp only [pqZ]
          refine wpAnyH_done (by kernel_rfl) ?_ _
          go_wp2_with fail
          go_meet
          case rel => exact ⟨_, R, cs, A', c', rfl, D5, D0, KF, KT, HL.1, HQ.out.1, HQ.out.2.1, HQ.out.2.2.1, HQ.out.2.2.2, hHeld⟩
  case rest =>
    have HLV := Lib.hid (fun V => lives21_any V)
    obtain ⟨g, R, cs, A', c', rfl, KD, KI, KF, KT, hsR, htR, hR, hgd, hky, hB⟩ := hcut
    generalize hw1 : wc = y0 at *
    clear hw1
    have D0 : Dk y0 A' R cs a1 p := ⟨hsR, htR.below hB, HSP.out _ hB⟩
    have HJW : Hid (∀ V, Below y0.heap.size y0 V → InsAt V j IA IC) := Lib.hid fun V h => HIJ.out _ (hB.trans (h.mono hB.size))
    have HDW : Hid (∀ V, Below y0.heap.size y0 V → Dk V A' R cs a1 p) := Lib.hid fun V h => D0.below h
    have hR8 : R.length ≤ 800000 := by omega
    have hcsn : cs.length ≤ 12 := by have := htR.1; omega
    have hcl4 : ∀ g ∈ cs, g.L.length ≤ 400000 := fun g hg => Nat.le_trans (hgd.1 g hg) (by omega)
    have hcl9 : ∀ g ∈ cs, g.L.length ≤ 900000 := fun g hg => Nat.le_trans (hgd.1 g hg) (by omega)
    clear hsR htR HFW HON HSP HIJ D0 hB0
    have HAT := Lib.hid (fun V (h : Below y0.heap.size y0 V) => dat_any A' c' R cs a1 c1 p j IA IC fa fc ta tc q pr V hR8 hcl4 hgd.2 (by omega) hpq ⟨hf.1, hf.2, ht.1, ht.2⟩ h_q h_pr (HDW.out V h) (HJW.out V h))
    have HRT := Lib.hid (fun V (h : Below y0.heap.size y0 V) => rdat_any A' c' R cs a1 c1 p j IA IC fa fc ta tc q pr V hR8 hcl4 hgd.2 (by omega) hpq ⟨hf.1, hf.2, ht.1, ht.2⟩ h_q h_pr (HDW.out V h) (HJW.out V h))
    have HIS := Lib.hid (fun V (h : Below y0.heap.size y0 V) => dis_any A' c' R cs a1 c1 p V (by omega) hcl9 (by omega) (HDW.out V h))
    have HRS := Lib.hid (fun V (h : Below y0.heap.size y0 V) => rdis_any A' c' R cs a1 c1 p V (by omega) hcl9 (by omega) (HDW.out V h))
    obtain ⟨n, B, P, hT⟩ : ∃ n B P, dealR cs p j fa fc ta tc q pr = (n, B, P) := ⟨_, _, _, rfl⟩
    obtain ⟨hbB, hbP, hbL⟩ := deal_bd hgd.1 hT
    rw [hT] at HAT HRT
    simp only at HAT HRT
    unfold DRes insV at HAT HRT
    have hB9 : ∀ g ∈ B, g.L.length ≤ 900000 := fun g hg => Nat.le_trans (hbL g hg) (by omega)
    have HSM := Lib.hid (fun A1 k1 m1 A2 k2 A3 k3 m3 A4 k4 V hm h1 h2 => rdsame_self A1 k1 m1 A2 k2 A3 k3 m3 A4 k4 B P V hm hB9 (by omega) h1 h2)
    have HB14 : Hid (B.length ≤ 14) := Lib.hid (by omega)
    have HCO := Lib.hid (fun V (h : Below y0.heap.size y0 V) => dcost_any j IA IC q pr V (HJW.out V h) h_q h_pr)
    have HRI := Lib.hid (fun V (h : Below y0.heap.size y0 V) => ris_any j IA IC V (HJW.out V h))
    have HGN := Lib.hid (fun V (h : Below y0.heap.size y0 V) => rgain_any j IA IC q 0 pr V (HJW.out V h) h_q (by unfold In64; omega) h_pr)
    unfold insV at HCO HRI HGN
    generalize (isH cs && isF p) = bb at *
    have bbb : (bb != bb) = false := by simp
    have bnn : (n != n) = false := by simp
    have hqp : In64 q ∧ In64 pr := ⟨h_q, h_pr⟩
    clear hT hbB hbP hbL hB9 hgd hky hcl4 hcl9 hcsn hR hR8 hp20 hpq hf ht h_q h_pr HDW
    have hC := Below.refl y0.heap.size y0
    obtain ⟨KD_l, KD_c⟩ := id KD
    have KD_0 := KD_c 0
    have KD_1 := KD_c 1
    simp at KD_0 KD_1
    clear KD_c
    obtain ⟨KI_l, KI_c⟩ := id KI
    have KI_0 := KI_c 0
    have KI_1 := KI_c 1
    have KI_2 := KI_c 2
    have KI_3 := KI_c 3
    have KI_4 := KI_c 4
    simp at KI_0 KI_1 KI_2 KI_3 KI_4
    clear KI_c
    obtain ⟨KF_l, KF_c⟩ := id KF
    have KF_0 := KF_c 0
    have KF_1 := KF_c 1
    simp at KF_0 KF_1
    clear KF_c
    obtain ⟨KT_l, KT_c⟩ := id KT
    have KT_0 := KT_c 0
    have KT_1 := KT_c 1
    simp at KT_0 KT_1
    clear KT_c
    go_wp2_with fail
    refine (HAT.out _ hC).mono ?_
    rintro e z1 ⟨⟨m5, A5, k5, A6, k6, rfl, D5⟩, hb⟩
    have hC := since_step hC hb
    have KD := KD.below hb
    have KI := KI.below hb
    have KF := KF.below hb
    have KT := KT.below hb
    clear hb
    clear KD_l KD_0 KD_1 KI_l KI_0 KI_1 KI_2 KI_3 KI_4 KF_l KF_0 KF_1 KT_l KT_0 KT_1
    have hA := (Below.refl z1.heap.size z1).alloc (Nat.le_refl _) (.cells #[.slice A5 m5.length k5, .slice A6 P.length k6] 30)
    have K6 := Bk.new z1 #[.slice A5 m5.length k5, .slice A6 P.length k6] 30
    have KD := KD.below hA
    have KI := KI.below hA
    have KF := KF.below hA
    have KT := KT.below hA
    have D5 := D5.below hA
    have hC := since_step hC hA
    clear hA
    go_upto_region 3 with fail
    generalize hYY : z1.alloc (.cells #[.slice A5 m5.length k5, .slice A6 P.length k6] 30) = Y3 at *
    generalize hGG : z1.heap.size = gY3 at *
    clear hYY hGG
    go_cut [18, 19] (fun s18 s19 wx => ∃ (g7 : Nat) (A7 : Option Addr) (m7 : List Po) (k7 : Nat) (A8 : Option Addr) (k8 : Nat), s18 = .pointer (some ⟨g7, 0, none⟩) ∧ s19 = .int .i64 n ∧ Bk wx g7 #[.slice A7 m7.length k7, .slice A8 P.length k8] ∧ Dk wx A7 m7 B A8 P ∧ Below Y3.heap.size Y3 wx)
    case first =>
      focus
        have HQ : Hid (∀ V, Below Y3.heap.size Y3 V → (V.cell? ⟨g, 0, none⟩ = some (.slice A' R.length c') ∧ V.cell? ⟨g, 1, none⟩ = some (.slice a1 p.length c1)) ∧ (V.cell? ⟨w.heap.size, 0, none⟩ = some (.int .i64 j.id) ∧ V.cell? ⟨w.heap.size, 1, none⟩ = some (.int .i64 j.mult) ∧ V.cell? ⟨w.heap.size, 2, none⟩ = some (.int .i64 j.price) ∧ V.cell? ⟨w.heap.size, 3, none⟩ = some (.int .i64 j.nxt) ∧ V.cell? ⟨w.heap.size, 4, none⟩ = some (.slice IA j.mv.length IC)) ∧ (V.cell? ⟨w.heap.size + 1, 0, none⟩ = some (.int .i64 fa) ∧ V.cell? ⟨w.heap.size + 1, 1, none⟩ = some (.int .i64 fc)) ∧ (V.cell? ⟨w.heap.size + 1 + 1, 0, none⟩ = some (.int .i64 ta) ∧ V.cell? ⟨w.heap.size + 1 + 1, 1, none⟩ = some (.int .i64 tc))) := Lib.hid fun V h => ⟨⟨(KD.below h).2 0, (KD.below h).2 1⟩, ⟨(KI.below h).2 0, (KI.below h).2 1, (KI.below h).2 2, (KI.below h).2 3, (KI.below h).2 4⟩, ⟨(KF.below h).2 0, (KF.below h).2 1⟩, ⟨(KT.below h).2 0, (KT.below h).2 1⟩⟩
        have HYC : Hid (∀ V, Below Y3.heap.size Y3 V → Below y0.heap.size y0 V) := Lib.hid fun V h => hC.trans (h.mono hC.size)
        clear KD KI KF KT K6 D5 hC
        go_wp2_with fail
        refine wp_region_held_drew (S := (fun V => Below Y3.heap.size Y3 V)) (by kernel_rfl) (by exact (Below.refl _ _).drew) (fun hHeld => ?_)
        generalize Y3.drew = VE at *
        refine tkZ (i := 0) (oi := ⟨some 38, _, _, _, _, _⟩) (v := ?_) rfl (by kernel_rfl) (fun _ _ _ h => h) (Or.inl ⟨by rfl, ?_⟩) hHeld ?_
        rotate_left
        · (intro w hSw; obtain ⟨⟨d0, d1⟩, ⟨i0, i1, i2, i3, i4⟩, ⟨f0, f1⟩, ⟨u0, u1⟩⟩ := HQ.out _ (hSw); go_simp <;> with_reducible rfl)
        try simp only [pqZ]
        refine tkZ (i := 2) (oi := ⟨some 40, _, _, _, _, _⟩) (v := ?_) rfl (by kernel_rfl) (fun _ _ _ h => h) (Or.inl ⟨by rfl, ?_⟩) hHeld ?_
        rotate_left
        · (intro w hSw; obtain ⟨⟨d0, d1⟩, ⟨i0, i1, i2, i3, i4⟩, ⟨f0, f1⟩, ⟨u0, u1⟩⟩ := HQ.out _ (hSw); go_simp <;> with_reducible rfl)
        try simp only [pqZ]
        refine tkZ (i := 3) (oi := ⟨some 41, _, _, _, _, _⟩) (v := ?_) rfl (by kernel_rfl) (fun _ _ _ h => h) (Or.inl ⟨by rfl, ?_⟩) hHeld ?_
        rotate_left
        · (intro w hSw; obtain ⟨⟨d0, d1⟩, ⟨i0, i1, i2, i3, i4⟩, ⟨f0, f1⟩, ⟨u0, u1⟩⟩ := HQ.out _ (hSw); go_simp <;> with_reducible rfl)
        try simp only [pqZ]
        refine tkZ (i := 4) (oi := ⟨some 42, _, _, _, _, _⟩) (v := ?_) rfl (by kernel_rfl) (fun _ _ _ h => h) (Or.inl ⟨by rfl, ?_⟩) hHeld ?_
        rotate_left
        · (intro w hSw; obtain ⟨⟨d0, d1⟩, ⟨i0, i1, i2, i3, i4⟩, ⟨f0, f1⟩, ⟨u0, u1⟩⟩ := HQ.out _ (hSw); go_simp <;> with_reducible rfl)
        try simp only [pqZ]
        refine tkZ (i := 5) (oi := ⟨some 43, _, _, _, _, _⟩) (v := ?_) rfl (by kernel_rfl) (fun _ _ _ h => h) (Or.inl ⟨by rfl, ?_⟩) hHeld ?_
        rotate_left
        · (intro w hSw; clear hSw; go_simp <;> with_reducible rfl)
        try simp only [pqZ]
        refine tkZ (i := 6) (oi := ⟨some 44, _, _, _, _, _⟩) (v := ?_) rfl (by kernel_rfl) (fun _ _ _ h => h) (Or.inl ⟨by rfl, ?_⟩) hHeld ?_
        rotate_left
        · (intro w hSw; clear hSw; go_simp <;> with_reducible rfl)
        try simp only [pqZ]
        refine wpAnyH_ready (rs := [1, 11]) (by kernel_rfl) (by simp) ?_
        refine AllReadyH.cons (o := ⟨some 39, _, _, _, _, _⟩) rfl (fun K hK => ?_) (AllReadyH.cons (o := ⟨some 18, _, _, _, _, _⟩) rfl (fun K hK => ?_) AllReadyH.nil)
        · go_simp
          refine (plain_any _ _ _ _ _ _ _).mono ?_
          rintro e x1 ⟨rfl, hk1⟩
          have hKeep := since_step hHeld hk1
          go_wp2_with fail
          refine hK.out _ _ (by (try dsimp only); exact hKeep) (fun hHeld => ?_)
          clear hK K hKeep
          try simp only [pqZ]
          refine wpAnyH_ready (rs := [7, 11]) (by kernel_rfl) (by simp) ?_
          refine AllReadyH.cons (o := ⟨some 45, _, _, _, _, _⟩) rfl (fun K hK => ?_) (AllReadyH.cons (o := ⟨some 18, _, _, _, _, _⟩) rfl (fun K hK => ?_) AllReadyH.nil)
          · go_simp
            refine (HRT.out _ (HYC.out _ hHeld)).mono ?_
            rintro e x2 ⟨⟨m7, A7, k7, A8, k8, rfl, D7⟩, hk2⟩
            have hKeep := since_step hHeld hk2
            go_wp2_with fail
            refine hK.out _ _ (by (try dsimp only); exact hKeep) (fun hHeld => ?_)
            clear hK K hKeep
            try simp only [pqZ]
            refine tkZ (i := 8) (oi := ⟨some 37, _, _, _, _, _⟩) (v := ?_) rfl (by kernel_rfl) (fun _ _ _ h => h) (Or.inl ⟨by rfl, ?_⟩) hHeld ?_
            rotate_left
            · (intro w hSw; clear hSw; go_simp <;> with_reducible rfl)
            try simp only [pqZ]
            refine tkZ (i := 9) (oi := ⟨some 46, _, _, _, _, _⟩) (v := ?_) rfl (by kernel_rfl) (fun _ _ _ h => h) (Or.inl ⟨by rfl, ?_⟩) hHeld ?_
            rotate_left
            · (intro w hSw; clear hSw; go_simp <;> with_reducible rfl)
            try simp only [pqZ]
            refine tkZ (i := 10) (oi := ⟨some 47, _, _, _, _, _⟩) (v := ?_) rfl (by kernel_rfl) (fun _ _ _ h => h) (Or.inl ⟨by rfl, ?_⟩) hHeld ?_
            rotate_left
            · (intro w hSw; clear hSw; go_simp <;> with_reducible rfl)
            try simp only [pqZ]
            refine wpAnyH_ready (rs := [11]) (by kernel_rfl) (by simp) ?_
            refine AllReadyH.cons (o := ⟨some 18, _, _, _, _, _⟩) rfl (fun K hK => ?_) AllReadyH.nil
            have hHd := hHeld
            obtain ⟨⟨d0, d1⟩, ⟨i0, i1, i2, i3, i4⟩, ⟨f0, f1⟩, ⟨u0, u1⟩⟩ := HQ.out _ (hHd)
            have hHp := hHeld
            have X := DB.new x2 36
            have hgs : Y3.heap.size ≤ x2.heap.size := hHeld.size
            have hKeep := since_alloc hHeld (.cells #[.slice none 0 0, .slice none 0 0] 36)
            go_simp
            refine hK.out _ _ (by (try dsimp only); exact hKeep) (fun hHeld => ?_)
            clear hK K hKeep
            try simp only [pqZ]
            refine wpAnyH_ready (rs := [12]) (by kernel_rfl) (by simp) ?_
            refine AllReadyH.cons (o := ⟨none, _, _, _, _, _⟩) rfl (fun K hK => ?_) AllReadyH.nil
            have hHd := hHeld
            obtain ⟨⟨d0, d1⟩, ⟨i0, i1, i2, i3, i4⟩, ⟨f0, f1⟩, ⟨u0, u1⟩⟩ := HQ.out _ (hHd)
            obtain ⟨y0, y1, y2, y3, y4⟩ := X.got
            have E7 := Bk.new x2 #[.slice A7 m7.length k7, .slice A8 P.length k8] 36
            have D7 := D7.below ((Below.refl x2.heap.size x2).alloc (Nat.le_refl _) (.cells #[.slice A7 m7.length k7, .slice A8 P.length k8] 36))
            have hKeep := since_alloc hHp (.cells #[.slice A7 m7.length k7, .slice A8 P.length k8] 36)
            skip
            go_simp
            refine hK.out _ _ (by (try dsimp only); exact hKeep) (fun hHeld => ?_)
            clear hK K hKeep
            try simp only [pqZ]
            refine tkZ (i := 13) (oi := ⟨some 19, _, _, _, _, _⟩) (v := ?_) rfl (by kernel_rfl) (fun _ _ _ h => h) (Or.inl ⟨by rfl, ?_⟩) hHeld ?_
            rotate_left
            · (intro w hSw; clear hSw; go_simp <;> with_reducible rfl)
            try simp only [pqZ]
            refine wpAnyH_done (by kernel_rfl) ?_ _
            go_wp2_with fail
            go_meet
            case rel => exact ⟨_, A7, m7, k7, A8, k8, rfl, rfl, E7, D7, hHeld⟩
          · have hHd := hHeld
            obtain ⟨⟨d0, d1⟩, ⟨i0, i1, i2, i3, i4⟩, ⟨f0, f1⟩, ⟨u0, u1⟩⟩ := HQ.out _ (hHd)
            have hHp := hHeld
            have X := DB.new x1 36
            have hgs : Y3.heap.size ≤ x1.heap.size := hHeld.size
            have hKeep := since_alloc hHeld (.cells #[.slice none 0 0, .slice none 0 0] 36)
            go_simp
            refine hK.out _ _ (by (try dsimp only); exact hKeep) (fun hHeld => ?_)
            clear hK K hKeep
            try simp only [pqZ]
            refine wpAnyH_ready (rs := [7]) (by kernel_rfl) (by simp) ?_
            refine AllReadyH.cons (o := ⟨some 45, _, _, _, _, _⟩) rfl (fun K hK => ?_) AllReadyH.nil
            go_simp
            refine (HRT.out _ (HYC.out _ hHeld)).mono ?_
            rintro e x2 ⟨⟨m7, A7, k7, A8, k8, rfl, D7⟩, hk2⟩
            have hKeep := since_step hHeld hk2
            have X := X.below hk2
            go_wp2_with fail
            refine hK.out _ _ (by (try dsimp only); exact hKeep) (fun hHeld => ?_)
            clear hK K hKeep
            try simp only [pqZ]
            refine tkZ (i := 8) (oi := ⟨some 37, _, _, _, _, _⟩) (v := ?_) rfl (by kernel_rfl) (fun _ _ _ h => h) (Or.inl ⟨by rfl, ?_⟩) hHeld ?_
            rotate_left
            · (intro w hSw; clear hSw; go_simp <;> with_reducible rfl)
            try simp only [pqZ]
            refine tkZ (i := 9) (oi := ⟨some 46, _, _, _, _, _⟩) (v := ?_) rfl (by kernel_rfl) (fun _ _ _ h => h) (Or.inl ⟨by rfl, ?_⟩) hHeld ?_
            rotate_left
            · (intro w hSw; clear hSw; go_simp <;> with_reducible rfl)
            try simp only [pqZ]
            refine tkZ (i := 10) (oi := ⟨some 47, _, _, _, _, _⟩) (v := ?_) rfl (by kernel_rfl) (fun _ _ _ h => h) (Or.inl ⟨by rfl, ?_⟩) hHeld ?_
            rotate_left
            · (intro w hSw; clear hSw; go_simp <;> with_reducible rfl)
            try simp only [pqZ]
            refine wpAnyH_ready (rs := [12]) (by kernel_rfl) (by simp) ?_
            refine AllReadyH.cons (o := ⟨none, _, _, _, _, _⟩) rfl (fun K hK => ?_) AllReadyH.nil
            have hHd := hHeld
            obtain ⟨⟨d0, d1⟩, ⟨i0, i1, i2, i3, i4⟩, ⟨f0, f1⟩, ⟨u0, u1⟩⟩ := HQ.out _ (hHd)
            obtain ⟨y0, y1, y2, y3, y4⟩ := X.got
            have E7 := X.set (.slice A7 m7.length k7) (.slice A8 P.length k8)
            have D7 := D7.off2 X (.slice A7 m7.length k7) (.slice A8 P.length k8)
            have hKeep := Below.setCell (Below.setCell hHeld (p := ⟨x1.heap.size, 0, none⟩) hgs (.slice A7 m7.length k7)) (p := ⟨x1.heap.size, 1, none⟩) hgs (.slice A8 P.length k8)
            skip
            go_simp
            refine hK.out _ _ (by (try dsimp only); exact hKeep) (fun hHeld => ?_)
            clear hK K hKeep
            try simp only [pqZ]
            refine tkZ (i := 13) (oi := ⟨some 19, _, _, _, _, _⟩) (v := ?_) rfl (by kernel_rfl) (fun _ _ _ h => h) (Or.inl ⟨by rfl, ?_⟩) hHeld ?_
            rotate_left
            · (intro w hSw; clear hSw; go_simp <;> with_reducible rfl)
            try simp only [pqZ]
            refine wpAnyH_done (by kernel_rfl) ?_ _
            go_wp2_with fail
            go_meet
            case rel => exact ⟨_, A7, m7, k7, A8, k8, rfl, rfl, E7, D7, hHeld⟩
        · have hHd := hHeld
          obtain ⟨⟨d0, d1⟩, ⟨i0, i1, i2, i3, i4⟩, ⟨f0, f1⟩, ⟨u0, u1⟩⟩ := HQ.out _ (hHd)
          have hHp := hHeld
          have X := DB.new VE 36
          have hgs : Y3.heap.size ≤ VE.heap.size := hHeld.size
          have hKeep := since_alloc hHeld (.cells #[.slice none 0 0, .slice none 0 0] 36)
          go_simp
          refine hK.out _ _ (by (try dsimp only); exact hKeep) (fun hHeld => ?_)
          clear hK K hKeep
          try simp only [pqZ]
          refine wpAnyH_ready (rs := [1]) (by kernel_rfl) (by simp) ?_
          refine AllReadyH.cons (o := ⟨some 39, _, _, _, _, _⟩) rfl (fun K hK => ?_) AllReadyH.nil
          go_simp
          refine (plain_any _ _ _ _ _ _ _).mono ?_
          rintro e x1 ⟨rfl, hk1⟩
          have hKeep := since_step hHeld hk1
          have X := X.below hk1
          go_wp2_with fail
          refine hK.out _ _ (by (try dsimp only); exact hKeep) (fun hHeld => ?_)
          clear hK K hKeep
          try simp only [pqZ]
          refine wpAnyH_ready (rs := [7]) (by kernel_rfl) (by simp) ?_
          refine AllReadyH.cons (o := ⟨some 45, _, _, _, _, _⟩) rfl (fun K hK => ?_) AllReadyH.nil
          go_simp
          refine (HRT.out _ (HYC.out _ hHeld)).mono ?_
          rintro e x2 ⟨⟨m7, A7, k7, A8, k8, rfl, D7⟩, hk2⟩
          have hKeep := since_step hHeld hk2
          have X := X.below hk2
          go_wp2_with fail
          refine hK.out _ _ (by (try dsimp only); exact hKeep) (fun hHeld => ?_)
          clear hK K hKeep
          try simp only [pqZ]
          refine tkZ (i := 8) (oi := ⟨some 37, _, _, _, _, _⟩) (v := ?_) rfl (by kernel_rfl) (fun _ _ _ h => h) (Or.inl ⟨by rfl, ?_⟩) hHeld ?_
          rotate_left
          · (intro w hSw; clear hSw; go_simp <;> with_reducible rfl)
          try simp only [pqZ]
          refine tkZ (i := 9) (oi := ⟨some 46, _, _, _, _, _⟩) (v := ?_) rfl (by kernel_rfl) (fun _ _ _ h => h) (Or.inl ⟨by rfl, ?_⟩) hHeld ?_
          rotate_left
          · (intro w hSw; clear hSw; go_simp <;> with_reducible rfl)
          try simp only [pqZ]
          refine tkZ (i := 10) (oi := ⟨some 47, _, _, _, _, _⟩) (v := ?_) rfl (by kernel_rfl) (fun _ _ _ h => h) (Or.inl ⟨by rfl, ?_⟩) hHeld ?_
          rotate_left
          · (intro w hSw; clear hSw; go_simp <;> with_reducible rfl)
          try simp only [pqZ]
          refine wpAnyH_ready (rs := [12]) (by kernel_rfl) (by simp) ?_
          refine AllReadyH.cons (o := ⟨none, _, _, _, _, _⟩) rfl (fun K hK => ?_) AllReadyH.nil
          have hHd := hHeld
          obtain ⟨⟨d0, d1⟩, ⟨i0, i1, i2, i3, i4⟩, ⟨f0, f1⟩, ⟨u0, u1⟩⟩ := HQ.out _ (hHd)
          obtain ⟨y0, y1, y2, y3, y4⟩ := X.got
          have E7 := X.set (.slice A7 m7.length k7) (.slice A8 P.length k8)
          have D7 := D7.off2 X (.slice A7 m7.length k7) (.slice A8 P.length k8)
          have hKeep := Below.setCell (Below.setCell hHeld (p := ⟨VE.heap.size, 0, none⟩) hgs (.slice A7 m7.length k7)) (p := ⟨VE.heap.size, 1, none⟩) hgs (.slice A8 P.length k8)
          skip
          go_simp
          refine hK.out _ _ (by (try dsimp only); exact hKeep) (fun hHeld => ?_)
          clear hK K hKeep
          try simp only [pqZ]
          refine tkZ (i := 13) (oi := ⟨some 19, _, _, _, _, _⟩) (v := ?_) rfl (by kernel_rfl) (fun _ _ _ h => h) (Or.inl ⟨by rfl, ?_⟩) hHeld ?_
          rotate_left
          · (intro w hSw; clear hSw; go_simp <;> with_reducible rfl)
          try simp only [pqZ]
          refine wpAnyH_done (by kernel_rfl) ?_ _
          go_wp2_with fail
          go_meet
          case rel => exact ⟨_, A7, m7, k7, A8, k8, rfl, rfl, E7, D7, hHeld⟩
    case rest =>
      obtain ⟨g7, A7, m7, k7, A8, k8, rfl, rfl, K7, D7, hbx⟩ := hcut
      have KD := KD.below hbx
      have KI := KI.below hbx
      have KF := KF.below hbx
      have KT := KT.below hbx
      have D5 := D5.below hbx
      have K6 := K6.below hbx
      have hC := since_step hC hbx
      clear hbx
      go_upto_region 4 with fail
      have hCy := hC.size
      have HQ : Hid (∀ V, Below wc.heap.size wc V → (V.cell? ⟨g, 0, none⟩ = some (.slice A' R.length c') ∧ V.cell? ⟨g, 1, none⟩ = some (.slice a1 p.length c1)) ∧ (V.cell? ⟨gY3, 0, none⟩ = some (.slice A5 m5.length k5) ∧ V.cell? ⟨gY3, 1, none⟩ = some (.slice A6 P.length k6)) ∧ (V.cell? ⟨g7, 0, none⟩ = some (.slice A7 m7.length k7) ∧ V.cell? ⟨g7, 1, none⟩ = some (.slice A8 P.length k8))) := Lib.hid fun V h => ⟨⟨(KD.below h).2 0, (KD.below h).2 1⟩, ⟨(K6.below h).2 0, (K6.below h).2 1⟩, ⟨(K7.below h).2 0, (K7.below h).2 1⟩⟩
      have HKI : Hid (∀ V, Below wc.heap.size wc V → Bk V w.heap.size #[.int .i64 j.id, .int .i64 j.mult, .int .i64 j.price, .int .i64 j.nxt, .slice IA j.mv.length IC]) := Lib.hid fun V h => KI.below h
      have HYC : Hid (∀ V, Below wc.heap.size wc V → Below y0.heap.size y0 V) := Lib.hid fun V h => hC.trans (h.mono hC.size)
      have HDD : Hid (∀ V, Below wc.heap.size wc V → Dk V A5 m5 B A6 P ∧ Dk V A7 m7 B A8 P) := Lib.hid fun V h => ⟨D5.below h, D7.below h⟩
      have HM5 : Hid (m5.length ≤ 900000) := Lib.hid (by rw [D5.t.1]; have := HB14.out; omega)
      clear KD KI KF KT K6 K7 D5 D7 hC hCy HAT HRT
      go_wp2_with fail
      refine wp_region_held_drew (S := (fun V => Below wc.heap.size wc V)) (by kernel_rfl) (by exact (Below.refl _ _).drew) (fun hHeld => ?_)
      refine tkZ (i := 0) (oi := ⟨some 48, _, _, _, _, _⟩) (v := ?_) rfl (by kernel_rfl) (fun _ _ _ h => h) (Or.inl ⟨by rfl, ?_⟩) hHeld ?_
      rotate_left
      · (intro w hSw; obtain ⟨⟨d0, d1⟩, ⟨a0_, a1_⟩, ⟨b0_, b1_⟩⟩ := HQ.out _ (hSw); go_simp <;> with_reducible rfl)
      try simp only [pqZ]
      refine tkZ (i := 2) (oi := ⟨some 50, _, _, _, _, _⟩) (v := ?_) rfl (by kernel_rfl) (fun _ _ _ h => h) (Or.inl ⟨by rfl, ?_⟩) hHeld ?_
      rotate_left
      · (intro w hSw; obtain ⟨⟨d0, d1⟩, ⟨a0_, a1_⟩, ⟨b0_, b1_⟩⟩ := HQ.out _ (hSw); go_simp <;> with_reducible rfl)
      try simp only [pqZ]
      refine wpAnyH_ready (rs := [1]) (by kernel_rfl) (by simp) ?_
      refine AllReadyH.cons (o := ⟨some 49, _, _, _, _, _⟩) rfl (fun K hK => ?_) AllReadyH.nil
      go_simp
      refine (plain_any _ _ _ _ _ _ _).mono ?_
      rintro e x1 ⟨rfl, hk1⟩
      have hKeep := since_step hHeld hk1
      go_wp2_with fail
      refine hK.out _ _ (by (try dsimp only); exact hKeep) (fun hHeld => ?_)
      clear hK K hKeep
      try simp only [pqZ]
      refine wpAnyH_ready (rs := [3]) (by kernel_rfl) (by simp) ?_
      refine AllReadyH.cons (o := ⟨some 51, _, _, _, _, _⟩) rfl (fun K hK => ?_) AllReadyH.nil
      go_simp
      refine (HSM.out _ _ _ _ _ _ _ _ _ _ _ HM5.out (HDD.out _ hHeld).1 (HDD.out _ hHeld).2).mono ?_
      rintro e x2 ⟨rfl, hk1⟩
      have hKeep := since_step hHeld hk1
      go_wp2_with fail
      refine hK.out _ _ (by (try dsimp only); exact hKeep) (fun hHeld => ?_)
      clear hK K hKeep
      try simp only [pqZ]
      refine tkZ (i := 4) (oi := ⟨some 52, _, _, _, _, _⟩) (v := ?_) rfl (by kernel_rfl) (fun _ _ _ h => h) (Or.inl ⟨by rfl, ?_⟩) hHeld ?_
      rotate_left
      · (intro w hSw; clear hSw; go_simp <;> with_reducible rfl)
      try simp only [pqZ]
      refine tkZ (i := 5) (oi := ⟨some 53, _, _, _, _, _⟩) (v := ?_) rfl (by kernel_rfl) (fun _ _ _ h => h) (Or.inl ⟨by rfl, ?_⟩) hHeld ?_
      rotate_left
      · (intro w hSw; clear hSw; go_simp <;> with_reducible rfl)
      try simp only [pqZ]
      refine tkZ (i := 6) (oi := ⟨some 54, _, _, _, _, _⟩) (v := ?_) rfl (by kernel_rfl) (fun _ _ _ h => h) (Or.inl ⟨by rfl, ?_⟩) hHeld ?_
      rotate_left
      · (intro w hSw; clear hSw; go_simp <;> with_reducible rfl)
      try simp only [pqZ]
      refine tkZ (i := 7) (oi := ⟨some 55, _, _, _, _, _⟩) (v := ?_) rfl (by kernel_rfl) (fun _ _ _ h => h) (Or.inl ⟨by rfl, ?_⟩) hHeld ?_
      rotate_left
      · (intro w hSw; clear hSw; go_simp <;> with_reducible rfl)
      try simp only [pqZ]
      refine tkZ (i := 8) (oi := ⟨some 56, _, _, _, _, _⟩) (v := ?_) rfl (by kernel_rfl) (fun _ _ _ h => h) (Or.inl ⟨by rfl, ?_⟩) hHeld ?_
      rotate_left
      · (intro w hSw; clear hSw; go_simp <;> with_reducible rfl)
      try simp only [pqZ]
      refine tkZ (i := 9) (oi := ⟨some 57, _, _, _, _, _⟩) (v := ?_) rfl (by kernel_rfl) (fun _ _ _ h => h) (Or.inl ⟨by rfl, ?_⟩) hHeld ?_
      rotate_left
      · (intro w hSw; clear hSw; go_simp <;> with_reducible rfl)
      try simp only [pqZ]
      refine tkZ (i := 10) (oi := ⟨some 58, _, _, _, _, _⟩) (v := ?_) rfl (by kernel_rfl) (fun _ _ _ h => h) (Or.inl ⟨by rfl, ?_⟩) hHeld ?_
      rotate_left
      · (intro w hSw; clear hSw; go_simp <;> with_reducible rfl)
      try simp only [pqZ]
      refine tkZ (i := 11) (oi := ⟨some 59, _, _, _, _, _⟩) (v := ?_) rfl (by kernel_rfl) (fun _ _ _ h => h) (Or.inl ⟨by rfl, ?_⟩) hHeld ?_
      rotate_left
      · (intro w hSw; obtain ⟨⟨d0, d1⟩, ⟨a0_, a1_⟩, ⟨b0_, b1_⟩⟩ := HQ.out _ (hSw); go_simp <;> with_reducible rfl)
      try simp only [pqZ]
      refine tkZ (i := 13) (oi := ⟨some 61, _, _, _, _, _⟩) (v := ?_) rfl (by kernel_rfl) (fun _ _ _ h => h) (Or.inl ⟨by rfl, ?_⟩) hHeld ?_
      rotate_left
      · (intro w hSw; obtain ⟨⟨d0, d1⟩, ⟨a0_, a1_⟩, ⟨b0_, b1_⟩⟩ := HQ.out _ (hSw); go_simp <;> with_reducible rfl)
      try simp only [pqZ]
      refine wpAnyH_ready (rs := [12]) (by kernel_rfl) (by simp) ?_
      refine AllReadyH.cons (o := ⟨some 60, _, _, _, _, _⟩) rfl (fun K hK => ?_) AllReadyH.nil
      go_simp
      refine (HIS.out _ (HYC.out _ hHeld)).mono ?_
      rintro e x3 ⟨rfl, hk1⟩
      have hKeep := since_step hHeld hk1
      go_wp2_with fail
      refine hK.out _ _ (by (try dsimp only); exact hKeep) (fun hHeld => ?_)
      clear hK K hKeep
      try simp only [pqZ]
      refine wpAnyH_ready (rs := [14]) (by kernel_rfl) (by simp) ?_
      refine AllReadyH.cons (o := ⟨some 62, _, _, _, _, _⟩) rfl (fun K hK => ?_) AllReadyH.nil
      go_simp
      refine (plain_any _ _ _ _ _ _ _).mono ?_
      rintro e x4 ⟨rfl, hk1⟩
      have hKeep := since_step hHeld hk1
      go_wp2_with fail
      refine hK.out _ _ (by (try dsimp only); exact hKeep) (fun hHeld => ?_)
      clear hK K hKeep
      try simp only [pqZ]
      refine wpAnyH_ready (rs := [15]) (by kernel_rfl) (by simp) ?_
      refine AllReadyH.cons (o := ⟨some 63, _, _, _, _, _⟩) rfl (fun K hK => ?_) AllReadyH.nil
      go_simp
      refine (HRS.out _ (HYC.out _ hHeld)).mono ?_
      rintro e x5 ⟨rfl, hk1⟩
      have hKeep := since_step hHeld hk1
      go_wp2_with fail
      refine hK.out _ _ (by (try dsimp only); exact hKeep) (fun hHeld => ?_)
      clear hK K hKeep
      try simp only [pqZ]
      refine tkZ (i := 16) (oi := ⟨some 64, _, _, _, _, _⟩) (v := ?_) rfl (by kernel_rfl) (fun _ _ _ h => h) (Or.inl ⟨by rfl, ?_⟩) hHeld ?_
      rotate_left
      · (intro w hSw; clear hSw; go_simp <;> with_reducible rfl)
      try simp only [pqZ]
      refine tkZ (i := 17) (oi := ⟨some 65, _, _, _, _, _⟩) (v := ?_) rfl (by kernel_rfl) (fun _ _ _ h => h) (Or.inl ⟨by rfl, ?_⟩) hHeld ?_
      rotate_left
      · (intro w hSw; clear hSw; go_simp <;> with_reducible rfl)
      try simp only [pqZ]
      refine wpAnyH_done (by kernel_rfl) ?_ _
      have hC := HYC.out _ hHeld
      have KI := HKI.out _ hHeld
      clear HQ HKI HYC HDD HM5 hHeld HIS HRS HSM
      obtain ⟨KI_l, KI_c⟩ := id KI
      have KI_0 := KI_c 0
      have KI_1 := KI_c 1
      have KI_2 := KI_c 2
      have KI_3 := KI_c 3
      have KI_4 := KI_c 4
      simp at KI_0 KI_1 KI_2 KI_3 KI_4
      clear KI_c
      go_wp2_with fail
      refine (HCO.out _ hC).mono ?_
      rintro e v1 ⟨rfl, hb⟩
      have hC := since_step hC hb
      have KI := KI.below hb
      clear hb
      clear KI_l KI_0 KI_1 KI_2 KI_3 KI_4
      by_cases h1 : okB j = true
      · by_cases h2 : pr < 0
        · have HGV : gainV j q 0 pr = 0 := if_neg (fun h => by have := h.2.2; unfold prB at this; simp only [Bool.and_eq_true, decide_eq_true_eq] at this; omega)
          have HGE : gainE j q 0 pr = 2 := if_neg (fun h => by have := h.2.2; unfold prB at this; simp only [Bool.and_eq_true, decide_eq_true_eq] at this; omega)
          rw [HGV, HGE]
          clear HGV HGE
          rw [h1] at HRI
          have b1 : decide (pr < 0) = true := decide_eq_true h2
          clear h1 h2 HGN
          obtain ⟨KI_l, KI_c⟩ := id KI
          have KI_0 := KI_c 0
          have KI_1 := KI_c 1
          have KI_2 := KI_c 2
          have KI_3 := KI_c 3
          have KI_4 := KI_c 4
          simp at KI_0 KI_1 KI_2 KI_3 KI_4
          clear KI_c
          go_wp2_with fail
          refine (HRI.out _ hC).mono ?_
          rintro e v2 ⟨rfl, hb⟩
          have hC := since_step hC hb
          have KI := KI.below hb
          clear hb
          clear KI_l KI_0 KI_1 KI_2 KI_3 KI_4
          go_wp2_with fail
          refine (HLV.out _).mono ?_
          rintro e v3 ⟨rfl, hb⟩
          have hC := since_step hC hb
          clear hb
          go_wp2_with fail
          go_ret
          exact ⟨rfl, hB.trans (hC.mono hB.size)⟩
        · by_cases h3 : 2147483647 < pr
          · have HGV : gainV j q 0 pr = 0 := if_neg (fun h => by have := h.2.2; unfold prB at this; simp only [Bool.and_eq_true, decide_eq_true_eq] at this; omega)
            have HGE : gainE j q 0 pr = 2 := if_neg (fun h => by have := h.2.2; unfold prB at this; simp only [Bool.and_eq_true, decide_eq_true_eq] at this; omega)
            rw [HGV, HGE]
            clear HGV HGE
            rw [h1] at HRI
            have b1 : decide (pr < 0) = false := decide_eq_false h2
            have b2 : decide (2147483647 < pr) = true := decide_eq_true h3
            clear h1 h2 h3 HGN
            obtain ⟨KI_l, KI_c⟩ := id KI
            have KI_0 := KI_c 0
            have KI_1 := KI_c 1
            have KI_2 := KI_c 2
            have KI_3 := KI_c 3
            have KI_4 := KI_c 4
            simp at KI_0 KI_1 KI_2 KI_3 KI_4
            clear KI_c
            go_wp2_with fail
            refine (HRI.out _ hC).mono ?_
            rintro e v2 ⟨rfl, hb⟩
            have hC := since_step hC hb
            have KI := KI.below hb
            clear hb
            clear KI_l KI_0 KI_1 KI_2 KI_3 KI_4
            go_wp2_with fail
            refine (HLV.out _).mono ?_
            rintro e v3 ⟨rfl, hb⟩
            have hC := since_step hC hb
            clear hb
            go_wp2_with fail
            go_ret
            exact ⟨rfl, hB.trans (hC.mono hB.size)⟩
          · have hp2 : prB pr = true := by unfold prB; simp only [Bool.and_eq_true, decide_eq_true_eq]; omega
            have hp0 : prB 0 = true := by decide
            have HGV : gainV j q 0 pr = fV (gainZ j q 0 pr) := if_pos ⟨h1, hp0, hp2⟩
            have HGE0 : gainE j q 0 pr = fE (gainZ j q 0 pr) := if_pos ⟨h1, hp0, hp2⟩
            rw [HGV, HGE0]
            have HGE := Lib.hid (gain_turnD j q 0 pr)
            have h128 : In128 (gainZ j q 0 pr) := by
              have hm := pr_move hp0 hp2
              exact (move_in hqp.1 ⟨hm.1, hm.2.1⟩ (ok_mult h1)).2.2.2
            have HLI := Lib.hid (fun s A n c V (h : BigAt V s A n c (gainZ j q 0 pr)) => is_any (gainZ j q 0 pr) s A n c V (by have := h.l128 h128; omega) h)
            rw [h1] at HRI
            have b1 : decide (pr < 0) = false := decide_eq_false h2
            have b2 : decide (2147483647 < pr) = false := decide_eq_false h3
            clear h1 h2 h3 hp0 hp2 HGV HGE0 h128
            generalize gainZ j q 0 pr = gz at *
            obtain ⟨KI_l, KI_c⟩ := id KI
            have KI_0 := KI_c 0
            have KI_1 := KI_c 1
            have KI_2 := KI_c 2
            have KI_3 := KI_c 3
            have KI_4 := KI_c 4
            simp at KI_0 KI_1 KI_2 KI_3 KI_4
            clear KI_c
            go_wp2_with fail
            refine (HRI.out _ hC).mono ?_
            rintro e v2 ⟨rfl, hb⟩
            have hC := since_step hC hb
            have KI := KI.below hb
            clear hb
            clear KI_l KI_0 KI_1 KI_2 KI_3 KI_4
            obtain ⟨KI_l, KI_c⟩ := id KI
            have KI_0 := KI_c 0
            have KI_1 := KI_c 1
            have KI_2 := KI_c 2
            have KI_3 := KI_c 3
            have KI_4 := KI_c 4
            simp at KI_0 KI_1 KI_2 KI_3 KI_4
            clear KI_c
            go_wp2_with fail
            refine (HGN.out _ hC).mono ?_
            rintro e v3 ⟨⟨sg, B4, n4, k4, rfl, _, D4⟩, hb⟩
            have hC := since_step hC hb
            have KI := KI.below hb
            clear hb
            clear KI_l KI_0 KI_1 KI_2 KI_3 KI_4
            rw [HGE.out] at D4
            go_wp2_with fail
            refine (HLI.out _ _ _ _ _ D4).mono ?_
            rintro e v4 ⟨rfl, hb⟩
            have hC := since_step hC hb
            clear hb
            clear D4
            go_wp2_with fail
            refine (HLV.out _).mono ?_
            rintro e v5 ⟨rfl, hb⟩
            have hC := since_step hC hb
            clear hb
            go_wp2_with fail
            go_ret
            exact ⟨rfl, hB.trans (hC.mono hB.size)⟩
      · have h1' : okB j = false := by simpa using h1
        have HGV : gainV j q 0 pr = 0 := if_neg (fun h => h1 h.1)
        have HGE : gainE j q 0 pr = 2 := if_neg (fun h => h1 h.1)
        rw [HGV, HGE]
        clear HGV HGE
        rw [h1'] at HRI
        clear h1 h1' HGN
        obtain ⟨KI_l, KI_c⟩ := id KI
        have KI_0 := KI_c 0
        have KI_1 := KI_c 1
        have KI_2 := KI_c 2
        have KI_3 := KI_c 3
        have KI_4 := KI_c 4
        simp at KI_0 KI_1 KI_2 KI_3 KI_4
        clear KI_c
        go_wp2_with fail
        refine (HRI.out _ hC).mono ?_
        rintro e v2 ⟨rfl, hb⟩
        have hC := since_step hC hb
        have KI := KI.below hb
        clear hb
        clear KI_l KI_0 KI_1 KI_2 KI_3 KI_4
        go_wp2_with fail
        refine (HLV.out _).mono ?_
        rintro e v3 ⟨rfl, hb⟩
        have hC := since_step hC hb
        clear hb
        go_wp2_with fail
        go_ret
        exact ⟨rfl, hB.trans (hC.mono hB.size)⟩
theorem walk_DealGoes (a0 : Option Addr) (n0 c0 : Nat) (a1 : Option Addr) (n1 c1 : Nat) (a2 : Array Value) (a3 : Array Value) (a4 : Array Value) (a5 : Int) (a6 : Int) (w : World) (w0 : Rd w (.sl (.cat (.cat (.int .i64) (.cat (.int .i64) .nil)) (.cat (.sl (.cat (.int .i64) (.cat (.int .i64) .nil))) .nil))) [.slice a0 n0 c0]) (w1 : Rd w (.sl (.cat (.cat (.int .i64) (.cat (.int .i64) .nil)) (.cat (.int .i64) .nil))) [.slice a1 n1 c1]) (w2 : Rd w (.cat (.int .i64) (.cat (.int .i64) (.cat (.int .i64) (.cat (.int .i64) (.cat (.sl (.int .i64)) .nil))))) a2.toList) (w3 : Rd w (.cat (.int .i64) (.cat (.int .i64) .nil)) a3.toList) (w4 : Rd w (.cat (.int .i64) (.cat (.int .i64) .nil)) a4.toList) (w5 : (Lit.int .i64 a5).wf = true) (w6 : (Lit.int .i64 a6).wf = true) :
    Calls Tryz.prog 3 #[.slice a0 n0 c0, .slice a1 n1 c1, .agg a2, .agg a3, .agg a4, .int .i64 a5, .int .i64 a6] w fun e w' => e = .returned (.bool true) ∧ Below w.heap.size w w' := by
  obtain ⟨l, rfl, _, _, hs0, hd0⟩ := rd_rowsP (f := Po.cells) (fun r => rd_posk) w0
  obtain ⟨p, hp20, hpq, hsp, HF1⟩ := rd_fws w1
  obtain ⟨i, IA, IC, e2, hi0⟩ := rd_inst w2
  obtain ⟨fa, fc, e3, hfa, hfc⟩ := rd_unv w3
  obtain ⟨ta, tc, e4, hta, htc⟩ := rd_unv w4
  rw [e2, e3, e4]
  exact dealgoes_any a0 c0 l a1 n1 c1 p i IA IC fa fc ta tc a5 a6 w hs0 hd0 hp20 hpq hsp HF1 hi0 ⟨hfa, hfc⟩ ⟨hta, htc⟩ (bd_i64 w5) (bd_i64 w6)
end Go.Proofs.YtahdmomadbbhoaaGreat
end
