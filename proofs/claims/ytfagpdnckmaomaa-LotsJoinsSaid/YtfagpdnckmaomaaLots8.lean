/-
  Layer 18, eighth part: Sum of the document (laid by gen_lots8.py).
-/
import Derived.Test.YtfagpdnckmaomaaLots7
import Derived.Test.YtfagpdnckmaomaaBox
namespace Go.Proofs.Ytfagpdnckmaomaa
open Go.ChangeShapes Go.WideShapes Go.ChangeAt Go.RowKit
set_option linter.unusedVariables false
set_option linter.unusedSimpArgs false

theorem qsL_sum (l : List Lt) (a : Int) (k : Nat) (h : k < l.length) : (qsL (l.take (k + 1)) a).sum = (qsL (l.take k) a).sum + (if (l[k].ast == a) = true then l[k].qty else 0) := by
  rw [qsL_snoc l a k h]
  cases hb : l[k].ast == a <;> simp
theorem qsL_take_in {l : List Lt} (h : ∀ y ∈ l, In64 y.qty) (a : Int) (k : Nat) (hl : l.length ≤ 900000) : In128 (qsL (l.take k) a).sum := by
  refine sum64_128 ?_ (qsL_in (fun y hy => h y (List.mem_of_mem_take hy)) a)
  have := qsL_len (l.take k) a
  simp only [List.length_take] at this
  omega

set_option maxHeartbeats 4000000 in
set_option maxRecDepth 100000 in
theorem rsum_any (A : Option Addr) (cap : Nat) (l : List Lt) (a : Int) (w : World) (hl : l.length ≤ 900000) (hq : ∀ y ∈ l, In64 y.qty) (hs : Sl w A (rc Lt.cells l)) :
    Calls Try.prog 49 #[.slice A l.length cap, .int .i64 a] w fun e w' => bigR w w' e (qsL l a).sum ∧ Below w.heap.size w w' := by
  have HQQ := Lib.hid hq
  have hB0 := since_alloc (Below.refl _ w) (.cells #[.bool false, .slice none 0 0] 59)
  have G0 := BX.new (w := w) (B := w.heap.size + 1 + 1) (by omega) 59
  have hs0 := hs.alloc (.cells #[.bool false, .slice none 0 0] 59)
  have hWe : (w.alloc (.cells #[.bool false, .slice none 0 0] 59)).heap.size = w.heap.size + 1 := World.size_alloc _ _
  clear hs hq
  go_enter Try.func49, Try.ntmps49
  go_upto_region 1 with fail
  generalize hWW : w.alloc (.cells #[.bool false, .slice none 0 0] 59) = W at *
  clear hWW
  have hWs := hB0.size
  rw [← hWe] at G0
  clear hWe
  go_wp2_with fail
  go_loopw [6] (fun i wr => ∃ (k : Nat) (s : Bool) (A' : Option Addr) (n' c' : Nat), k ≤ l.length ∧ i = .int .i64 k ∧ BX (W.heap.size + 1) wr W.heap.size s A' n' c' (qsL (l.take k) a).sum ∧ Below W.heap.size W wr) (fun i _ => l.length - (intOf i).toNat)
  case atStart => exact ⟨0, false, none, 0, 0, by omega, rfl, BX.new (by omega) _, since_alloc (Below.refl _ _) _⟩
  case round =>
    obtain ⟨k, s6, A6, n6, c6, hk, rfl, X6, hB⟩ := hrel
    by_cases hlt : k < l.length
    · obtain ⟨b, o, rfl, hbw, hg⟩ := hs0.lt hlt
      have hlk : (k : Int) < (l.length : Int) := by omega
      have hge : (0 : Int) ≤ (k : Int) := by omega
      have hN := qsL_sum l a k hlt
      have hvq := HQQ.out _ (List.getElem_mem hlt)
      have H128 := Lib.hid (qsL_take_in HQQ.out a k hl)
      obtain ⟨v, hv⟩ : ∃ v, l[k] = v := ⟨_, rfl⟩
      rw [hv] at hN hvq hg
      clear hv
      obtain ⟨va, vt, vq⟩ := v
      simp only at hN hvq
      have HG : Hid (∀ V, Below W.heap.size W V → Lt.at ⟨va, vt, vq⟩ V b (o + k * 3)) := Lib.hid fun V hV => Lt.at_keep (w := W) hg fun i => hV.cell (p := ⟨b, i, none⟩) hbw
      unfold Lt.at at HG
      simp only at HG
      obtain ⟨y, hy⟩ : ∃ y, (qsL (l.take k) a).sum = y := ⟨_, rfl⟩
      rw [hy] at hN X6 H128
      have HV64 := Lib.hid hvq
      have HQ := Lib.hid (fun W => bof_any vq W hvq)
      clear hy hg hvq
      obtain ⟨g0, g1, g2⟩ := HG.out _ hB
      by_cases h1 : va = a
      · have HE : Hid ((qsL (l.take (k + 1)) a).sum = y + vq) := Lib.hid (by rw [hN]; simp [h1])
        have hb1 : (va == a) = true := by simpa using h1
        clear hN h1
        have X6 := X6.drew
        go_wp2_with fail
        refine wp_region_held_drew (S := (fun V => Below W.heap.size W V)) (by kernel_rfl) (by exact hB.drew) (fun hHeld => ?_)
        refine wpAnyH_take (i := 1) (oi := { dst := some 22, op := _, type := _, pos := _, after := _, guard := _ }) (v := ?_) rfl (by kernel_rfl) (by kernel_rfl) (by kernel_rfl) (fun _ _ _ h => h) (Or.inl ⟨by rfl, ?_⟩) hHeld ?_
        rotate_left
        · (intro w hSw; obtain ⟨g0, g1, g2⟩ := HG.out _ hSw; go_simp <;> with_reducible rfl)
        try simp only [Act.put, List.setIfInBounds_toArray, List.set_cons_zero, List.set_cons_succ]
        refine wpAnyH_take (i := 2) (oi := { dst := some 23, op := _, type := _, pos := _, after := _, guard := _ }) (v := ?_) rfl (by kernel_rfl) (by kernel_rfl) (by kernel_rfl) (fun _ _ _ h => h) (Or.inl ⟨by rfl, ?_⟩) hHeld ?_
        rotate_left
        · (intro w hSw; obtain ⟨g0, g1, g2⟩ := HG.out _ hSw; go_simp <;> with_reducible rfl)
        try simp only [Act.put, List.setIfInBounds_toArray, List.set_cons_zero, List.set_cons_succ]
        refine wpAnyH_take (i := 3) (oi := { dst := some 24, op := _, type := _, pos := _, after := _, guard := _ }) (v := ?_) rfl (by kernel_rfl) (by kernel_rfl) (by kernel_rfl) (fun _ _ _ h => h) (Or.inl ⟨by rfl, ?_⟩) hHeld ?_
        rotate_left
        · (intro w hSw; obtain ⟨g0, g1, g2⟩ := HG.out _ hSw; go_simp <;> with_reducible rfl)
        try simp only [Act.put, List.setIfInBounds_toArray, List.set_cons_zero, List.set_cons_succ]
        refine wpAnyH_take (i := 4) (oi := { dst := some 25, op := _, type := _, pos := _, after := _, guard := _ }) (v := ?_) rfl (by kernel_rfl) (by kernel_rfl) (by kernel_rfl) (fun _ _ _ h => h) (Or.inl ⟨by rfl, ?_⟩) hHeld ?_
        rotate_left
        · (intro w hSw; obtain ⟨g0, g1, g2⟩ := HG.out _ hSw; go_simp <;> with_reducible rfl)
        try simp only [Act.put, List.setIfInBounds_toArray, List.set_cons_zero, List.set_cons_succ]
        refine wpAnyH_take (i := 5) (oi := { dst := some 26, op := _, type := _, pos := _, after := _, guard := _ }) (v := ?_) rfl (by kernel_rfl) (by kernel_rfl) (by kernel_rfl) (fun _ _ _ h => h) (Or.inl ⟨by rfl, ?_⟩) hHeld ?_
        rotate_left
        · (intro w hSw; obtain ⟨g0, g1, g2⟩ := HG.out _ hSw; go_simp <;> with_reducible rfl)
        try simp only [Act.put, List.setIfInBounds_toArray, List.set_cons_zero, List.set_cons_succ]
        refine wpAnyH_ready (rs := [0, 6]) (by kernel_rfl) (by simp) ?_
        refine AllReadyH.cons (o := { dst := some 21, op := _, type := _, pos := _, after := _, guard := _ }) rfl (fun K hK => ?_) (AllReadyH.cons (o := { dst := some 27, op := _, type := _, pos := _, after := _, guard := _ }) rfl (fun K hK => ?_) AllReadyH.nil)
        · have hHd := hHeld
          obtain ⟨g0, g1, g2⟩ := HG.out _ hHd
          obtain ⟨b1, b2, b3, b4, b5⟩ := id X6.bb
          have hKeep := hHeld
          go_simp
          refine hK.out _ _ (by (try dsimp only); exact hKeep) (fun hHeld => ?_)
          clear hK K hKeep
          try simp only [Act.put, List.setIfInBounds_toArray, List.set_cons_zero, List.set_cons_succ]
          refine wpAnyH_ready (rs := [6]) (by kernel_rfl) (by simp) ?_
          refine AllReadyH.cons (o := { dst := some 27, op := _, type := _, pos := _, after := _, guard := _ }) rfl (fun K hK => ?_) AllReadyH.nil
          go_simp
          refine (HQ.out _).mono ?_
          rintro e u1 ⟨⟨s1, A1, m1, k1, rfl, hf1, Y1⟩, hk1⟩
          have hKeep := since_step hHeld hk1
          have L1 := Y1.l64 HV64.out
          have X6 := X6.below hk1
          go_wp2_with fail
          refine hK.out _ _ (by (try dsimp only); exact hKeep) (fun hHeld => ?_)
          clear hK K hKeep
          try simp only [Act.put, List.setIfInBounds_toArray, List.set_cons_zero, List.set_cons_succ]
          refine wpAnyH_ready (rs := [7]) (by kernel_rfl) (by simp) ?_
          refine AllReadyH.cons (o := { dst := some 28, op := _, type := _, pos := _, after := _, guard := _ }) rfl (fun K hK => ?_) AllReadyH.nil
          go_simp
          have L6 := X6.at_.l128 H128.out
          have hgu := X6.bb.1
          refine (badd' (by omega) (by omega) X6.at_ Y1).mono ?_
          rintro e u2 ⟨⟨s2, A2, m2, k2, rfl, hf2, Y2⟩, hk2⟩
          have hKeep := since_step hHeld hk2
          have X6 := X6.below hk2
          go_wp2_with fail
          refine hK.out _ _ (by (try dsimp only); exact hKeep) (fun hHeld => ?_)
          clear hK K hKeep
          try simp only [Act.put, List.setIfInBounds_toArray, List.set_cons_zero, List.set_cons_succ]
          refine wpAnyH_ready (rs := [8]) (by kernel_rfl) (by simp) ?_
          refine AllReadyH.cons (o := { dst := none, op := _, type := _, pos := _, after := _, guard := _ }) rfl (fun K hK => ?_) AllReadyH.nil
          have hHd := hHeld
          obtain ⟨g0, g1, g2⟩ := HG.out _ hHd
          have hF : Fr (W.heap.size + 1) A2 m2 := hf2.le hgu (Nat.le_refl _)
          have X6n := X6.put Y2 hF
          obtain ⟨b1, b2, b3, b4, b5⟩ := id X6.bb
          have hKeep := Below.setCell (Below.setCell hHeld (p := ⟨W.heap.size, 0, none⟩) (Nat.le_refl _) (.bool s2)) (p := ⟨W.heap.size, 1, none⟩) (Nat.le_refl _) (.slice A2 m2 k2)
          skip
          go_simp
          refine hK.out _ _ (by (try dsimp only); exact hKeep) (fun hHeld => ?_)
          clear hK K hKeep
          try simp only [Act.put, List.setIfInBounds_toArray, List.set_cons_zero, List.set_cons_succ]
          refine wpAnyH_done (by kernel_rfl) ?_ _
          generalize hFW : ((u2.setCell ⟨W.heap.size, 0, none⟩ (.bool s2)).setCell ⟨W.heap.size, 1, none⟩ (.slice A2 m2 k2)) = FW at *
          go_wp2_with fail
          go_roundw
          case rel => exact ⟨k + 1, s2, A2, m2, k2, by omega, by go_num, by rw [HE.out]; exact X6n, hHeld⟩
          case measure => simp [intOf]; omega
        · go_simp
          refine (HQ.out _).mono ?_
          rintro e u1 ⟨⟨s1, A1, m1, k1, rfl, hf1, Y1⟩, hk1⟩
          have hKeep := since_step hHeld hk1
          have L1 := Y1.l64 HV64.out
          have X6 := X6.below hk1
          go_wp2_with fail
          refine hK.out _ _ (by (try dsimp only); exact hKeep) (fun hHeld => ?_)
          clear hK K hKeep
          try simp only [Act.put, List.setIfInBounds_toArray, List.set_cons_zero, List.set_cons_succ]
          refine wpAnyH_ready (rs := [0]) (by kernel_rfl) (by simp) ?_
          refine AllReadyH.cons (o := { dst := some 21, op := _, type := _, pos := _, after := _, guard := _ }) rfl (fun K hK => ?_) AllReadyH.nil
          have hHd := hHeld
          obtain ⟨g0, g1, g2⟩ := HG.out _ hHd
          obtain ⟨b1, b2, b3, b4, b5⟩ := id X6.bb
          have hKeep := hHeld
          go_simp
          refine hK.out _ _ (by (try dsimp only); exact hKeep) (fun hHeld => ?_)
          clear hK K hKeep
          try simp only [Act.put, List.setIfInBounds_toArray, List.set_cons_zero, List.set_cons_succ]
          refine wpAnyH_ready (rs := [7]) (by kernel_rfl) (by simp) ?_
          refine AllReadyH.cons (o := { dst := some 28, op := _, type := _, pos := _, after := _, guard := _ }) rfl (fun K hK => ?_) AllReadyH.nil
          go_simp
          have L6 := X6.at_.l128 H128.out
          have hgu := X6.bb.1
          refine (badd' (by omega) (by omega) X6.at_ Y1).mono ?_
          rintro e u2 ⟨⟨s2, A2, m2, k2, rfl, hf2, Y2⟩, hk2⟩
          have hKeep := since_step hHeld hk2
          have X6 := X6.below hk2
          go_wp2_with fail
          refine hK.out _ _ (by (try dsimp only); exact hKeep) (fun hHeld => ?_)
          clear hK K hKeep
          try simp only [Act.put, List.setIfInBounds_toArray, List.set_cons_zero, List.set_cons_succ]
          refine wpAnyH_ready (rs := [8]) (by kernel_rfl) (by simp) ?_
          refine AllReadyH.cons (o := { dst := none, op := _, type := _, pos := _, after := _, guard := _ }) rfl (fun K hK => ?_) AllReadyH.nil
          have hHd := hHeld
          obtain ⟨g0, g1, g2⟩ := HG.out _ hHd
          have hF : Fr (W.heap.size + 1) A2 m2 := hf2.le hgu (Nat.le_refl _)
          have X6n := X6.put Y2 hF
          obtain ⟨b1, b2, b3, b4, b5⟩ := id X6.bb
          have hKeep := Below.setCell (Below.setCell hHeld (p := ⟨W.heap.size, 0, none⟩) (Nat.le_refl _) (.bool s2)) (p := ⟨W.heap.size, 1, none⟩) (Nat.le_refl _) (.slice A2 m2 k2)
          skip
          go_simp
          refine hK.out _ _ (by (try dsimp only); exact hKeep) (fun hHeld => ?_)
          clear hK K hKeep
          try simp only [Act.put, List.setIfInBounds_toArray, List.set_cons_zero, List.set_cons_succ]
          refine wpAnyH_done (by kernel_rfl) ?_ _
          generalize hFW : ((u2.setCell ⟨W.heap.size, 0, none⟩ (.bool s2)).setCell ⟨W.heap.size, 1, none⟩ (.slice A2 m2 k2)) = FW at *
          go_wp2_with fail
          go_roundw
          case rel => exact ⟨k + 1, s2, A2, m2, k2, by omega, by go_num, by rw [HE.out]; exact X6n, hHeld⟩
          case measure => simp [intOf]; omega
      · have HE : Hid ((qsL (l.take (k + 1)) a).sum = y) := Lib.hid (by rw [hN]; simp [h1])
        have hb1 : (va == a) = false := by simpa using h1
        clear hN h1
        go_wp2_with fail
        go_roundw
        case rel => exact ⟨k + 1, s6, A6, n6, c6, by omega, by go_num, by rw [HE.out]; exact X6, hB⟩
        case measure => simp [intOf]; omega
    · obtain rfl : k = l.length := by omega
      rw [List.take_length] at X6
      have hB1 := hB0.trans (hB.mono hWs)
      have G1 := G0.below hB
      have P := G1.put X6.at_ (X6.fr)
      have hcs := @cell_set
      have HFR := Lib.hid (X6.fr.le (B' := w.heap.size) (by omega) (Nat.le_refl _))
      obtain ⟨x1, x2, x3, x4, x5⟩ := id X6.bb
      obtain ⟨y1, y2, y3, y4, y5⟩ := id G1.bb
      clear hs0
      go_wp2_with fail
      refine bodyPost_ret (v := .agg #[.bool s6, .slice A6 n6 c6]) ?_ rfl ?_
      · obtain ⟨d0, d1, d2, _, _⟩ := P.bb
        generalize World.setCell _ _ _ = U at *
        simp [results, Try.results49, go_sem, d1, d2]
      · refine ⟨⟨s6, A6, n6, c6, rfl, HFR.out, P.at_⟩, ?_⟩
        repeat' (first | with_reducible exact hB1 | with_reducible refine Below.setCell ?_ ?_ _)
        all_goals simp
end Go.Proofs.Ytfagpdnckmaomaa
