import Derived.Test.YtahdmomadbbhoaaMk17
import Derived.Test.YtahdmomadbbhoaaMk19
import Derived.Test.YtahdmomadbbhoaaMk28
section
namespace Go.Proofs.Ytahdmomadbbhoaa
open Go.ChangeShapes Go.WideShapes Go.ChangeAt Go.RowKit
set_option linter.unusedVariables false
set_option linter.unusedSimpArgs false

def amts (l : List Fw) : List Int := l.map Fw.amt
theorem amts_len (l : List Fw) : (amts l).length = l.length := by simp [amts]
theorem amts_in {l : List Fw} (h : ∀ y ∈ l, In64 y.amt) : All64 (amts l) := by
  intro q hq
  obtain ⟨y, hy, rfl⟩ := List.mem_map.1 hq
  exact h y hy
theorem amts_snoc (l : List Fw) (k : Nat) (h : k < l.length) : amts (l.take (k + 1)) = amts (l.take k) ++ [l[k].amt] := by
  unfold amts
  rw [take_snoc l k h, List.map_append]; rfl
theorem amts_sum (l : List Fw) (k : Nat) (h : k < l.length) : (amts (l.take (k + 1))).sum = (amts (l.take k)).sum + l[k].amt := by
  rw [amts_snoc l k h]; simp
theorem amts_take_in {l : List Fw} (h : ∀ y ∈ l, In64 y.amt) (k : Nat) (hl : l.length ≤ 900000) : In128 (amts (l.take k)).sum := by
  refine sum64_128 ?_ (amts_in fun y hy => h y (List.mem_of_mem_take hy))
  rw [amts_len, List.length_take]
  omega
set_option maxHeartbeats 4000000 in
set_option maxRecDepth 100000 in
theorem rptotal_any (A : Option Addr) (cap : Nat) (l : List Fw) (w : World) (hl : l.length ≤ 900000) (hq : ∀ y ∈ l, In64 y.amt) (hs : Sl w A (rc Fw.cells l)) :
    Calls Try.prog 21 #[.slice A l.length cap] w fun e w' => bigR w w' e (totF l) ∧ Below w.heap.size w w' := by
  have HQQ := Lib.hid hq
  have hB0 := since_alloc (Below.refl _ w) (.cells #[.bool false, .slice none 0 0] 48)
  have G0 := BX.new (w := w) (B := w.heap.size + 1 + 1) (by omega) 48
  have hs0 := hs.alloc (.cells #[.bool false, .slice none 0 0] 48)
  have hWe : (w.alloc (.cells #[.bool false, .slice none 0 0] 48)).heap.size = w.heap.size + 1 := World.size_alloc _ _
  clear hs hq
  go_enter Try.func21, Try.ntmps21
  go_upto_region 1 with fail
  generalize hWW : w.alloc (.cells #[.bool false, .slice none 0 0] 48) = W at *
  clear hWW
  have hWs := hB0.size
  rw [← hWe] at G0
  clear hWe
  go_wp2_with fail
  go_loopw [4] (fun i wr => ∃ (k : Nat) (s : Bool) (A' : Option Addr) (n' c' : Nat), k ≤ l.length ∧ i = .int .i64 k ∧ BX (W.heap.size + 1) wr W.heap.size s A' n' c' (amts (l.take k)).sum ∧ Below W.heap.size W wr) (fun i _ => l.length - (intOf i).toNat)
  case atStart => exact ⟨0, false, none, 0, 0, by omega, rfl, BX.new (by omega) _, since_alloc (Below.refl _ _) _⟩
  case round =>
    obtain ⟨k, s6, A6, n6, c6, hk, rfl, X6, hB⟩ := hrel
    by_cases hlt : k < l.length
    · obtain ⟨b, o, rfl, hbw, hg⟩ := hs0.fw hlt
      have hlk : (k : Int) < (l.length : Int) := by omega
      have hge : (0 : Int) ≤ (k : Int) := by omega
      have hN := amts_sum l k hlt
      have hvq := HQQ.out _ (List.getElem_mem hlt)
      have H128 := Lib.hid (amts_take_in HQQ.out k hl)
      obtain ⟨v, hv⟩ : ∃ v, l[k] = v := ⟨_, rfl⟩
      rw [hv] at hN hvq hg
      clear hv
      obtain ⟨va, vt, vq⟩ := v
      simp only at hN hvq
      have HG : Hid (∀ V, Below W.heap.size W V → Fw.at ⟨va, vt, vq⟩ V b (o + k * 3)) := Lib.hid fun V hV => Fw.at_keep (w := W) hg fun i => hV.cell (p := ⟨b, i, none⟩) hbw
      unfold Fw.at at HG
      simp only at HG
      obtain ⟨y, hy⟩ : ∃ y, (amts (l.take k)).sum = y := ⟨_, rfl⟩
      rw [hy] at hN X6 H128
      have HV64 := Lib.hid hvq
      have HQ := Lib.hid (fun W => bof_any vq W hvq)
      clear hy hg hvq
      obtain ⟨g0, g1, g2⟩ := HG.out _ hB
      have HE : Hid ((amts (l.take (k + 1))).sum = y + vq) := Lib.hid hN
      clear hN
      have X6 := X6.drew
      go_wp2_with fail
      refine wp_region_held_drew (S := (fun V => Below W.heap.size W V)) (by kernel_rfl) (by exact hB.drew) (fun hHeld => ?_)
      refine wpAnyH_take (i := 1) (oi := { dst := some 13, op := _, type := _, pos := _, after := _, guard := _ }) (v := ?_) rfl (by kernel_rfl) (by kernel_rfl) (by kernel_rfl) (fun _ _ _ h => h) (Or.inl ⟨by rfl, ?_⟩) hHeld ?_
      rotate_left
      · (intro w hSw; obtain ⟨g0, g1, g2⟩ := HG.out _ hSw; go_simp <;> with_reducible rfl)
      try simp only [Act.put, List.setIfInBounds_toArray, List.set_cons_zero, List.set_cons_succ]
      refine wpAnyH_take (i := 2) (oi := { dst := some 14, op := _, type := _, pos := _, after := _, guard := _ }) (v := ?_) rfl (by kernel_rfl) (by kernel_rfl) (by kernel_rfl) (fun _ _ _ h => h) (Or.inl ⟨by rfl, ?_⟩) hHeld ?_
      rotate_left
      · (intro w hSw; obtain ⟨g0, g1, g2⟩ := HG.out _ hSw; go_simp <;> with_reducible rfl)
      try simp only [Act.put, List.setIfInBounds_toArray, List.set_cons_zero, List.set_cons_succ]
      refine wpAnyH_take (i := 3) (oi := { dst := some 15, op := _, type := _, pos := _, after := _, guard := _ }) (v := ?_) rfl (by kernel_rfl) (by kernel_rfl) (by kernel_rfl) (fun _ _ _ h => h) (Or.inl ⟨by rfl, ?_⟩) hHeld ?_
      rotate_left
      · (intro w hSw; obtain ⟨g0, g1, g2⟩ := HG.out _ hSw; go_simp <;> with_reducible rfl)
      try simp only [Act.put, List.setIfInBounds_toArray, List.set_cons_zero, List.set_cons_succ]
      refine wpAnyH_take (i := 4) (oi := { dst := some 16, op := _, type := _, pos := _, after := _, guard := _ }) (v := ?_) rfl (by kernel_rfl) (by kernel_rfl) (by kernel_rfl) (fun _ _ _ h => h) (Or.inl ⟨by rfl, ?_⟩) hHeld ?_
      rotate_left
      · (intro w hSw; obtain ⟨g0, g1, g2⟩ := HG.out _ hSw; go_simp <;> with_reducible rfl)
      try simp only [Act.put, List.setIfInBounds_toArray, List.set_cons_zero, List.set_cons_succ]
      refine wpAnyH_take (i := 5) (oi := { dst := some 17, op := _, type := _, pos := _, after := _, guard := _ }) (v := ?_) rfl (by kernel_rfl) (by kernel_rfl) (by kernel_rfl) (fun _ _ _ h => h) (Or.inl ⟨by rfl, ?_⟩) hHeld ?_
      rotate_left
      · (intro w hSw; obtain ⟨g0, g1, g2⟩ := HG.out _ hSw; go_simp <;> with_reducible rfl)
      try simp only [Act.put, List.setIfInBounds_toArray, List.set_cons_zero, List.set_cons_succ]
      refine wpAnyH_ready (rs := [0, 6]) (by kernel_rfl) (by simp) ?_
      refine AllReadyH.cons (o := { dst := some 12, op := _, type := _, pos := _, after := _, guard := _ }) rfl (fun K hK => ?_) (AllReadyH.cons (o := { dst := some 18, op := _, type := _, pos := _, after := _, guard := _ }) rfl (fun K hK => ?_) AllReadyH.nil)
      · have hHd := hHeld
        obtain ⟨g0, g1, g2⟩ := HG.out _ hHd
        obtain ⟨b1, b2, b3, b4, b5⟩ := id X6.bb
        have hKeep := hHeld
        go_simp
        refine hK.out _ _ (by (try dsimp only); exact hKeep) (fun hHeld => ?_)
        clear hK K hKeep
        try simp only [Act.put, List.setIfInBounds_toArray, List.set_cons_zero, List.set_cons_succ]
        refine wpAnyH_ready (rs := [6]) (by kernel_rfl) (by simp) ?_
        refine AllReadyH.cons (o := { dst := some 18, op := _, type := _, pos := _, after := _, guard := _ }) rfl (fun K hK => ?_) AllReadyH.nil
        go_simp
        refine (HQ.out _).mono ?_
        rintro e u1 ⟨⟨s1, A1, m1, k1, rfl, hf1, Y1⟩, hk1⟩
        have hKeep := since_step hHeld hk1
        have L1 := Y1.l64 HV64.out
        have X6 := X6.below hk1
        go_wp2_with fail
        refine hK.out _ _ (by (try dsimp only); exact hKeep) (fun hHeld => ?_)
        clear hK K hKeep
        try simp only [Act.put, List.setIfInBounds_toArray, List.set_cons_zero, List.set_cons_succ]
        refine wpAnyH_ready (rs := [7]) (by kernel_rfl) (by simp) ?_
        refine AllReadyH.cons (o := { dst := some 19, op := _, type := _, pos := _, after := _, guard := _ }) rfl (fun K hK => ?_) AllReadyH.nil
        go_simp
        have L6 := X6.at_.l128 H128.out
        have hgu := X6.bb.1
        refine (badd' (by omega) (by omega) X6.at_ Y1).mono ?_
        rintro e u2 ⟨⟨s2, A2, m2, k2, rfl, hf2, Y2⟩, hk2⟩
        have hKeep := since_step hHeld hk2
        have X6 := X6.below hk2
        go_wp2_with fail
        refine hK.out _ _ (by (try dsimp only); exact hKeep) (fun hHeld => ?_)
        clear hK K hKeep
        try simp only [Act.put, List.setIfInBounds_toArray, List.set_cons_zero, List.set_cons_succ]
        refine wpAnyH_ready (rs := [8]) (by kernel_rfl) (by simp) ?_
        refine AllReadyH.cons (o := { dst := none, op := _, type := _, pos := _, after := _, guard := _ }) rfl (fun K hK => ?_) AllReadyH.nil
        have hHd := hHeld
        obtain ⟨g0, g1, g2⟩ := HG.out _ hHd
        have hF : Fr (W.heap.size + 1) A2 m2 := hf2.le hgu (Nat.le_refl _)
        have X6n := X6.put Y2 hF
        obtain ⟨b1, b2, b3, b4, b5⟩ := id X6.bb
        have hKeep := Below.setCell (Below.setCell hHeld (p := ⟨W.heap.size, 0, none⟩) (Nat.le_refl _) (.bool s2)) (p := ⟨W.heap.size, 1, none⟩) (Nat.le_refl _) (.slice A2 m2 k2)
        skip
        go_simp
        refine hK.out _ _ (by (try dsimp only); exact hKeep) (fun hHeld => ?_)
        clear hK K hKeep
        try simp only [Act.put, List.setIfInBounds_toArray, List.set_cons_zero, List.set_cons_succ]
        refine wpAnyH_done (by kernel_rfl) ?_ _
        generalize hFW : ((u2.setCell ⟨W.heap.size, 0, none⟩ (.bool s2)).setCell ⟨W.heap.size, 1, none⟩ (.slice A2 m2 k2)) = FW at *
        go_wp2_with fail
        go_roundw
        case rel => exact ⟨k + 1, s2, A2, m2, k2, by omega, by go_num, by rw [HE.out]; exact X6n, hHeld⟩
        case measure => simp [intOf]; omega
      · go_simp
        refine (HQ.out _).mono ?_
        rintro e u1 ⟨⟨s1, A1, m1, k1, rfl, hf1, Y1⟩, hk1⟩
        have hKeep := since_step hHeld hk1
        have L1 := Y1.l64 HV64.out
        have X6 := X6.below hk1
        go_wp2_with fail
        refine hK.out _ _ (by (try dsimp only); exact hKeep) (fun hHeld => ?_)
        clear hK K hKeep
        try simp only [Act.put, List.setIfInBounds_toArray, List.set_cons_zero, List.set_cons_succ]
        refine wpAnyH_ready (rs := [0]) (by kernel_rfl) (by simp) ?_
        refine AllReadyH.cons (o := { dst := some 12, op := _, type := _, pos := _, after := _, guard := _ }) rfl (fun K hK => ?_) AllReadyH.nil
        have hHd := hHeld
        obtain ⟨g0, g1, g2⟩ := HG.out _ hHd
        obtain ⟨b1, b2, b3, b4, b5⟩ := id X6.bb
        have hKeep := hHeld
        go_simp
        refine hK.out _ _ (by (try dsimp only); exact hKeep) (fun hHeld => ?_)
        clear hK K hKeep
        try simp only [Act.put, List.setIfInBounds_toArray, List.set_cons_zero, List.set_cons_succ]
        refine wpAnyH_ready (rs := [7]) (by kernel_rfl) (by simp) ?_
        refine AllReadyH.cons (o := { dst := some 19, op := _, type := _, pos := _, after := _, guard := _ }) rfl (fun K hK => ?_) AllReadyH.nil
        go_simp
        have L6 := X6.at_.l128 H128.out
        have hgu := X6.bb.1
        refine (badd' (by omega) (by omega) X6.at_ Y1).mono ?_
        rintro e u2 ⟨⟨s2, A2, m2, k2, rfl, hf2, Y2⟩, hk2⟩
        have hKeep := since_step hHeld hk2
        have X6 := X6.below hk2
        go_wp2_with fail
        refine hK.out _ _ (by (try dsimp only); exact hKeep) (fun hHeld => ?_)
        clear hK K hKeep
        try simp only [Act.put, List.setIfInBounds_toArray, List.set_cons_zero, List.set_cons_succ]
        refine wpAnyH_ready (rs := [8]) (by kernel_rfl) (by simp) ?_
        refine AllReadyH.cons (o := { dst := none, op := _, type := _, pos := _, after := _, guard := _ }) rfl (fun K hK => ?_) AllReadyH.nil
        have hHd := hHeld
        obtain ⟨g0, g1, g2⟩ := HG.out _ hHd
        have hF : Fr (W.heap.size + 1) A2 m2 := hf2.le hgu (Nat.le_refl _)
        have X6n := X6.put Y2 hF
        obtain ⟨b1, b2, b3, b4, b5⟩ := id X6.bb
        have hKeep := Below.setCell (Below.setCell hHeld (p := ⟨W.heap.size, 0, none⟩) (Nat.le_refl _) (.bool s2)) (p := ⟨W.heap.size, 1, none⟩) (Nat.le_refl _) (.slice A2 m2 k2)
        skip
        go_simp
        refine hK.out _ _ (by (try dsimp only); exact hKeep) (fun hHeld => ?_)
        clear hK K hKeep
        try simp only [Act.put, List.setIfInBounds_toArray, List.set_cons_zero, List.set_cons_succ]
        refine wpAnyH_done (by kernel_rfl) ?_ _
        generalize hFW : ((u2.setCell ⟨W.heap.size, 0, none⟩ (.bool s2)).setCell ⟨W.heap.size, 1, none⟩ (.slice A2 m2 k2)) = FW at *
        go_wp2_with fail
        go_roundw
        case rel => exact ⟨k + 1, s2, A2, m2, k2, by omega, by go_num, by rw [HE.out]; exact X6n, hHeld⟩
        case measure => simp [intOf]; omega
    · obtain rfl : k = l.length := by omega
      rw [List.take_length] at X6
      have hB1 := hB0.trans (hB.mono hWs)
      have G1 := G0.below hB
      have P := G1.put X6.at_ (X6.fr)
      have hcs := @cell_set
      have HFR := Lib.hid (X6.fr.le (B' := w.heap.size) (by omega) (Nat.le_refl _))
      obtain ⟨x1, x2, x3, x4, x5⟩ := id X6.bb
      obtain ⟨y1, y2, y3, y4, y5⟩ := id G1.bb
      clear hs0
      go_wp2_with fail
      refine bodyPost_ret (v := .agg #[.bool s6, .slice A6 n6 c6]) ?_ rfl ?_
      · obtain ⟨d0, d1, d2, _, _⟩ := P.bb
        generalize World.setCell _ _ _ = U at *
        simp [results, Try.results21, go_sem, d1, d2]
      · refine ⟨⟨s6, A6, n6, c6, rfl, HFR.out, P.at_⟩, ?_⟩
        repeat' (first | with_reducible exact hB1 | with_reducible refine Below.setCell ?_ ?_ _)
        all_goals simp
end Go.Proofs.Ytahdmomadbbhoaa
end
