import Derived.Test.YtahdmomadbbhoaaMk17
import Derived.Test.YtahdmomadbbhoaaMk21
import Derived.Test.YtahdmomadbbhoaaMk38
import Derived.Test.YtahdmomadbbhoaaMk40
section
namespace Go.Proofs.Ytahdmomadbbhoaa
open Go.ChangeShapes Go.WideShapes Go.ChangeAt Go.RowKit
set_option linter.unusedVariables false
set_option linter.unusedSimpArgs false

theorem BigAt.nil_iff {w : World} {s : Bool} {A : Option Addr} {n c : Nat} {z : Int} (h : BigAt w s A n c z) : n = 0 ↔ z = 0 := by
  have := h.len (k := 0)
  rw [Nat.pow_zero] at this
  omega
theorem gbR_err {is : List Ins} {M : List Lg} (h : (gbR is M).2 ≠ 0) : (gbR is M).1 = 0 := by
  unfold gbR at *
  split at h
  · rename_i hm; rw [if_pos hm]
  · rename_i hm
    rw [if_neg hm]
    simp only at h ⊢
    unfold fE at h
    unfold fV
    split at h
    · exact absurd rfl h
    · rename_i h6; rw [if_neg h6]
set_option maxHeartbeats 16000000 in
set_option maxRecDepth 100000 in
theorem rmflows_any (A : Option Addr) (cap : Nat) (l : List Iq) (is : List Ins) (PA : Option Addr) (pc : Nat) (lp : List Po) (cs : List Pc) (w : World) (hl : l.length ≤ 900000) (ho : OkT is) (hlp : lp.length ≤ 900000) (hpl : ∀ g ∈ cs, g.L.length ≤ 1000) (h6 : ∀ g ∈ cs, ∀ y ∈ g.L, In64 y.qty) (hs : Sl w A (rc Iq.cells l)) (ht : InTab w l is) (hp : Sl w PA (rc Po.cells lp)) (hpt : PoTab w lp cs) :
    Calls Try.prog 13 #[.slice A l.length cap, .slice PA lp.length pc] w fun e w' => PRes w' e (flowsR is cs) ∧ Below w.heap.size w w' := by
  have HIS := Lib.hid (rhis_any PA pc lp cs w hlp (fun g hg => Nat.le_trans (hpl g hg) (by omega)) hp hpt)
  have HSL : Hid (∀ V, Below w.heap.size w V → Sl V A (rc Iq.cells l)) := Lib.hid fun V hV => hs.below hV
  have HTB : Hid (∀ V, Below w.heap.size w V → InTab V l is) := Lib.hid fun V hV => ht.below hV
  have HSP : Hid (∀ V, Below w.heap.size w V → Sl V PA (rc Po.cells lp)) := Lib.hid fun V hV => hp.below hV
  have HPT : Hid (∀ V, Below w.heap.size w V → PoTab V lp cs) := Lib.hid fun V hV => hpt.below hV
  have HGN := Lib.hid (fun LA LC M V (hM : M.length ≤ 1000) (hM6 : ∀ y ∈ M, In64 y.qty) h1 h2 h3 => rmgain_any A cap l is LA LC M V hl ho hM hM6 h1 h2 h3)
  have HLN := Lib.hid hpt.1
  clear hs ht hp hpt
  cases hi : isH cs with
  | false =>
    have HR := Lib.hid (flowsR_form (is := is) hi)
    rw [hi] at HIS
    clear hi
    go_enter Try.func13, Try.ntmps13
    go_wp2_with fail
    refine HIS.out.mono ?_
    rintro e w1 ⟨rfl, hb⟩
    go_wp2_with fail
    go_ret2
    exact ⟨by rw [HR.out]; exact PRes.nil _ _, hb⟩
  | true =>
    rw [hi] at HIS
    have HER := Lib.hid (fun k n (hk : k < cs.length) hno hn he => flowsR_err (is := is) (k := k) (n := n) hi hk hno hn he)
    have HOK := Lib.hid (fun h => flowsR_ok (is := is) hi h)
    clear hi
    go_enter Try.func13, Try.ntmps13
    go_wp2_with fail
    refine HIS.out.mono ?_
    rintro e w1 ⟨rfl, hb⟩
    go_wp2_with fail
    go_loopw [6, 7] (fun out iv wr => ∃ (k : Nat) (O : List Fw) (A' : Option Addr) (c' : Nat), k ≤ cs.length ∧ iv = .int .i64 k ∧ out = .slice A' O.length c' ∧ O.length ≤ k ∧ O = outF is (cs.take k) ∧ (∀ j, (hj : j < cs.length) → j < k → (gbR is cs[j].L).2 = 0) ∧ wr.ownsRow w.heap.size 76 3 (.slice A' O.length c') O.length (rc Fw.cells O) ∧ Below w.heap.size w wr) (fun _ iv _ => cs.length - (intOf iv).toNat)
    case atStart => exact ⟨0, [], none, 0, by omega, rfl, rfl, by simp, rfl, fun j hj h => absurd h (by omega), own_nil _ _ _, hb⟩
    case round =>
      obtain ⟨k, O, A', c', hk, rfl, rfl, hOk, hO, hno, hown, hB⟩ := hrel
      have hln := HLN.out
      have HO := Lib.hid hO
      clear hO
      by_cases hlt : k < cs.length
      · have hltp : k < lp.length := by omega
        have hlk : (k : Int) < (lp.length : Int) := by omega
        have hge : (0 : Int) ≤ (k : Int) := by omega
        obtain ⟨b, o, rfl, hbw, hg⟩ := (HSP.out _ (Below.refl _ w)).po hltp
        have hpo := (HPT.out _ hB).2 k hltp hlt
        have hM6 := h6 cs[k] (List.getElem_mem hlt)
        have hMl := hpl cs[k] (List.getElem_mem hlt)
        have HST := Lib.hid (outF_step is cs hlt)
        have HER := Lib.hid (fun n hn he => HER.out k n hlt hno hn he)
        have HNX : Hid ((gbR is cs[k].L).2 = 0 → ∀ j, (hj : j < cs.length) → j < k + 1 → (gbR is cs[j].L).2 = 0) := Lib.hid fun h j hj hjk => by
          rcases Nat.lt_or_ge j k with h' | h'
          · exact hno j hj h'
          · obtain rfl : j = k := by omega
            exact h
        clear hno
        have HPC0 : Hid (∀ V, Below w.heap.size w V → lp[k].at V b (o + k * 3)) := Lib.hid fun V hV => Po.at_keep hg fun i => hV.cell (p := ⟨b, i, none⟩) hbw
        clear hg
        generalize cs[k] = c at *
        generalize lp[k] = v at *
        obtain ⟨pa, pl, pL⟩ := c
        obtain ⟨va, vc, vt, vL, vC⟩ := v
        obtain ⟨e1, e2, e3, e4⟩ := hpo
        simp only at e1 e2 e3 e4 hM6 hMl HST HER HNX
        subst e1; subst e2; subst e3
        unfold Po.at at HPC0
        simp only at HPC0
        have HPC : Hid (∀ V, Below w.heap.size w V → V.cell? ⟨b, o + k * 3, none⟩ = some (.int .i64 va) ∧ V.cell? ⟨b, o + k * 3 + 1, none⟩ = some (.int .i64 vc)) := Lib.hid fun V hV => ⟨(HPC0.out V hV).1, (HPC0.out V hV).2.1⟩
        have g2 := (HPC0.out _ hB).2.2
        clear HPC0
        have HGN := Lib.hid (HGN.out vt vC pL _ hMl hM6 (HSL.out _ hB) (HTB.out _ hB) e4)
        clear e4 hM6 hMl hln
        obtain ⟨x, ex, hgb⟩ : ∃ x ex, gbR is pL = (x, ex) := ⟨_, _, rfl⟩
        have hx6 : In64 x := by have := gbR_in is pL; rw [hgb] at this; exact this
        rw [hgb] at HGN HST HER HNX
        unfold LRes24d at HGN
        simp only at HGN HST HER HNX
        clear hgb
        by_cases hx : ex = 0
        · subst hx
          have HNO := Lib.hid (HNX.out rfl)
          clear HNX HER
          by_cases hz : x = 0
          · subst hz
            rw [if_pos rfl, List.append_nil] at HST
            go_wp2_with fail
            refine HGN.out.mono ?_
            rintro e u1 ⟨⟨s8, A8, n8, c8, rfl, _, D8⟩, hb1⟩
            have hB3 := since_step hB hb1
            have hown3 := own_below hown hb1
            obtain rfl : n8 = 0 := D8.nil_iff.2 rfl
            have hB4 := since_alloc hB3 (.cells #[.bool s8, .slice A8 0 c8] 48)
            have hown4 := hown3.alloc (.cells #[.bool s8, .slice A8 0 c8] 48)
            clear hb1 hown hown3 D8
            go_wp2_with fail
            go_roundw
            case rel => exact ⟨k + 1, O, A', c', by omega, by go_num, rfl, by omega, by rw [HO.out]; exact HST.out.symm, HNO.out, hown4, hB4⟩
            case measure => simp [intOf]; omega
          · rw [if_neg hz] at HST
            go_wp2_with fail
            refine HGN.out.mono ?_
            rintro e u1 ⟨⟨s8, A8, n8, c8, rfl, _, D8⟩, hb1⟩
            have hB3 := since_step hB hb1
            have hown3 := own_below hown hb1
            have hn8 : (0 : Int) < (n8 : Int) := by have := mt D8.nil_iff.1 hz; omega
            have hBY := since_alloc hB3 (.cells #[.bool s8, .slice A8 n8 c8] 48)
            have hownY := hown3.alloc (.cells #[.bool s8, .slice A8 n8 c8] 48)
            have X8 := BB.new u1 s8 A8 n8 c8 48
            have D8 := D8.alloc (.cells #[.bool s8, .slice A8 n8 c8] 48)
            have HINT := Lib.hid (fun s A n c V (h : BigAt V s A n c x) => rint_any x hx6 s A n c V h)
            clear hb1 hown hown3 hB3
            go_upto_region 11 with fail
            generalize hYY : u1.alloc (.cells #[.bool s8, .slice A8 n8 c8] 48) = Y at *
            generalize hGG : u1.heap.size = g8 at *
            clear hYY hGG
            have X8 := X8.below (Below.refl _ Y).drew
            have D8 := D8.drew
            have hownY := own_below hownY (Below.refl _ Y).drew
            clear hn8 g2
            go_wp2_with fail
            refine wp_region_held_drew (S := (fun V => Below w.heap.size w V)) (by kernel_rfl) (by exact hBY.drew) (fun hHeld => ?_)
            refine wpAnyH_take (i := 0) (oi := { dst := some 36, op := _, type := _, pos := _, after := _, guard := _ }) (v := ?_) rfl (by kernel_rfl) (by kernel_rfl) (by kernel_rfl) (fun _ _ _ h => h) (Or.inl ⟨by rfl, ?_⟩) hHeld ?_
            rotate_left
            · (intro w hSw; clear hSw; go_simp <;> with_reducible rfl)
            try simp only [Act.put, List.setIfInBounds_toArray, List.set_cons_zero, List.set_cons_succ]
            refine wpAnyH_take (i := 1) (oi := { dst := some 37, op := _, type := _, pos := _, after := _, guard := _ }) (v := ?_) rfl (by kernel_rfl) (by kernel_rfl) (by kernel_rfl) (fun _ _ _ h => h) (Or.inl ⟨by rfl, ?_⟩) hHeld ?_
            rotate_left
            · (intro w hSw; clear hSw; go_simp <;> with_reducible rfl)
            try simp only [Act.put, List.setIfInBounds_toArray, List.set_cons_zero, List.set_cons_succ]
            refine wpAnyH_take (i := 2) (oi := { dst := some 38, op := _, type := _, pos := _, after := _, guard := _ }) (v := ?_) rfl (by kernel_rfl) (by kernel_rfl) (by kernel_rfl) (fun _ _ _ h => h) (Or.inl ⟨by rfl, ?_⟩) hHeld ?_
            rotate_left
            · (intro w hSw; clear hSw; go_simp <;> with_reducible rfl)
            try simp only [Act.put, List.setIfInBounds_toArray, List.set_cons_zero, List.set_cons_succ]
            refine wpAnyH_take (i := 3) (oi := { dst := some 39, op := _, type := _, pos := _, after := _, guard := _ }) (v := ?_) rfl (by kernel_rfl) (by kernel_rfl) (by kernel_rfl) (fun _ _ _ h => h) (Or.inl ⟨by rfl, ?_⟩) hHeld ?_
            rotate_left
            · (intro w hSw; clear hSw; go_simp <;> with_reducible rfl)
            try simp only [Act.put, List.setIfInBounds_toArray, List.set_cons_zero, List.set_cons_succ]
            refine wpAnyH_take (i := 4) (oi := { dst := some 40, op := _, type := _, pos := _, after := _, guard := _ }) (v := ?_) rfl (by kernel_rfl) (by kernel_rfl) (by kernel_rfl) (fun _ _ _ h => h) (Or.inl ⟨by rfl, ?_⟩) hHeld ?_
            rotate_left
            · (intro w hSw; clear hSw; go_simp <;> with_reducible rfl)
            try simp only [Act.put, List.setIfInBounds_toArray, List.set_cons_zero, List.set_cons_succ]
            refine wpAnyH_take (i := 5) (oi := { dst := some 41, op := _, type := _, pos := _, after := _, guard := _ }) (v := ?_) rfl (by kernel_rfl) (by kernel_rfl) (by kernel_rfl) (fun _ _ _ h => h) (Or.inl ⟨by rfl, ?_⟩) hHeld ?_
            rotate_left
            · (intro w hSw; obtain ⟨p0, p1⟩ := HPC.out _ (hSw); go_simp <;> with_reducible rfl)
            try simp only [Act.put, List.setIfInBounds_toArray, List.set_cons_zero, List.set_cons_succ]
            refine wpAnyH_ready (rs := [6]) (by kernel_rfl) (by simp) ?_
            refine AllReadyH.cons (o := { dst := some 42, op := _, type := _, pos := _, after := _, guard := _ }) rfl (fun K hK => ?_) AllReadyH.nil
            have hHd := hHeld
            obtain ⟨p0, p1⟩ := HPC.out _ (hHd)
            obtain ⟨b1, b2, b3, b4, b5⟩ := id X8
            have hKeep := hHeld
            go_simp
            refine hK.out _ _ (by (try dsimp only); exact hKeep) (fun hHeld => ?_)
            clear hK K hKeep
            try simp only [Act.put, List.setIfInBounds_toArray, List.set_cons_zero, List.set_cons_succ]
            refine wpAnyH_ready (rs := [7]) (by kernel_rfl) (by simp) ?_
            refine AllReadyH.cons (o := { dst := some 43, op := _, type := _, pos := _, after := _, guard := _ }) rfl (fun K hK => ?_) AllReadyH.nil
            go_simp
            refine (HINT.out s8 A8 n8 c8 _ D8).mono ?_
            rintro e x1 ⟨rfl, hk1⟩
            have hKeep := since_step hHeld hk1
            have ho1 := own_below hownY hk1
            clear X8 D8 hownY b1 b2 b3 b4 b5
            go_wp2_with fail
            refine hK.out _ _ (by (try dsimp only); exact hKeep) (fun hHeld => ?_)
            clear hK K hKeep
            try simp only [Act.put, List.setIfInBounds_toArray, List.set_cons_zero, List.set_cons_succ]
            refine wpAnyH_take (i := 8) (oi := { dst := some 44, op := _, type := _, pos := _, after := _, guard := _ }) (v := ?_) rfl (by kernel_rfl) (by kernel_rfl) (by kernel_rfl) (fun _ _ _ h => h) (Or.inl ⟨by rfl, ?_⟩) hHeld ?_
            rotate_left
            · (intro w hSw; clear hSw; go_simp <;> with_reducible rfl)
            try simp only [Act.put, List.setIfInBounds_toArray, List.set_cons_zero, List.set_cons_succ]
            refine wpAnyH_ready (rs := [9]) (by kernel_rfl) (by simp) ?_
            refine AllReadyH.cons (o := { dst := some 45, op := _, type := _, pos := _, after := _, guard := _ }) rfl (fun K hK => ?_) AllReadyH.nil
            have hHd := hHeld
            obtain ⟨p0, p1⟩ := HPC.out _ (hHd)
            have hKeep := since_alloc hHeld (.cells (⟨va, vc, x⟩ : Fw).cells.toArray 76)
            have HU := Fw.Bx.new x1 ⟨va, vc, x⟩
            have hown1 := World.ownsRow.alloc (w := x1) ho1 (.cells (⟨va, vc, x⟩ : Fw).cells.toArray 76)
            skip
            go_simp
            refine hK.out _ _ (by (try dsimp only); exact hKeep) (fun hHeld => ?_)
            clear hK K hKeep
            try simp only [Act.put, List.setIfInBounds_toArray, List.set_cons_zero, List.set_cons_succ]
            refine wpAnyH_ready (rs := [10]) (by kernel_rfl) (by simp) ?_
            refine AllReadyH.cons (o := { dst := some 46, op := _, type := _, pos := _, after := _, guard := _ }) rfl (fun K hK => ?_) AllReadyH.nil
            refine step_app rfl (.tmp 36) (.tmp 45) rfl EFw (n := O.length) (m := 1) (c := c') (d := 1) (A := A') (B := some ⟨x1.heap.size, 0, none⟩) (by simp [Act.eval, Act.put]; done) (by simp [Act.eval, Act.put]; done) hown1 (by rw [Fw.len]) HU.sl (Fw.one _) (by unfold maxLen; omega) (by omega) hHeld.size ?_
            intro A2 c2 u2 hown2 hg2 hb2
            have hKeep := hHeld.trans hb2
            refine hK.out _ _ (by (try dsimp only); exact hKeep) (fun hHeld => ?_)
            clear hK K hKeep
            try simp only [Act.put, List.setIfInBounds_toArray, List.set_cons_zero, List.set_cons_succ]
            refine wpAnyH_take (i := 11) (oi := { dst := some 6, op := _, type := _, pos := _, after := _, guard := _ }) (v := ?_) rfl (by kernel_rfl) (by kernel_rfl) (by kernel_rfl) (fun _ _ _ h => h) (Or.inl ⟨by rfl, ?_⟩) hHeld ?_
            rotate_left
            · (intro w hSw; clear hSw; go_simp <;> with_reducible rfl)
            try simp only [Act.put, List.setIfInBounds_toArray, List.set_cons_zero, List.set_cons_succ]
            refine wpAnyH_done (by kernel_rfl) ?_ _
            have hBn := hHeld
            go_wp2_with fail
            go_roundw
            case rel =>
              refine ⟨k + 1, O ++ [⟨va, vc, x⟩], A2, c2, by omega, by go_num, by simp, by simp; omega, by rw [HO.out]; exact HST.out.symm, HNO.out, ?_, hBn⟩
              rw [rc_append]; simpa [rc] using hown2
            case measure => simp [intOf]; omega
        · have HR := Lib.hid (HER.out ex rfl hx)
          have hq : (ex != 0) = true := by simpa using hx
          clear HER HNX HST hx
          go_wp2_with fail
          refine HGN.out.mono ?_
          rintro e u1 ⟨⟨s8, A8, n8, c8, rfl, _, D8⟩, hb1⟩
          have hB3 := since_step hB hb1
          clear hb1 hown D8
          go_wp2_with fail
          go_ret2
          exact ⟨by rw [HR.out]; exact PRes.nil _ _, since_alloc hB3 _⟩
      · obtain rfl : k = cs.length := by omega
        have hnl : ¬ ((cs.length : Int) < (lp.length : Int)) := by omega
        have hO := HO.out
        rw [List.take_length] at hO
        have HO := Lib.hid hO
        clear hO
        have HR := Lib.hid (HOK.out fun j hj => hno j hj hj)
        clear hno
        go_wp2_with fail
        go_ret2
        refine ⟨?_, hB⟩
        rw [HR.out, ← HO.out]
        exact ⟨A', c', rfl, Sl.of_own hown⟩
set_option maxHeartbeats 8000000 in
set_option maxRecDepth 100000 in
theorem rmvector_any (A : Option Addr) (cap : Nat) (l : List Iq) (is : List Ins) (LA : Option Addr) (LC : Nat) (M : List Lg) (w : World) (hl : l.length ≤ 900000) (ho : OkT is) (hMl : M.length ≤ 1000) (hM6 : ∀ y ∈ M, In64 y.qty) (hs : Sl w A (rc Iq.cells l)) (ht : InTab w l is) (hM : Sl w LA (rc Lg.cells M)) :
    Calls Try.prog 11 #[.slice A l.length cap, .slice LA M.length LC] w fun e w' => e = .returned (.tuple #[.int .i64 (gnR is M).1, .int .i64 (gnR is M).2]) ∧ Below w.heap.size w w' := by
  have HIS := Lib.hid (rvis_any LA LC M w (by omega) hM)
  have HGN := Lib.hid (fun V (hb : Below w.heap.size w V) => rmgain_any A cap l is LA LC M V hl ho hMl hM6 (hs.below hb) (ht.below hb) (hM.below hb))
  clear hs ht hM
  cases hi : isG M with
  | false =>
    have HR := Lib.hid (gnR_form (is := is) hi)
    rw [hi] at HIS
    clear hi
    go_enter Try.func11, Try.ntmps11
    go_wp2_with fail
    refine HIS.out.mono ?_
    rintro e w1 ⟨rfl, hb⟩
    go_wp2_with fail
    go_ret2
    exact ⟨by rw [HR.out]; rfl, hb⟩
  | true =>
    rw [hi] at HIS
    have hR := gnR_go (is := is) hi
    have hbe := @gbR_err is M
    have hx6 := gbR_in is M
    obtain ⟨x, ex, hgb⟩ : ∃ x ex, gbR is M = (x, ex) := ⟨_, _, rfl⟩
    rw [hgb] at HGN hR hbe hx6
    unfold LRes24d at HGN
    simp only at HGN hbe hx6
    have HR := Lib.hid hR
    have HINT := Lib.hid (fun s A n c V (h : BigAt V s A n c x) => rint_any x hx6 s A n c V h)
    clear hi hgb hR hx6
    go_enter Try.func11, Try.ntmps11
    go_wp2_with fail
    refine HIS.out.mono ?_
    rintro e w1 ⟨rfl, hb⟩
    by_cases hx : ex = 0
    · subst hx
      clear hbe
      go_wp2_with fail
      refine (HGN.out _ hb).mono ?_
      rintro e u1 ⟨⟨s8, A8, n8, c8, rfl, _, D8⟩, hb1⟩
      have hB3 := since_step hb hb1
      have hB4 := since_alloc hB3 (.cells #[.bool s8, .slice A8 n8 c8] 48)
      have D9 := D8.alloc (.cells #[.bool s8, .slice A8 n8 c8] 48)
      clear hb hb1 D8
      go_wp2_with fail
      refine (HINT.out _ _ _ _ _ D9).mono ?_
      rintro e u2 ⟨rfl, hb2⟩
      go_wp2_with fail
      go_ret2
      exact ⟨by rw [HR.out]; rfl, since_step hB4 hb2⟩
    · have hq : (ex != 0) = true := by simpa using hx
      have HX := Lib.hid (hbe hx)
      clear hbe hx
      go_wp2_with fail
      refine (HGN.out _ hb).mono ?_
      rintro e u1 ⟨⟨s8, A8, n8, c8, rfl, _, D8⟩, hb1⟩
      have hB3 := since_step hb hb1
      clear hb hb1 D8
      go_wp2_with fail
      go_ret2
      exact ⟨by rw [HR.out, HX.out]; rfl, since_alloc hB3 _⟩
set_option maxHeartbeats 8000000 in
set_option maxRecDepth 100000 in
theorem rsettle_any (A : Option Addr) (cap : Nat) (l : List Iq) (is : List Ins) (PA : Option Addr) (pc : Nat) (lp : List Po) (cs : List Pc) (FA : Option Addr) (fc : Nat) (p : List Fw) (w : World) (hl : l.length ≤ 900000) (ho : OkT is) (hlp : lp.length ≤ 900000) (hpl : ∀ g ∈ cs, g.L.length ≤ 1000) (h6 : ∀ g ∈ cs, ∀ y ∈ g.L, In64 y.qty) (hs : Sl w A (rc Iq.cells l)) (ht : InTab w l is) (hp : Sl w PA (rc Po.cells lp)) (hpt : PoTab w lp cs) (hcs : cs.length ≤ 10000) (hkey : ∀ c ∈ cs, In64 c.ac ∧ In64 c.cl) (hpn : p.length ≤ 10000) (hpi : ∀ x ∈ p, Fw.in_ x) (hpf : Sl w FA (rc Fw.cells p)) :
    Calls Try.prog 15 #[.slice A l.length cap, .slice PA lp.length pc, .slice FA p.length fc] w fun e w' => PRes w' e (settR is cs p) ∧ Below w.heap.size w w' := by
  have HIS := Lib.hid (rpis_any FA fc p w (by omega) hpf)
  have HFL := Lib.hid (fun V (hb : Below w.heap.size w V) => rmflows_any A cap l is PA pc lp cs V hl ho hlp hpl h6 (hs.below hb) (ht.below hb) (hp.below hb) (hpt.below hb))
  have HSF : Hid (∀ V, Below w.heap.size w V → Sl V FA (rc Fw.cells p)) := Lib.hid fun V hV => hpf.below hV
  have hol := flowsR_len is cs
  have hoi := flowsR_in (is := is) hkey
  clear hs ht hp hpt hpf hl ho hlp hpl h6 hkey
  obtain ⟨n, O, hO⟩ : ∃ n O, flowsR is cs = (n, O) := ⟨_, _, rfl⟩
  rw [hO] at hol hoi HFL
  simp only at hol hoi
  cases hi : isF p with
  | false =>
    have HR := Lib.hid (settR_form (is := is) (cs := cs) hi)
    rw [hi] at HIS
    clear hi hO hol hoi
    go_enter Try.func15, Try.ntmps15
    go_wp2_with fail
    refine HIS.out.mono ?_
    rintro e w1 ⟨rfl, hb⟩
    go_wp2_with fail
    go_ret2
    exact ⟨by rw [HR.out]; exact PRes.nil _ _, hb⟩
  | true =>
    rw [hi] at HIS
    by_cases hn : n = 0
    · subst hn
      have HR := Lib.hid (settR_ok hi hO)
      have HPY := Lib.hid (fun A2 c2 V h1 h2 => rppay_any FA A2 fc c2 p O V (by omega) (by omega) (fun x hx => (List.mem_append.1 hx).elim (hpi x) (hoi x)) h1 h2)
      clear hi hO hol hoi hpi hpn hcs
      go_enter Try.func15, Try.ntmps15
      go_wp2_with fail
      refine HIS.out.mono ?_
      rintro e w1 ⟨rfl, hb⟩
      go_wp2_with fail
      refine (HFL.out _ hb).mono ?_
      rintro e w2 ⟨⟨A2, c2, rfl, hs2⟩, hb2⟩
      have hB2 := since_step hb hb2
      simp only at hs2 ⊢
      clear hb hb2
      go_wp2_with fail
      refine (HPY.out A2 c2 _ (HSF.out _ hB2) hs2).mono ?_
      rintro e w3 ⟨⟨A3, c3, rfl, hs3⟩, hb3⟩
      have hB3 := since_step hB2 hb3
      clear hB2 hb3 hs2
      go_wp2_with fail
      go_ret2
      exact ⟨by rw [HR.out]; exact ⟨A3, c3, rfl, hs3⟩, hB3⟩
    · have HR := Lib.hid (settR_err hi hO hn)
      have hq : (n != 0) = true := by simpa using hn
      clear hi hO hol hoi hpi hpn hcs hn
      go_enter Try.func15, Try.ntmps15
      go_wp2_with fail
      refine HIS.out.mono ?_
      rintro e w1 ⟨rfl, hb⟩
      go_wp2_with fail
      refine (HFL.out _ hb).mono ?_
      rintro e w2 ⟨⟨A2, c2, rfl, hs2⟩, hb2⟩
      have hB2 := since_step hb hb2
      simp only at hs2 ⊢
      clear hb hb2
      go_wp2_with fail
      go_ret2
      exact ⟨by rw [HR.out]; exact PRes.nil _ _, hB2⟩
end Go.Proofs.Ytahdmomadbbhoaa
end
