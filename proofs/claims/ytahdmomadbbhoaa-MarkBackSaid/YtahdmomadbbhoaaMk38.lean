import Derived.Test.YtahdmomadbbhoaaMk34
import Derived.Test.YtahdmomadbbhoaaMk37
section
namespace Go.Proofs.Ytahdmomadbbhoaa
open Go.ChangeShapes Go.WideShapes Go.ChangeAt Go.RowKit
set_option linter.unusedVariables false
set_option linter.unusedSimpArgs false

theorem gain_turn (i : Ins) (q a b : Int) : q * i.mult * (b - a) = gainZ i q a b := by unfold gainZ; rw [Int.mul_assoc, Int.mul_comm i.mult, ← Int.mul_assoc]
theorem fV_fits {z : Int} (h : In64 z) : fV z = z ∧ fE z = 0 := by unfold fV fE; rw [if_pos h, if_pos h]; exact ⟨rfl, rfl⟩
theorem fV_far {z : Int} (h : ¬ In64 z) : fV z = 0 ∧ fE z = 7 := by unfold fV fE; rw [if_neg h, if_neg h]; exact ⟨rfl, rfl⟩
set_option maxHeartbeats 16000000 in
set_option maxRecDepth 100000 in
theorem rmgain_any (A : Option Addr) (cap : Nat) (l : List Iq) (is : List Ins) (LA : Option Addr) (LC : Nat) (M : List Lg) (w : World) (hl : l.length ≤ 900000) (ho : OkT is) (hMl : M.length ≤ 1000) (hM6 : ∀ y ∈ M, In64 y.qty) (hs : Sl w A (rc Iq.cells l)) (ht : InTab w l is) (hM : Sl w LA (rc Lg.cells M)) :
    Calls Try.prog 31 #[.slice A l.length cap, .slice LA M.length LC] w fun e w' => LRes24d w.heap.size w' e (gbR is M) ∧ Below w.heap.size w w' := by
  have hB0 := since_alloc (since_alloc (Below.refl _ w) (.cells #[.bool false, .slice none 0 0] 48)) (.cells #[.bool false, .slice none 0 0] 48)
  have T60 := (BB.new w false none 0 0 48).alloc (.cells #[.bool false, .slice none 0 0] 48)
  have X80 : BX (w.heap.size + 1 + 1) ((w.alloc (.cells #[.bool false, .slice none 0 0] 48)).alloc (.cells #[.bool false, .slice none 0 0] 48)) (w.heap.size + 1) false none 0 0 0 := by
    have h := BX.new (w := w.alloc (.cells #[.bool false, .slice none 0 0] 48)) (B := w.heap.size + 1 + 1) (by rw [World.size_alloc]; omega) 48
    rw [World.size_alloc] at h; exact h
  have HSL : Hid (∀ V, Below w.heap.size w V → Sl V A (rc Iq.cells l)) := Lib.hid fun V hV => hs.below hV
  have HSM : Hid (∀ V, Below w.heap.size w V → Sl V LA (rc Lg.cells M)) := Lib.hid fun V hV => hM.below hV
  have HFD := Lib.hid (fun id V h1 => rfindW_any A cap l is id w V hl h1 ht)
  have hW2 : ((w.alloc (.cells #[.bool false, .slice none 0 0] 48)).alloc (.cells #[.bool false, .slice none 0 0] 48)).heap.size = w.heap.size + 1 + 1 := by rw [World.size_alloc, World.size_alloc]
  have HMI := Lib.hid (fun k (hk : k < M.length) (hn : fndI is M[k].ins = none) => gbR_miss (is := is) hk hn)
  have HOK := Lib.hid (fun hf => gbR_ok (is := is) (M := M) hf)
  clear hs ht hM
  go_enter Try.func31, Try.ntmps31
  go_upto_region 2 with fail
  generalize hWW : (w.alloc (.cells #[.bool false, .slice none 0 0] 48)).alloc (.cells #[.bool false, .slice none 0 0] 48) = W at *
  clear hWW
  have HW2 := Lib.hid hW2
  clear hW2
  go_wp2_with fail
  go_loopw [7] (fun iv wr => ∃ (k : Nat) (s8 : Bool) (A8 : Option Addr) (n8 c8 : Nat), k ≤ M.length ∧ iv = .int .i64 k ∧ (∀ j, (hj : j < M.length) → j < k → (fndI is M[j].ins).isSome = true) ∧ BB wr w.heap.size false none 0 0 ∧ BX (w.heap.size + 1 + 1) wr (w.heap.size + 1) s8 A8 n8 c8 (gnZ is (M.take k)) ∧ Below w.heap.size w wr) (fun iv _ => M.length - (intOf iv).toNat)
  case atStart => exact ⟨0, false, none, 0, 0, by omega, rfl, fun j hj h => absurd h (by omega), T60, X80, hB0⟩
  case round =>
    obtain ⟨k, s8, A8, n8, c8, hk, rfl, hno, T6, X8, hB⟩ := hrel
    by_cases hlt : k < M.length
    · have hlk : (k : Int) < (M.length : Int) := by omega
      have hge : (0 : Int) ≤ (k : Int) := by omega
      obtain ⟨b, o, rfl, hbw, hg⟩ := (HSM.out _ (Below.refl _ w)).lg hlt
      have HST := Lib.hid (gnZ_step is M hlt)
      have hq6 := hM6 _ (List.getElem_mem hlt)
      have H128 : Hid (In128 (gnZ is (M.take k))) := Lib.hid (gnZ_128 ho (fun y hy => hM6 y (List.mem_of_mem_take hy)) (by rw [List.length_take]; omega))
      have HSK := Lib.hid (gn_128 (is := is) ho hq6)
      have HMK := Lib.hid (HMI.out k hlt)
      have HNX : Hid ((fndI is M[k].ins).isSome = true → ∀ j, (hj : j < M.length) → j < k + 1 → (fndI is M[j].ins).isSome = true) := Lib.hid fun h j hj hjk => by
        rcases Nat.lt_or_ge j k with h' | h'
        · exact hno j hj h'
        · obtain rfl : j = k := by omega
          exact h
      have HE : Hid (∀ i, fndI is M[k].ins = some i → gn is M[k] = gainZ i M[k].qty i.price i.nxt) := Lib.hid fun i h => by unfold gn; rw [h]
      clear hno
      generalize M[k] = v at *
      obtain ⟨vi, vq⟩ := v
      obtain ⟨g0, g1⟩ := hg
      simp only at g0 g1 hq6
      simp only at HMK HNX HE
      have HQ1 : Hid (∀ V, Below w.heap.size w V → V.cell? ⟨b, o + k * 2, none⟩ = some (.int .i64 vi)) := Lib.hid fun V hV => (hV.cell (p := ⟨b, o + k * 2, none⟩) hbw).trans g0
      have HQ2 : Hid (∀ V, Below w.heap.size w V → V.cell? ⟨b, o + k * 2 + 1, none⟩ = some (.int .i64 vq)) := Lib.hid fun V hV => (hV.cell (p := ⟨b, o + k * 2 + 1, none⟩) hbw).trans g1
      clear g0 g1
      have q1 := HQ1.out _ hB
      have HF := Lib.hid (HFD.out vi _ (HSL.out _ hB))
      have hcs := @cell_set
      cases hf : fndI is vi with
      | none =>
        have HR := Lib.hid (HMK.out hf)
        rw [hf] at HF
        unfold FInsW at HF
        simp only at HF
        clear hf HMK HNX HE
        go_wp2_with fail
        refine HF.out.mono ?_
        rintro e u1 ⟨rfl, hb⟩
        have hB3 := since_step hB hb
        have T6b := T6.below hb
        obtain ⟨t0, t1, t2, t3, t4⟩ := id T6b
        go_wp2_with fail
        refine bodyPost_ret (v := .tuple #[.agg #[.bool false, .slice none 0 0], .int .i64 11]) ?_ rfl ⟨?_, ?_⟩
        · simp [results, Try.results31, go_sem, t0, t1, t2, hcs]
        · rw [HR.out]; exact ⟨false, none, 0, 0, rfl, (fun b o h => by cases h), BigAt.zero _⟩
        · repeat' (first | with_reducible exact hB3 | with_reducible refine Below.setCell ?_ ?_ _ | with_reducible refine Below.alloc ?_ ?_ _)
          all_goals first | (simp; done) | (simp; omega)
      | some i =>
        have HNO := Lib.hid (HNX.out (by rw [hf]; rfl))
        have hse := HE.out i hf
        have hoi := ho i (mem_fndI hf)
        rw [hse] at HST HSK
        rw [hf] at HF
        unfold FInsW at HF
        simp only at HF
        clear hf HMK HNX HE hse hoi
        generalize hz0 : gnZ is (M.take k) = z0 at *
        have HZZ := Lib.hid HST.out
        have HGT := Lib.hid (gain_turn i vq i.price i.nxt)
        clear HST hz0
        go_wp2_with fail
        refine HF.out.mono ?_
        rintro e u1 ⟨⟨IA, IC, rfl, hia⟩, hb⟩
        have hB3 := since_step hB hb
        have HIA : Hid (∀ V, Below w.heap.size w V → InsAt V i IA IC) := Lib.hid fun V h => hia.below h
        have HSH := Lib.hid (fun V (h : InsAt V i IA IC) => rgain_any i IA IC vq i.price i.nxt V h hq6 hia.n64.2.2.1 hia.n64.2.2.2)
        unfold insV at HSH ⊢
        have hBY := since_alloc hB3 (.cells #[.int .i64 i.id, .int .i64 i.mult, .int .i64 i.price, .int .i64 i.nxt, .slice IA i.mv.length IC] 54)
        have K11 := Bk.new u1 #[.int .i64 i.id, .int .i64 i.mult, .int .i64 i.price, .int .i64 i.nxt, .slice IA i.mv.length IC] 54
        have T6y := (T6.below hb).alloc (.cells #[.int .i64 i.id, .int .i64 i.mult, .int .i64 i.price, .int .i64 i.nxt, .slice IA i.mv.length IC] 54)
        have hx8 := X8.bb.1
        have X8 := (X8.below hb).alloc (.cells #[.int .i64 i.id, .int .i64 i.mult, .int .i64 i.price, .int .i64 i.nxt, .slice IA i.mv.length IC] 54)
        have hne : u1.heap.size ≠ w.heap.size + 1 := by have := hx8; have h3 := hb.size; omega
        clear hb T6 hB3 hia q1 hx8
        go_upto_region 8 with fail
        generalize hYY : u1.alloc (.cells #[.int .i64 i.id, .int .i64 i.mult, .int .i64 i.price, .int .i64 i.nxt, .slice IA i.mv.length IC] 54) = Y at *
        clear hYY hcs
        have HGY : Hid (w.heap.size + 1 ≤ Y.heap.size) := Lib.hid (by have := X8.bb.1; omega)
        have HC : Hid (∀ V, KB Y (w.heap.size + 1) V → Bk V u1.heap.size #[.int .i64 i.id, .int .i64 i.mult, .int .i64 i.price, .int .i64 i.nxt, .slice IA i.mv.length IC]) := Lib.hid fun V h => h.bk K11 hne
        clear K11 hne
        have X8 := X8.drew
        go_wp2_with fail
        refine wp_region_held_drew (S := (fun V => KB Y (w.heap.size + 1) V ∧ Below w.heap.size w V)) (by kernel_rfl) (by exact ⟨KB.of _ (Below.refl _ _).drew, hBY.drew⟩) (fun hHeld => ?_)
        refine wpAnyH_take (i := 1) (oi := { dst := some 31, op := _, type := _, pos := _, after := _, guard := _ }) (v := ?_) rfl (by kernel_rfl) (by kernel_rfl) (by kernel_rfl) (fun _ _ _ h => h) (Or.inl ⟨by rfl, ?_⟩) hHeld ?_
        rotate_left
        · (intro w hSw; have ck := (HC.out _ (hSw).1); have r0 := ck.2 0; have r1 := ck.2 1; have r2 := ck.2 2; have r3 := ck.2 3; have r4 := ck.2 4; simp at r0 r1 r2 r3 r4; clear ck; have q2 := HQ2.out _ (hSw).2; go_simp <;> with_reducible rfl)
        try simp only [Act.put, List.setIfInBounds_toArray, List.set_cons_zero, List.set_cons_succ]
        refine wpAnyH_take (i := 2) (oi := { dst := some 32, op := _, type := _, pos := _, after := _, guard := _ }) (v := ?_) rfl (by kernel_rfl) (by kernel_rfl) (by kernel_rfl) (fun _ _ _ h => h) (Or.inl ⟨by rfl, ?_⟩) hHeld ?_
        rotate_left
        · (intro w hSw; clear hSw; go_simp <;> with_reducible rfl)
        try simp only [Act.put, List.setIfInBounds_toArray, List.set_cons_zero, List.set_cons_succ]
        refine wpAnyH_take (i := 3) (oi := { dst := some 33, op := _, type := _, pos := _, after := _, guard := _ }) (v := ?_) rfl (by kernel_rfl) (by kernel_rfl) (by kernel_rfl) (fun _ _ _ h => h) (Or.inl ⟨by rfl, ?_⟩) hHeld ?_
        rotate_left
        · (intro w hSw; clear hSw; go_simp <;> with_reducible rfl)
        try simp only [Act.put, List.setIfInBounds_toArray, List.set_cons_zero, List.set_cons_succ]
        refine wpAnyH_take (i := 4) (oi := { dst := some 34, op := _, type := _, pos := _, after := _, guard := _ }) (v := ?_) rfl (by kernel_rfl) (by kernel_rfl) (by kernel_rfl) (fun _ _ _ h => h) (Or.inl ⟨by rfl, ?_⟩) hHeld ?_
        rotate_left
        · (intro w hSw; clear hSw; go_simp <;> with_reducible rfl)
        try simp only [Act.put, List.setIfInBounds_toArray, List.set_cons_zero, List.set_cons_succ]
        refine wpAnyH_take (i := 5) (oi := { dst := some 35, op := _, type := _, pos := _, after := _, guard := _ }) (v := ?_) rfl (by kernel_rfl) (by kernel_rfl) (by kernel_rfl) (fun _ _ _ h => h) (Or.inl ⟨by rfl, ?_⟩) hHeld ?_
        rotate_left
        · (intro w hSw; clear hSw; go_simp <;> with_reducible rfl)
        try simp only [Act.put, List.setIfInBounds_toArray, List.set_cons_zero, List.set_cons_succ]
        refine wpAnyH_take (i := 6) (oi := { dst := some 36, op := _, type := _, pos := _, after := _, guard := _ }) (v := ?_) rfl (by kernel_rfl) (by kernel_rfl) (by kernel_rfl) (fun _ _ _ h => h) (Or.inl ⟨by rfl, ?_⟩) hHeld ?_
        rotate_left
        · (intro w hSw; have ck := (HC.out _ (hSw).1); have r0 := ck.2 0; have r1 := ck.2 1; have r2 := ck.2 2; have r3 := ck.2 3; have r4 := ck.2 4; simp at r0 r1 r2 r3 r4; clear ck; have q2 := HQ2.out _ (hSw).2; go_simp <;> with_reducible rfl)
        try simp only [Act.put, List.setIfInBounds_toArray, List.set_cons_zero, List.set_cons_succ]
        refine wpAnyH_take (i := 7) (oi := { dst := some 37, op := _, type := _, pos := _, after := _, guard := _ }) (v := ?_) rfl (by kernel_rfl) (by kernel_rfl) (by kernel_rfl) (fun _ _ _ h => h) (Or.inl ⟨by rfl, ?_⟩) hHeld ?_
        rotate_left
        · (intro w hSw; clear hSw; go_simp <;> with_reducible rfl)
        try simp only [Act.put, List.setIfInBounds_toArray, List.set_cons_zero, List.set_cons_succ]
        refine wpAnyH_take (i := 8) (oi := { dst := some 38, op := _, type := _, pos := _, after := _, guard := _ }) (v := ?_) rfl (by kernel_rfl) (by kernel_rfl) (by kernel_rfl) (fun _ _ _ h => h) (Or.inl ⟨by rfl, ?_⟩) hHeld ?_
        rotate_left
        · (intro w hSw; have ck := (HC.out _ (hSw).1); have r0 := ck.2 0; have r1 := ck.2 1; have r2 := ck.2 2; have r3 := ck.2 3; have r4 := ck.2 4; simp at r0 r1 r2 r3 r4; clear ck; have q2 := HQ2.out _ (hSw).2; go_simp <;> with_reducible rfl)
        try simp only [Act.put, List.setIfInBounds_toArray, List.set_cons_zero, List.set_cons_succ]
        refine wpAnyH_take (i := 9) (oi := { dst := some 39, op := _, type := _, pos := _, after := _, guard := _ }) (v := ?_) rfl (by kernel_rfl) (by kernel_rfl) (by kernel_rfl) (fun _ _ _ h => h) (Or.inl ⟨by rfl, ?_⟩) hHeld ?_
        rotate_left
        · (intro w hSw; clear hSw; go_simp <;> with_reducible rfl)
        try simp only [Act.put, List.setIfInBounds_toArray, List.set_cons_zero, List.set_cons_succ]
        refine wpAnyH_take (i := 10) (oi := { dst := some 40, op := _, type := _, pos := _, after := _, guard := _ }) (v := ?_) rfl (by kernel_rfl) (by kernel_rfl) (by kernel_rfl) (fun _ _ _ h => h) (Or.inl ⟨by rfl, ?_⟩) hHeld ?_
        rotate_left
        · (intro w hSw; have ck := (HC.out _ (hSw).1); have r0 := ck.2 0; have r1 := ck.2 1; have r2 := ck.2 2; have r3 := ck.2 3; have r4 := ck.2 4; simp at r0 r1 r2 r3 r4; clear ck; have q2 := HQ2.out _ (hSw).2; go_simp <;> with_reducible rfl)
        try simp only [Act.put, List.setIfInBounds_toArray, List.set_cons_zero, List.set_cons_succ]
        refine wpAnyH_ready (rs := [0, 11]) (by kernel_rfl) (by simp) ?_
        refine AllReadyH.cons (o := { dst := some 30, op := _, type := _, pos := _, after := _, guard := _ }) rfl (fun K hK => ?_) (AllReadyH.cons (o := { dst := some 41, op := _, type := _, pos := _, after := _, guard := _ }) rfl (fun K hK => ?_) AllReadyH.nil)
        · have hHd := hHeld
          have ck := (HC.out _ (hHd).1); have r0 := ck.2 0; have r1 := ck.2 1; have r2 := ck.2 2; have r3 := ck.2 3; have r4 := ck.2 4; simp at r0 r1 r2 r3 r4; clear ck; have q2 := HQ2.out _ (hHd).2
          obtain ⟨b1, b2, b3, b4, b5⟩ := id X8.bb
          have hKeep := hHeld
          go_simp
          refine hK.out _ _ (by (try dsimp only); exact hKeep) (fun hHeld => ?_)
          clear hK K hKeep
          try simp only [Act.put, List.setIfInBounds_toArray, List.set_cons_zero, List.set_cons_succ]
          refine wpAnyH_ready (rs := [11]) (by kernel_rfl) (by simp) ?_
          refine AllReadyH.cons (o := { dst := some 41, op := _, type := _, pos := _, after := _, guard := _ }) rfl (fun K hK => ?_) AllReadyH.nil
          go_simp
          refine (HSH.out _ (HIA.out _ hHeld.2)).mono ?_
          rintro e x1 ⟨⟨s1, A1, m1, k1, rfl, hf1, Y1⟩, hk1⟩
          have hKeep := And.intro (hHeld.1.step hk1) (since_step hHeld.2 hk1)
          rw [HGT.out] at Y1
          have L1 := Y1.l128 HSK.out
          have X8 := X8.below hk1
          go_wp2_with fail
          refine hK.out _ _ (by (try dsimp only); exact hKeep) (fun hHeld => ?_)
          clear hK K hKeep
          try simp only [Act.put, List.setIfInBounds_toArray, List.set_cons_zero, List.set_cons_succ]
          refine wpAnyH_ready (rs := [12]) (by kernel_rfl) (by simp) ?_
          refine AllReadyH.cons (o := { dst := some 42, op := _, type := _, pos := _, after := _, guard := _ }) rfl (fun K hK => ?_) AllReadyH.nil
          go_simp
          have L8 := X8.at_.l128 H128.out
          have hgu := X8.bb.1
          refine (badd' (by omega) (by omega) X8.at_ Y1).mono ?_
          rintro e x2 ⟨⟨s2, A2, m2, k2, rfl, hf2, Y2⟩, hk2⟩
          have hKeep := And.intro (hHeld.1.step hk2) (since_step hHeld.2 hk2)
          have X8 := X8.below hk2
          go_wp2_with fail
          refine hK.out _ _ (by (try dsimp only); exact hKeep) (fun hHeld => ?_)
          clear hK K hKeep
          try simp only [Act.put, List.setIfInBounds_toArray, List.set_cons_zero, List.set_cons_succ]
          refine wpAnyH_ready (rs := [13]) (by kernel_rfl) (by simp) ?_
          refine AllReadyH.cons (o := { dst := none, op := _, type := _, pos := _, after := _, guard := _ }) rfl (fun K hK => ?_) AllReadyH.nil
          have hHd := hHeld
          have ck := (HC.out _ (hHd).1); have r0 := ck.2 0; have r1 := ck.2 1; have r2 := ck.2 2; have r3 := ck.2 3; have r4 := ck.2 4; simp at r0 r1 r2 r3 r4; clear ck; have q2 := HQ2.out _ (hHd).2
          have hF : Fr (w.heap.size + 1 + 1) A2 m2 := hf2.le hgu (Nat.le_refl _)
          have X8n := X8.put Y2 hF
          obtain ⟨b1, b2, b3, b4, b5⟩ := id X8.bb
          have hKeep := And.intro ((hHeld.1.set (p := ⟨w.heap.size + 1, 0, none⟩) rfl (.bool s2)).set (p := ⟨w.heap.size + 1, 1, none⟩) rfl (.slice A2 m2 k2)) (Below.setCell (Below.setCell hHeld.2 (p := ⟨w.heap.size + 1, 0, none⟩) (Nat.le_succ _) (.bool s2)) (p := ⟨w.heap.size + 1, 1, none⟩) (Nat.le_succ _) (.slice A2 m2 k2))
          skip
          go_simp
          refine hK.out _ _ (by (try dsimp only); exact hKeep) (fun hHeld => ?_)
          clear hK K hKeep
          try simp only [Act.put, List.setIfInBounds_toArray, List.set_cons_zero, List.set_cons_succ]
          refine wpAnyH_done (by kernel_rfl) ?_ _
          generalize hFW : ((x2.setCell ⟨w.heap.size + 1, 0, none⟩ (.bool s2)).setCell ⟨w.heap.size + 1, 1, none⟩ (.slice A2 m2 k2)) = FW at *
          have T6n := T6y.farB (hHeld.1.low HGY.out) (Nat.lt_succ_self _)
          have hBn := hHeld.2
          go_wp2_with fail
          go_roundw
          case rel => exact ⟨k + 1, s2, A2, m2, k2, by omega, by go_num, HNO.out, T6n, by rw [HZZ.out]; exact X8n, hBn⟩
          case measure => simp [intOf]; omega
        · go_simp
          refine (HSH.out _ (HIA.out _ hHeld.2)).mono ?_
          rintro e x1 ⟨⟨s1, A1, m1, k1, rfl, hf1, Y1⟩, hk1⟩
          have hKeep := And.intro (hHeld.1.step hk1) (since_step hHeld.2 hk1)
          rw [HGT.out] at Y1
          have L1 := Y1.l128 HSK.out
          have X8 := X8.below hk1
          go_wp2_with fail
          refine hK.out _ _ (by (try dsimp only); exact hKeep) (fun hHeld => ?_)
          clear hK K hKeep
          try simp only [Act.put, List.setIfInBounds_toArray, List.set_cons_zero, List.set_cons_succ]
          refine wpAnyH_ready (rs := [0]) (by kernel_rfl) (by simp) ?_
          refine AllReadyH.cons (o := { dst := some 30, op := _, type := _, pos := _, after := _, guard := _ }) rfl (fun K hK => ?_) AllReadyH.nil
          have hHd := hHeld
          have ck := (HC.out _ (hHd).1); have r0 := ck.2 0; have r1 := ck.2 1; have r2 := ck.2 2; have r3 := ck.2 3; have r4 := ck.2 4; simp at r0 r1 r2 r3 r4; clear ck; have q2 := HQ2.out _ (hHd).2
          obtain ⟨b1, b2, b3, b4, b5⟩ := id X8.bb
          have hKeep := hHeld
          go_simp
          refine hK.out _ _ (by (try dsimp only); exact hKeep) (fun hHeld => ?_)
          clear hK K hKeep
          try simp only [Act.put, List.setIfInBounds_toArray, List.set_cons_zero, List.set_cons_succ]
          refine wpAnyH_ready (rs := [12]) (by kernel_rfl) (by simp) ?_
          refine AllReadyH.cons (o := { dst := some 42, op := _, type := _, pos := _, after := _, guard := _ }) rfl (fun K hK => ?_) AllReadyH.nil
          go_simp
          have L8 := X8.at_.l128 H128.out
          have hgu := X8.bb.1
          refine (badd' (by omega) (by omega) X8.at_ Y1).mono ?_
          rintro e x2 ⟨⟨s2, A2, m2, k2, rfl, hf2, Y2⟩, hk2⟩
          have hKeep := And.intro (hHeld.1.step hk2) (since_step hHeld.2 hk2)
          have X8 := X8.below hk2
          go_wp2_with fail
          refine hK.out _ _ (by (try dsimp only); exact hKeep) (fun hHeld => ?_)
          clear hK K hKeep
          try simp only [Act.put, List.setIfInBounds_toArray, List.set_cons_zero, List.set_cons_succ]
          refine wpAnyH_ready (rs := [13]) (by kernel_rfl) (by simp) ?_
          refine AllReadyH.cons (o := { dst := none, op := _, type := _, pos := _, after := _, guard := _ }) rfl (fun K hK => ?_) AllReadyH.nil
          have hHd := hHeld
          have ck := (HC.out _ (hHd).1); have r0 := ck.2 0; have r1 := ck.2 1; have r2 := ck.2 2; have r3 := ck.2 3; have r4 := ck.2 4; simp at r0 r1 r2 r3 r4; clear ck; have q2 := HQ2.out _ (hHd).2
          have hF : Fr (w.heap.size + 1 + 1) A2 m2 := hf2.le hgu (Nat.le_refl _)
          have X8n := X8.put Y2 hF
          obtain ⟨b1, b2, b3, b4, b5⟩ := id X8.bb
          have hKeep := And.intro ((hHeld.1.set (p := ⟨w.heap.size + 1, 0, none⟩) rfl (.bool s2)).set (p := ⟨w.heap.size + 1, 1, none⟩) rfl (.slice A2 m2 k2)) (Below.setCell (Below.setCell hHeld.2 (p := ⟨w.heap.size + 1, 0, none⟩) (Nat.le_succ _) (.bool s2)) (p := ⟨w.heap.size + 1, 1, none⟩) (Nat.le_succ _) (.slice A2 m2 k2))
          skip
          go_simp
          refine hK.out _ _ (by (try dsimp only); exact hKeep) (fun hHeld => ?_)
          clear hK K hKeep
          try simp only [Act.put, List.setIfInBounds_toArray, List.set_cons_zero, List.set_cons_succ]
          refine wpAnyH_done (by kernel_rfl) ?_ _
          generalize hFW : ((x2.setCell ⟨w.heap.size + 1, 0, none⟩ (.bool s2)).setCell ⟨w.heap.size + 1, 1, none⟩ (.slice A2 m2 k2)) = FW at *
          have T6n := T6y.farB (hHeld.1.low HGY.out) (Nat.lt_succ_self _)
          have hBn := hHeld.2
          go_wp2_with fail
          go_roundw
          case rel => exact ⟨k + 1, s2, A2, m2, k2, by omega, by go_num, HNO.out, T6n, by rw [HZZ.out]; exact X8n, hBn⟩
          case measure => simp [intOf]; omega
    · obtain rfl : k = M.length := by omega
      rw [List.take_length] at X8
      have HR := Lib.hid (HOK.out fun j hj => hno j hj hj)
      have h128 := gnZ_128 ho hM6 hMl
      clear hno
      generalize hz : gnZ is M = z at *
      clear hz
      have hcs := @cell_set
      have L8 := X8.at_.l128 h128
      have HFT := Lib.hid (fun s A n c V (h : n ≤ 100000) hx => bfits_any z s A n c V h hx)
      obtain ⟨t0, t1, t2, t3, t4⟩ := id X8.bb
      have hfr := X8.fr
      by_cases h6 : In64 z
      · have hin : decide (inN z 63) = true := by rw [decide_eq_true_eq]; exact (in64_iff _).2 h6
        have HFV := Lib.hid (fV_fits h6)
        rw [hin] at HFT
        clear h6 hin h128
        go_wp2_with fail
        refine (HFT.out _ _ _ _ _ (by omega) X8.at_).mono ?_
        rintro e u1 ⟨rfl, hb⟩
        have hB3 := since_step hB hb
        have X9 := X8.below hb
        obtain ⟨t0, t1, t2, t3, t4⟩ := id X9.bb
        obtain ⟨r0, r1, r2, r3, r4⟩ := id (T6.below hb)
        go_wp2_with fail
        refine bodyPost_ret (v := .tuple #[.agg #[.bool s8, .slice A8 n8 c8], .int .i64 0]) ?_ rfl ⟨?_, ?_⟩
        · simp [results, Try.results31, go_sem, r0, r1, r2, hcs]
        · rw [HR.out, HFV.out.1, HFV.out.2]
          exact ⟨s8, A8, n8, c8, rfl, hfr.le (by omega) (Nat.le_refl _), BigAt.far (BigAt.far X9.at_ (fun b o hA hn => by have := hfr b o hA hn; show b ≠ w.heap.size; omega) _) (fun b o hA hn => by have := hfr b o hA hn; show b ≠ w.heap.size; omega) _⟩
        · repeat' (first | with_reducible exact hB3 | with_reducible refine Below.setCell ?_ ?_ _ | with_reducible refine Below.alloc ?_ ?_ _)
          all_goals first | (simp; done) | (simp; omega)
      · have hin : decide (inN z 63) = false := by rw [decide_eq_false_iff_not]; exact fun h => h6 ((in64_iff _).1 h)
        have HFV := Lib.hid (fV_far h6)
        rw [hin] at HFT
        clear h6 hin h128
        go_wp2_with fail
        refine (HFT.out _ _ _ _ _ (by omega) X8.at_).mono ?_
        rintro e u1 ⟨rfl, hb⟩
        have hB3 := since_step hB hb
        obtain ⟨r0, r1, r2, r3, r4⟩ := id (T6.below hb)
        go_wp2_with fail
        refine bodyPost_ret (v := .tuple #[.agg #[.bool false, .slice none 0 0], .int .i64 7]) ?_ rfl ⟨?_, ?_⟩
        · simp [results, Try.results31, go_sem, r0, r1, r2, hcs]
        · rw [HR.out, HFV.out.1, HFV.out.2]; exact ⟨false, none, 0, 0, rfl, (fun b o h => by cases h), BigAt.zero _⟩
        · repeat' (first | with_reducible exact hB3 | with_reducible refine Below.setCell ?_ ?_ _ | with_reducible refine Below.alloc ?_ ?_ _)
          all_goals first | (simp; done) | (simp; omega)
end Go.Proofs.Ytahdmomadbbhoaa
end
