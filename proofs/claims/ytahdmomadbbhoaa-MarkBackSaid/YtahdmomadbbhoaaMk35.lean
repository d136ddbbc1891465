import Derived.Test.YtahdmomadbbhoaaMk34
section
namespace Go.Proofs.Ytahdmomadbbhoaa
open Go.ChangeShapes Go.WideShapes Go.ChangeAt Go.RowKit
set_option linter.unusedVariables false
set_option linter.unusedSimpArgs false

theorem gain_parts {i : Ins} {q : Int} (ho : okB i = true) (hq : In64 q) : In64 (i.nxt - i.price) ∧ In64 i.mult ∧ In128 (q * (i.nxt - i.price)) ∧ In128 (q * (i.nxt - i.price) * i.mult) := by
  obtain ⟨p1, p2⟩ := ok_pr ho
  have hm := pr_move p1 p2
  have := move_in hq ⟨hm.1, hm.2.1⟩ (ok_mult ho)
  exact ⟨this.1, this.2.1, this.2.2.1, this.2.2.2⟩
set_option maxHeartbeats 16000000 in
set_option maxRecDepth 100000 in
theorem mgain_any (A : Option Addr) (cap : Nat) (l : List Iq) (is : List Ins) (LA : Option Addr) (LC : Nat) (M : List Lg) (w : World) (hl : l.length ≤ 900000) (hcl : ∀ i ∈ is, i.mv.length ≤ 900000) (ho : OkT is) (hMl : M.length ≤ 1000) (hM6 : ∀ y ∈ M, In64 y.qty) (hs : Sl w A (rc Iq.cells l)) (ht : InTab w l is) (hM : Sl w LA (rc Lg.cells M)) :
    Calls Try.prog 10 #[.slice A l.length cap, .slice LA M.length LC] w fun e w' => e = .returned (.tuple #[.int .i64 (gnR is M).1, .int .i64 (gnR is M).2]) ∧ Below w.heap.size w w' := by
  obtain ⟨z1, z2, z3⟩ := zero_parts
  have HIS := Lib.hid (vis_any LA LC M w (by omega) hM)
  have HSL : Hid (∀ V, Below w.heap.size w V → Sl V A (rc Iq.cells l)) := Lib.hid fun V hV => hs.below hV
  have HTB : Hid (∀ V, Below w.heap.size w V → InTab V l is) := Lib.hid fun V hV => ht.below hV
  have HSM : Hid (∀ V, Below w.heap.size w V → Sl V LA (rc Lg.cells M)) := Lib.hid fun V hV => hM.below hV
  have HFD := Lib.hid (fun id V h1 h2 => ifind_any A cap l is id V hl hcl h1 h2)
  have HZ0 : Hid (hiN 0 = 0 ∧ loN 0 = 0) := Lib.hid ⟨z1, z2⟩
  clear hs ht hM z1 z2 z3
  cases hi : isG M with
  | false =>
    have HR := Lib.hid (gnR_form (is := is) hi)
    rw [hi] at HIS
    clear hi
    go_enter Try.func10, Try.ntmps10
    go_wp2_with fail
    refine HIS.out.mono ?_
    rintro e w1 ⟨rfl, hb⟩
    go_wp2_with fail
    go_ret2
    exact ⟨by rw [HR.out]; rfl, hb⟩
  | true =>
    rw [hi] at HIS
    have HMI := Lib.hid (fun k (hk : k < M.length) (hn : fndI is M[k].ins = none) => (gnR_go (is := is) hi).trans (gbR_miss hk hn))
    have HOK := Lib.hid (fun hf => (gnR_go (is := is) hi).trans (gbR_ok (is := is) (M := M) hf))
    clear hi
    go_enter Try.func10, Try.ntmps10
    go_wp2_with fail
    refine HIS.out.mono ?_
    rintro e w1 ⟨rfl, hb⟩
    have T81 := T2.new w1 0 0 62
    have hB2 := since_alloc hb (.cells #[.int .i64 0, .int .u64 0] 62)
    have hg8 : w.heap.size ≤ w1.heap.size := hb.size
    clear hb
    go_upto_region 4 with fail
    generalize hWW : w1.alloc (.cells #[.int .i64 0, .int .u64 0] 62) = W at *
    generalize hGG : w1.heap.size = g8 at *
    clear hWW hGG
    have HG8 : Hid (w.heap.size ≤ g8) := Lib.hid hg8
    clear hg8
    go_wp2_with fail
    go_loopw [18] (fun iv wr => ∃ k : Nat, k ≤ M.length ∧ iv = .int .i64 k ∧ (∀ j, (hj : j < M.length) → j < k → (fndI is M[j].ins).isSome = true) ∧ T2 wr g8 (hiN (gnZ is (M.take k))) (loN (gnZ is (M.take k))) ∧ Below w.heap.size w wr) (fun iv _ => M.length - (intOf iv).toNat)
    case atStart => exact ⟨0, by omega, rfl, fun j hj h => absurd h (by omega), (by rw [List.take_zero, show gnZ is [] = 0 from rfl, HZ0.out.1, HZ0.out.2]; exact T81), hB2⟩
    case round =>
      obtain ⟨k, hk, rfl, hno, T8, hB⟩ := hrel
      by_cases hlt : k < M.length
      · have hlk : (k : Int) < (M.length : Int) := by omega
        have hge : (0 : Int) ≤ (k : Int) := by omega
        obtain ⟨b, o, rfl, hbw, hg⟩ := (HSM.out _ hB).lg hlt
        have HST := Lib.hid (gnZ_step is M hlt)
        have hq6 := hM6 _ (List.getElem_mem hlt)
        have H128 : Hid (In128 (gnZ is (M.take k))) := Lib.hid (gnZ_128 ho (fun y hy => hM6 y (List.mem_of_mem_take hy)) (by rw [List.length_take]; omega))
        have H129 : Hid (In128 (gnZ is (M.take (k + 1)))) := Lib.hid (gnZ_128 ho (fun y hy => hM6 y (List.mem_of_mem_take hy)) (by rw [List.length_take]; omega))
        have HMK := Lib.hid (HMI.out k hlt)
        have HNX : Hid ((fndI is M[k].ins).isSome = true → ∀ j, (hj : j < M.length) → j < k + 1 → (fndI is M[j].ins).isSome = true) := Lib.hid fun h j hj hjk => by
          rcases Nat.lt_or_ge j k with h' | h'
          · exact hno j hj h'
          · obtain rfl : j = k := by omega
            exact h
        have HE : Hid (∀ i, fndI is M[k].ins = some i → gn is M[k] = gainZ i M[k].qty i.price i.nxt) := Lib.hid fun i h => by unfold gn; rw [h]
        clear hno
        generalize M[k] = v at *
        obtain ⟨vi, vq⟩ := v
        obtain ⟨g0, g1⟩ := hg
        simp only at g0 g1 hq6
        simp only at HMK HNX HE
        have hBA := since_alloc hB (.cells #[.int .i64 vi, .int .i64 vq] 64)
        have HF := Lib.hid (HFD.out vi _ (HSL.out _ hBA) (HTB.out _ hBA))
        have HK10 := Bk.new wr #[.int .i64 vi, .int .i64 vq] 64
        have T8a := T8.alloc (.cells #[.int .i64 vi, .int .i64 vq] 64)
        have hcs := @cell_set
        clear T8
        cases hf : fndI is vi with
        | none =>
          have HR := Lib.hid (HMK.out hf)
          rw [hf] at HF
          unfold FIns at HF
          simp only at HF
          clear hf HMK HNX HE
          go_wp2_with fail
          refine HF.out.mono ?_
          rintro e u1 ⟨rfl, hb⟩
          have hB3 := since_step hBA hb
          go_wp2_with fail
          go_ret2
          refine ⟨by rw [HR.out]; rfl, ?_⟩
          have hsz3 := hB3.size
          repeat' (first | with_reducible exact hB3 | with_reducible refine Below.setCell ?_ ?_ _ | with_reducible refine Below.alloc ?_ ?_ _)
          all_goals first | omega | (simp; done) | (simp; omega)
        | some i =>
          have HNO := Lib.hid (HNX.out (by rw [hf]; rfl))
          have hoi := ho i (mem_fndI hf)
          obtain ⟨c1, c2, c3, c4⟩ := gain_parts hoi hq6
          have hse := HE.out i hf
          rw [hse] at HST
          rw [hf] at HF
          unfold FIns at HF
          simp only at HF
          clear hf HMK HNX HE hse hoi
          unfold gainZ at HST
          generalize hz0 : gnZ is (M.take k) = z0 at *
          have HWR0 : Hid (IntKind.i64.wrap (i.nxt - i.price) = i.nxt - i.price) := Lib.hid (IntWalk.i64_in _ c1)
          obtain ⟨mv, hmv⟩ : ∃ mv, i.nxt - i.price = mv := ⟨_, rfl⟩
          have HWR : Hid (IntKind.i64.wrap (i.nxt - i.price) = mv) := Lib.hid (HWR0.out.trans hmv)
          clear HWR0
          rw [hmv] at c1 c3 c4 HST
          clear hmv
          have HMU := Lib.hid (fun V => wmul_any vq mv hq6 c1 V)
          have hTI := fun V => wtimes_any (vq * mv) i.mult c3 c2 V
          rw [wideE_yes c4] at hTI
          generalize hy0 : vq * mv * i.mult = y0 at *
          generalize hp0 : vq * mv = p0 at *
          have HTI := Lib.hid hTI
          clear hTI hy0 hp0
          have HAD := Lib.hid (fun A' V (h : Sl V A' (wcells [z0, y0])) => wadd_any A' 2 [z0, y0] V (by simp) (fun x hx => by
            simp only [List.mem_cons, List.not_mem_nil, or_false] at hx
            rcases hx with rfl | rfl
            · exact H128.out
            · exact c4) h)
          have HZZ := Lib.hid HST.out
          obtain ⟨zz, hzz⟩ : ∃ zz, z0 + y0 = zz := ⟨_, rfl⟩
          rw [show [z0, y0].sum = z0 + y0 by simp, hzz] at HAD
          rw [hzz] at HZZ
          rw [wideE_yes (by rw [← HZZ.out]; exact H129.out)] at HAD
          clear hzz HST hz0 c1 c2 c3 c4
          go_wp2_with fail
          refine HF.out.mono ?_
          rintro e u1 ⟨⟨IA, IC, rfl, hia⟩, hb⟩
          have hB3 := since_step hBA hb
          unfold insV
          have hBY := since_alloc hB3 (.cells #[.int .i64 i.id, .int .i64 i.mult, .int .i64 i.price, .int .i64 i.nxt, .slice IA i.mv.length IC] 54)
          have K11 := Bk.new u1 #[.int .i64 i.id, .int .i64 i.mult, .int .i64 i.price, .int .i64 i.nxt, .slice IA i.mv.length IC] 54
          have K10 := (HK10.below hb).alloc (.cells #[.int .i64 i.id, .int .i64 i.mult, .int .i64 i.price, .int .i64 i.nxt, .slice IA i.mv.length IC] 54)
          have T8b := (T8a.below hb).alloc (.cells #[.int .i64 i.id, .int .i64 i.mult, .int .i64 i.price, .int .i64 i.nxt, .slice IA i.mv.length IC] 54)
          clear hb T8a HK10 hB3 g0 g1 hia
          go_upto_region 10 with fail
          generalize hYY : u1.alloc (.cells #[.int .i64 i.id, .int .i64 i.mult, .int .i64 i.price, .int .i64 i.nxt, .slice IA i.mv.length IC] 54) = Y at *
          clear hYY hcs
          have HT : Hid (∀ V, Below Y.heap.size Y V → T2 V g8 (hiN z0) (loN z0)) := Lib.hid fun V h => T8b.below h
          have HC : Hid (∀ V, Below Y.heap.size Y V → V.cell? ⟨wr.heap.size, 1, none⟩ = some (.int .i64 vq) ∧ V.cell? ⟨u1.heap.size, 0, none⟩ = some (.int .i64 i.id) ∧ V.cell? ⟨u1.heap.size, 1, none⟩ = some (.int .i64 i.mult) ∧ V.cell? ⟨u1.heap.size, 2, none⟩ = some (.int .i64 i.price) ∧ V.cell? ⟨u1.heap.size, 3, none⟩ = some (.int .i64 i.nxt) ∧ V.cell? ⟨u1.heap.size, 4, none⟩ = some (.slice IA i.mv.length IC)) := Lib.hid fun V h => ⟨(K10.below h).2 1, (K11.below h).2 0, (K11.below h).2 1, (K11.below h).2 2, (K11.below h).2 3, (K11.below h).2 4⟩
          clear T8b K10 K11
          go_wp2_with fail
          refine wp_region_held_drew (S := (fun V => Below Y.heap.size Y V)) (by kernel_rfl) (by exact (Below.refl _ _).drew) (fun hHeld => ?_)
          refine wpAnyH_take (i := 0) (oi := { dst := some 32, op := _, type := _, pos := _, after := _, guard := _ }) (v := ?_) rfl (by kernel_rfl) (by kernel_rfl) (by kernel_rfl) (fun _ _ _ h => h) (Or.inl ⟨by rfl, ?_⟩) hHeld ?_
          rotate_left
          · (intro w hSw; clear hSw; go_simp <;> with_reducible rfl)
          try simp only [Act.put, List.setIfInBounds_toArray, List.set_cons_zero, List.set_cons_succ]
          refine wpAnyH_take (i := 1) (oi := { dst := some 33, op := _, type := _, pos := _, after := _, guard := _ }) (v := ?_) rfl (by kernel_rfl) (by kernel_rfl) (by kernel_rfl) (fun _ _ _ h => h) (Or.inl ⟨by rfl, ?_⟩) hHeld ?_
          rotate_left
          · (intro w hSw; obtain ⟨q2, r0, r1, r2, r3, r4⟩ := HC.out _ hSw; go_simp <;> with_reducible rfl)
          try simp only [Act.put, List.setIfInBounds_toArray, List.set_cons_zero, List.set_cons_succ]
          refine wpAnyH_take (i := 2) (oi := { dst := some 34, op := _, type := _, pos := _, after := _, guard := _ }) (v := ?_) rfl (by kernel_rfl) (by kernel_rfl) (by kernel_rfl) (fun _ _ _ h => h) (Or.inl ⟨by rfl, ?_⟩) hHeld ?_
          rotate_left
          · (intro w hSw; clear hSw; go_simp <;> with_reducible rfl)
          try simp only [Act.put, List.setIfInBounds_toArray, List.set_cons_zero, List.set_cons_succ]
          refine wpAnyH_take (i := 3) (oi := { dst := some 35, op := _, type := _, pos := _, after := _, guard := _ }) (v := ?_) rfl (by kernel_rfl) (by kernel_rfl) (by kernel_rfl) (fun _ _ _ h => h) (Or.inl ⟨by rfl, ?_⟩) hHeld ?_
          rotate_left
          · (intro w hSw; obtain ⟨q2, r0, r1, r2, r3, r4⟩ := HC.out _ hSw; go_simp <;> with_reducible rfl)
          try simp only [Act.put, List.setIfInBounds_toArray, List.set_cons_zero, List.set_cons_succ]
          refine wpAnyH_take (i := 4) (oi := { dst := some 36, op := _, type := _, pos := _, after := _, guard := _ }) (v := ?_) rfl (by kernel_rfl) (by kernel_rfl) (by kernel_rfl) (fun _ _ _ h => h) (Or.inl ⟨by rfl, ?_⟩) hHeld ?_
          rotate_left
          · (intro w hSw; clear hSw; go_simp <;> with_reducible rfl)
          try simp only [Act.put, List.setIfInBounds_toArray, List.set_cons_zero, List.set_cons_succ]
          refine wpAnyH_take (i := 5) (oi := { dst := some 37, op := _, type := _, pos := _, after := _, guard := _ }) (v := ?_) rfl (by kernel_rfl) (by kernel_rfl) (by kernel_rfl) (fun _ _ _ h => h) (Or.inl ⟨by rfl, ?_⟩) hHeld ?_
          rotate_left
          · (intro w hSw; obtain ⟨q2, r0, r1, r2, r3, r4⟩ := HC.out _ hSw; go_simp <;> with_reducible rfl)
          try simp only [Act.put, List.setIfInBounds_toArray, List.set_cons_zero, List.set_cons_succ]
          refine wpAnyH_take (i := 6) (oi := { dst := some 38, op := _, type := _, pos := _, after := _, guard := _ }) (v := ?_) rfl (by kernel_rfl) (by kernel_rfl) (by kernel_rfl) (fun _ _ _ h => h) (Or.inl ⟨by rfl, ?_⟩) hHeld ?_
          rotate_left
          · (intro w hSw; clear hSw; go_simp <;> with_reducible rfl)
          try simp only [Act.put, List.setIfInBounds_toArray, List.set_cons_zero, List.set_cons_succ]
          refine wpAnyH_take (i := 8) (oi := { dst := some 40, op := _, type := _, pos := _, after := _, guard := _ }) (v := ?_) rfl (by kernel_rfl) (by kernel_rfl) (by kernel_rfl) (fun _ _ _ h => h) (Or.inl ⟨by rfl, ?_⟩) hHeld ?_
          rotate_left
          · (intro w hSw; clear hSw; go_simp <;> with_reducible rfl)
          try simp only [Act.put, List.setIfInBounds_toArray, List.set_cons_zero, List.set_cons_succ]
          refine wpAnyH_take (i := 9) (oi := { dst := some 41, op := _, type := _, pos := _, after := _, guard := _ }) (v := ?_) rfl (by kernel_rfl) (by kernel_rfl) (by kernel_rfl) (fun _ _ _ h => h) (Or.inl ⟨by rfl, ?_⟩) hHeld ?_
          rotate_left
          · (intro w hSw; obtain ⟨q2, r0, r1, r2, r3, r4⟩ := HC.out _ hSw; go_simp <;> with_reducible rfl)
          try simp only [Act.put, List.setIfInBounds_toArray, List.set_cons_zero, List.set_cons_succ]
          refine wpAnyH_ready (rs := [7, 14]) (by kernel_rfl) (by simp) ?_
          refine AllReadyH.cons (o := { dst := some 39, op := _, type := _, pos := _, after := _, guard := _ }) rfl (fun K hK => ?_) (AllReadyH.cons (o := { dst := some 11, op := _, type := _, pos := _, after := _, guard := _ }) rfl (fun K hK => ?_) AllReadyH.nil)
          · go_simp
            rw [HWR.out]
            refine (HMU.out _).mono ?_
            rintro e x1 ⟨rfl, hk1⟩
            have hKeep := since_step hHeld hk1
            go_wp2_with fail
            refine hK.out _ _ (by (try dsimp only); exact hKeep) (fun hHeld => ?_)
            clear hK K hKeep
            try simp only [Act.put, List.setIfInBounds_toArray, List.set_cons_zero, List.set_cons_succ]
            refine wpAnyH_ready (rs := [10, 14]) (by kernel_rfl) (by simp) ?_
            refine AllReadyH.cons (o := { dst := some 42, op := _, type := _, pos := _, after := _, guard := _ }) rfl (fun K hK => ?_) (AllReadyH.cons (o := { dst := some 11, op := _, type := _, pos := _, after := _, guard := _ }) rfl (fun K hK => ?_) AllReadyH.nil)
            · go_simp
              refine (HTI.out _).mono ?_
              rintro e x2 ⟨rfl, hk2⟩
              have hKeep := since_step hHeld hk2
              go_wp2_with fail
              refine hK.out _ _ (by (try dsimp only); exact hKeep) (fun hHeld => ?_)
              clear hK K hKeep
              try simp only [Act.put, List.setIfInBounds_toArray, List.set_cons_zero, List.set_cons_succ]
              refine wpAnyH_take (i := 11) (oi := { dst := some 31, op := _, type := _, pos := _, after := _, guard := _ }) (v := ?_) rfl (by kernel_rfl) (by kernel_rfl) (by kernel_rfl) (fun _ _ _ h => h) (Or.inl ⟨by rfl, ?_⟩) hHeld ?_
              rotate_left
              · (intro w hSw; clear hSw; go_simp <;> with_reducible rfl)
              try simp only [Act.put, List.setIfInBounds_toArray, List.set_cons_zero, List.set_cons_succ]
              refine wpAnyH_take (i := 12) (oi := { dst := some 43, op := _, type := _, pos := _, after := _, guard := _ }) (v := ?_) rfl (by kernel_rfl) (by kernel_rfl) (by kernel_rfl) (fun _ _ _ h => h) (Or.inl ⟨by rfl, ?_⟩) hHeld ?_
              rotate_left
              · (intro w hSw; clear hSw; go_simp <;> with_reducible rfl)
              try simp only [Act.put, List.setIfInBounds_toArray, List.set_cons_zero, List.set_cons_succ]
              refine wpAnyH_take (i := 13) (oi := { dst := some 44, op := _, type := _, pos := _, after := _, guard := _ }) (v := ?_) rfl (by kernel_rfl) (by kernel_rfl) (by kernel_rfl) (fun _ _ _ h => h) (Or.inl ⟨by rfl, ?_⟩) hHeld ?_
              rotate_left
              · (intro w hSw; clear hSw; go_simp <;> with_reducible rfl)
              try simp only [Act.put, List.setIfInBounds_toArray, List.set_cons_zero, List.set_cons_succ]
              refine wpAnyH_ready (rs := [14]) (by kernel_rfl) (by simp) ?_
              refine AllReadyH.cons (o := { dst := some 11, op := _, type := _, pos := _, after := _, guard := _ }) rfl (fun K hK => ?_) AllReadyH.nil
              have hHd := hHeld
              obtain ⟨q2, r0, r1, r2, r3, r4⟩ := HC.out _ hHd
              have hHp := hHeld
              have G := T2.new x2 0 0 62
              have hgs : Y.heap.size ≤ x2.heap.size := by have h := hHeld.size; (try simp only [World.size_alloc, World.size_drew] at h ⊢); omega
              have hKeep := since_alloc hHeld (.cells #[.int .i64 0, .int .u64 0] 62)
              go_simp
              refine hK.out _ _ (by (try dsimp only); exact hKeep) (fun hHeld => ?_)
              clear hK K hKeep
              try simp only [Act.put, List.setIfInBounds_toArray, List.set_cons_zero, List.set_cons_succ]
              refine wpAnyH_ready (rs := [15]) (by kernel_rfl) (by simp) ?_
              refine AllReadyH.cons (o := { dst := none, op := _, type := _, pos := _, after := _, guard := _ }) rfl (fun K hK => ?_) AllReadyH.nil
              have hHd := hHeld
              obtain ⟨q2, r0, r1, r2, r3, r4⟩ := HC.out _ hHd
              have G9 := T2.new x2 (hiN y0) (loN y0) 62
              obtain ⟨g0, g1, g2, g3, g4⟩ := id G
              have hKeep := since_alloc hHp (.cells #[.int .i64 (hiN y0), .int .u64 (loN y0)] 62)
              skip
              go_simp
              refine hK.out _ _ (by (try dsimp only); exact hKeep) (fun hHeld => ?_)
              clear hK K hKeep
              try simp only [Act.put, List.setIfInBounds_toArray, List.set_cons_zero, List.set_cons_succ]
              refine wpAnyH_take (i := 16) (oi := { dst := some 12, op := _, type := _, pos := _, after := _, guard := _ }) (v := ?_) rfl (by kernel_rfl) (by kernel_rfl) (by kernel_rfl) (fun _ _ _ h => h) (Or.inl ⟨by rfl, ?_⟩) hHeld ?_
              rotate_left
              · (intro w hSw; clear hSw; go_simp <;> with_reducible rfl)
              try simp only [Act.put, List.setIfInBounds_toArray, List.set_cons_zero, List.set_cons_succ]
              refine wpAnyH_done (by kernel_rfl) ?_ _
              generalize hFW : (x2.alloc (.cells #[.int .i64 (hiN y0), .int .u64 (loN y0)] 62)) = FW at *
              clear hFW
              have hBf := hBY.trans (hHeld.mono hBY.size)
              have T8 := HT.out _ hHeld
              clear hHeld HT HC hBY
              generalize hGA : x2.heap.size = ga at *
              clear hGA
              obtain ⟨d0, d1, d2, d3, d4⟩ := id G9
              obtain ⟨t0, t1, t2, t3, t4⟩ := id T8
              go_wp2_with (first
                | (go_at_call 28; refine (HAD.out _ _ (Sl.new_ _ _ _)).mono ?_; rintro e w6 ⟨rfl, hb6⟩; have T8m := (T8.alloc _).below hb6; have hB6 := since_step (since_alloc hBf _) hb6; obtain ⟨r0, r1, r2, r3, r4⟩ := id T8m; clear hb6)
                | fail)
              have T8n := T2.set2 T8m (hiN zz) (loN zz)
              have hBn := Below.setCell (Below.setCell hB6 (p := ⟨g8, 0, none⟩) HG8.out (.int .i64 (hiN zz))) (p := ⟨g8, 1, none⟩) HG8.out (.int .u64 (loN zz))
              go_roundw
              case rel => exact ⟨k + 1, by omega, by go_num, HNO.out, (by rw [HZZ.out]; exact T8n), hBn⟩
              case measure => simp [intOf]; omega
            · have hHd := hHeld
              obtain ⟨q2, r0, r1, r2, r3, r4⟩ := HC.out _ hHd
              have hHp := hHeld
              have G := T2.new x1 0 0 62
              have hgs : Y.heap.size ≤ x1.heap.size := by have h := hHeld.size; (try simp only [World.size_alloc, World.size_drew] at h ⊢); omega
              have hKeep := since_alloc hHeld (.cells #[.int .i64 0, .int .u64 0] 62)
              go_simp
              refine hK.out _ _ (by (try dsimp only); exact hKeep) (fun hHeld => ?_)
              clear hK K hKeep
              try simp only [Act.put, List.setIfInBounds_toArray, List.set_cons_zero, List.set_cons_succ]
              refine wpAnyH_ready (rs := [10]) (by kernel_rfl) (by simp) ?_
              refine AllReadyH.cons (o := { dst := some 42, op := _, type := _, pos := _, after := _, guard := _ }) rfl (fun K hK => ?_) AllReadyH.nil
              go_simp
              refine (HTI.out _).mono ?_
              rintro e x2 ⟨rfl, hk2⟩
              have hKeep := since_step hHeld hk2
              have G := G.below hk2
              go_wp2_with fail
              refine hK.out _ _ (by (try dsimp only); exact hKeep) (fun hHeld => ?_)
              clear hK K hKeep
              try simp only [Act.put, List.setIfInBounds_toArray, List.set_cons_zero, List.set_cons_succ]
              refine wpAnyH_take (i := 11) (oi := { dst := some 31, op := _, type := _, pos := _, after := _, guard := _ }) (v := ?_) rfl (by kernel_rfl) (by kernel_rfl) (by kernel_rfl) (fun _ _ _ h => h) (Or.inl ⟨by rfl, ?_⟩) hHeld ?_
              rotate_left
              · (intro w hSw; clear hSw; go_simp <;> with_reducible rfl)
              try simp only [Act.put, List.setIfInBounds_toArray, List.set_cons_zero, List.set_cons_succ]
              refine wpAnyH_take (i := 12) (oi := { dst := some 43, op := _, type := _, pos := _, after := _, guard := _ }) (v := ?_) rfl (by kernel_rfl) (by kernel_rfl) (by kernel_rfl) (fun _ _ _ h => h) (Or.inl ⟨by rfl, ?_⟩) hHeld ?_
              rotate_left
              · (intro w hSw; clear hSw; go_simp <;> with_reducible rfl)
              try simp only [Act.put, List.setIfInBounds_toArray, List.set_cons_zero, List.set_cons_succ]
              refine wpAnyH_take (i := 13) (oi := { dst := some 44, op := _, type := _, pos := _, after := _, guard := _ }) (v := ?_) rfl (by kernel_rfl) (by kernel_rfl) (by kernel_rfl) (fun _ _ _ h => h) (Or.inl ⟨by rfl, ?_⟩) hHeld ?_
              rotate_left
              · (intro w hSw; clear hSw; go_simp <;> with_reducible rfl)
              try simp only [Act.put, List.setIfInBounds_toArray, List.set_cons_zero, List.set_cons_succ]
              refine wpAnyH_ready (rs := [15]) (by kernel_rfl) (by simp) ?_
              refine AllReadyH.cons (o := { dst := none, op := _, type := _, pos := _, after := _, guard := _ }) rfl (fun K hK => ?_) AllReadyH.nil
              have hHd := hHeld
              obtain ⟨q2, r0, r1, r2, r3, r4⟩ := HC.out _ hHd
              have G9 := G.set2 (hiN y0) (loN y0)
              obtain ⟨g0, g1, g2, g3, g4⟩ := id G
              have hKeep := Below.setCell (Below.setCell hHeld (p := ⟨x1.heap.size, 0, none⟩) hgs (.int .i64 (hiN y0))) (p := ⟨x1.heap.size, 1, none⟩) hgs (.int .u64 (loN y0))
              skip
              go_simp
              refine hK.out _ _ (by (try dsimp only); exact hKeep) (fun hHeld => ?_)
              clear hK K hKeep
              try simp only [Act.put, List.setIfInBounds_toArray, List.set_cons_zero, List.set_cons_succ]
              refine wpAnyH_take (i := 16) (oi := { dst := some 12, op := _, type := _, pos := _, after := _, guard := _ }) (v := ?_) rfl (by kernel_rfl) (by kernel_rfl) (by kernel_rfl) (fun _ _ _ h => h) (Or.inl ⟨by rfl, ?_⟩) hHeld ?_
              rotate_left
              · (intro w hSw; clear hSw; go_simp <;> with_reducible rfl)
              try simp only [Act.put, List.setIfInBounds_toArray, List.set_cons_zero, List.set_cons_succ]
              refine wpAnyH_done (by kernel_rfl) ?_ _
              generalize hFW : ((x2.setCell ⟨x1.heap.size, 0, none⟩ (.int .i64 (hiN y0))).setCell ⟨x1.heap.size, 1, none⟩ (.int .u64 (loN y0))) = FW at *
              clear hFW
              have hBf := hBY.trans (hHeld.mono hBY.size)
              have T8 := HT.out _ hHeld
              clear hHeld HT HC hBY
              generalize hGA : x1.heap.size = ga at *
              clear hGA
              obtain ⟨d0, d1, d2, d3, d4⟩ := id G9
              obtain ⟨t0, t1, t2, t3, t4⟩ := id T8
              go_wp2_with (first
                | (go_at_call 28; refine (HAD.out _ _ (Sl.new_ _ _ _)).mono ?_; rintro e w6 ⟨rfl, hb6⟩; have T8m := (T8.alloc _).below hb6; have hB6 := since_step (since_alloc hBf _) hb6; obtain ⟨r0, r1, r2, r3, r4⟩ := id T8m; clear hb6)
                | fail)
              have T8n := T2.set2 T8m (hiN zz) (loN zz)
              have hBn := Below.setCell (Below.setCell hB6 (p := ⟨g8, 0, none⟩) HG8.out (.int .i64 (hiN zz))) (p := ⟨g8, 1, none⟩) HG8.out (.int .u64 (loN zz))
              go_roundw
              case rel => exact ⟨k + 1, by omega, by go_num, HNO.out, (by rw [HZZ.out]; exact T8n), hBn⟩
              case measure => simp [intOf]; omega
          · have hHd := hHeld
            obtain ⟨q2, r0, r1, r2, r3, r4⟩ := HC.out _ hHd
            have hHp := hHeld
            have G := T2.new Y.drew 0 0 62
            rw [World.size_drew] at G
            have hgs : Y.heap.size ≤ Y.heap.size := by have h := hHeld.size; (try simp only [World.size_alloc, World.size_drew] at h ⊢); omega
            have hKeep := since_alloc hHeld (.cells #[.int .i64 0, .int .u64 0] 62)
            go_simp
            refine hK.out _ _ (by (try dsimp only); exact hKeep) (fun hHeld => ?_)
            clear hK K hKeep
            try simp only [Act.put, List.setIfInBounds_toArray, List.set_cons_zero, List.set_cons_succ]
            refine wpAnyH_ready (rs := [7]) (by kernel_rfl) (by simp) ?_
            refine AllReadyH.cons (o := { dst := some 39, op := _, type := _, pos := _, after := _, guard := _ }) rfl (fun K hK => ?_) AllReadyH.nil
            go_simp
            rw [HWR.out]
            refine (HMU.out _).mono ?_
            rintro e x1 ⟨rfl, hk1⟩
            have hKeep := since_step hHeld hk1
            have G := G.below hk1
            go_wp2_with fail
            refine hK.out _ _ (by (try dsimp only); exact hKeep) (fun hHeld => ?_)
            clear hK K hKeep
            try simp only [Act.put, List.setIfInBounds_toArray, List.set_cons_zero, List.set_cons_succ]
            refine wpAnyH_ready (rs := [10]) (by kernel_rfl) (by simp) ?_
            refine AllReadyH.cons (o := { dst := some 42, op := _, type := _, pos := _, after := _, guard := _ }) rfl (fun K hK => ?_) AllReadyH.nil
            go_simp
            refine (HTI.out _).mono ?_
            rintro e x2 ⟨rfl, hk2⟩
            have hKeep := since_step hHeld hk2
            have G := G.below hk2
            go_wp2_with fail
            refine hK.out _ _ (by (try dsimp only); exact hKeep) (fun hHeld => ?_)
            clear hK K hKeep
            try simp only [Act.put, List.setIfInBounds_toArray, List.set_cons_zero, List.set_cons_succ]
            refine wpAnyH_take (i := 11) (oi := { dst := some 31, op := _, type := _, pos := _, after := _, guard := _ }) (v := ?_) rfl (by kernel_rfl) (by kernel_rfl) (by kernel_rfl) (fun _ _ _ h => h) (Or.inl ⟨by rfl, ?_⟩) hHeld ?_
            rotate_left
            · (intro w hSw; clear hSw; go_simp <;> with_reducible rfl)
            try simp only [Act.put, List.setIfInBounds_toArray, List.set_cons_zero, List.set_cons_succ]
            refine wpAnyH_take (i := 12) (oi := { dst := some 43, op := _, type := _, pos := _, after := _, guard := _ }) (v := ?_) rfl (by kernel_rfl) (by kernel_rfl) (by kernel_rfl) (fun _ _ _ h => h) (Or.inl ⟨by rfl, ?_⟩) hHeld ?_
            rotate_left
            · (intro w hSw; clear hSw; go_simp <;> with_reducible rfl)
            try simp only [Act.put, List.setIfInBounds_toArray, List.set_cons_zero, List.set_cons_succ]
            refine wpAnyH_take (i := 13) (oi := { dst := some 44, op := _, type := _, pos := _, after := _, guard := _ }) (v := ?_) rfl (by kernel_rfl) (by kernel_rfl) (by kernel_rfl) (fun _ _ _ h => h) (Or.inl ⟨by rfl, ?_⟩) hHeld ?_
            rotate_left
            · (intro w hSw; clear hSw; go_simp <;> with_reducible rfl)
            try simp only [Act.put, List.setIfInBounds_toArray, List.set_cons_zero, List.set_cons_succ]
            refine wpAnyH_ready (rs := [15]) (by kernel_rfl) (by simp) ?_
            refine AllReadyH.cons (o := { dst := none, op := _, type := _, pos := _, after := _, guard := _ }) rfl (fun K hK => ?_) AllReadyH.nil
            have hHd := hHeld
            obtain ⟨q2, r0, r1, r2, r3, r4⟩ := HC.out _ hHd
            have G9 := G.set2 (hiN y0) (loN y0)
            obtain ⟨g0, g1, g2, g3, g4⟩ := id G
            have hKeep := Below.setCell (Below.setCell hHeld (p := ⟨Y.heap.size, 0, none⟩) hgs (.int .i64 (hiN y0))) (p := ⟨Y.heap.size, 1, none⟩) hgs (.int .u64 (loN y0))
            skip
            go_simp
            refine hK.out _ _ (by (try dsimp only); exact hKeep) (fun hHeld => ?_)
            clear hK K hKeep
            try simp only [Act.put, List.setIfInBounds_toArray, List.set_cons_zero, List.set_cons_succ]
            refine wpAnyH_take (i := 16) (oi := { dst := some 12, op := _, type := _, pos := _, after := _, guard := _ }) (v := ?_) rfl (by kernel_rfl) (by kernel_rfl) (by kernel_rfl) (fun _ _ _ h => h) (Or.inl ⟨by rfl, ?_⟩) hHeld ?_
            rotate_left
            · (intro w hSw; clear hSw; go_simp <;> with_reducible rfl)
            try simp only [Act.put, List.setIfInBounds_toArray, List.set_cons_zero, List.set_cons_succ]
            refine wpAnyH_done (by kernel_rfl) ?_ _
            generalize hFW : ((x2.setCell ⟨Y.heap.size, 0, none⟩ (.int .i64 (hiN y0))).setCell ⟨Y.heap.size, 1, none⟩ (.int .u64 (loN y0))) = FW at *
            clear hFW
            have hBf := hBY.trans (hHeld.mono hBY.size)
            have T8 := HT.out _ hHeld
            clear hHeld HT HC hBY
            generalize hGA : Y.heap.size = ga at *
            clear hGA
            obtain ⟨d0, d1, d2, d3, d4⟩ := id G9
            obtain ⟨t0, t1, t2, t3, t4⟩ := id T8
            go_wp2_with (first
              | (go_at_call 28; refine (HAD.out _ _ (Sl.new_ _ _ _)).mono ?_; rintro e w6 ⟨rfl, hb6⟩; have T8m := (T8.alloc _).below hb6; have hB6 := since_step (since_alloc hBf _) hb6; obtain ⟨r0, r1, r2, r3, r4⟩ := id T8m; clear hb6)
              | fail)
            have T8n := T2.set2 T8m (hiN zz) (loN zz)
            have hBn := Below.setCell (Below.setCell hB6 (p := ⟨g8, 0, none⟩) HG8.out (.int .i64 (hiN zz))) (p := ⟨g8, 1, none⟩) HG8.out (.int .u64 (loN zz))
            go_roundw
            case rel => exact ⟨k + 1, by omega, by go_num, HNO.out, (by rw [HZZ.out]; exact T8n), hBn⟩
            case measure => simp [intOf]; omega
      · obtain rfl : k = M.length := by omega
        rw [List.take_length] at T8
        have HR := Lib.hid (HOK.out fun j hj => hno j hj hj)
        have h128 := gnZ_128 ho hM6 hMl
        clear hno
        have HIN := Lib.hid (fun V => int_any (gnZ is M) h128 V)
        clear h128
        generalize hz : gnZ is M = z at *
        clear hz
        obtain ⟨t0, t1, t2, t3, t4⟩ := id T8
        go_wp2_with fail
        refine (HIN.out _).mono ?_
        rintro e u1 ⟨rfl, hb⟩
        go_wp2_with fail
        go_ret2
        exact ⟨by rw [HR.out]; rfl, since_step hB hb⟩
end Go.Proofs.Ytahdmomadbbhoaa
end
