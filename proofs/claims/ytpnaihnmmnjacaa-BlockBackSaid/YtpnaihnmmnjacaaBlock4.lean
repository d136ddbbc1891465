/-
  Layer 22, fourth part: the document's Average (laid by gen_block4.py).
-/
import Derived.Test.YtpnaihnmmnjacaaBlock3
import Derived.Test.YtpnaihnmmnjacaaBox
import Derived.Deep.RegionHeld3
namespace Go.Proofs.Ytpnaihnmmnjacaa
open Go.ChangeShapes Go.WideShapes Go.ChangeAt Go.RowKit
set_option linter.unusedVariables false
set_option linter.unusedSimpArgs false

theorem Fi.Bx.far {w : World} {b : Nat} {g : Fi} (h : Fi.Bx w b g) {p : Addr} (hp : p.block ≠ b) (v : Value) : Fi.Bx (w.setCell p v) b g :=
  ⟨by simpa using h.lt, Fi.at_keep h.at_ fun i => World.cell?_setCell_other w _ _ _ (by rintro rfl; exact hp rfl)⟩
theorem okE_of {q0 : Int} {f : Fi} (h : okF f = true) (hq : q0 ≠ 0) : okE q0 f = (decide (f.qty < 0) == decide (q0 < 0)) := by
  have h5 := okF_bd h
  unfold okE
  rw [h, Bool.true_and]
  by_cases h1 : 0 < f.qty <;> by_cases h2 : 0 < q0
  · simp [h1, h2]; omega
  · simp [h1, h2]; omega
  · simp [h1, h2]; omega
  · simp [h1, h2]; omega
theorem Bx.keep2 {w0 w w' : World} {b : Nat} {g : Fi} (h : Below w0.heap.size w0 w ∧ Fi.Bx w b g) (hb : Below w.heap.size w w') : Below w0.heap.size w0 w' ∧ Fi.Bx w' b g := ⟨since_step h.1 hb, h.2.below hb⟩

def RelV (w : World) (l : List Fi) (i : Value) (wr : World) : Prop :=
  ∃ (k : Nat) (s6 : Bool) (A6 : Option Addr) (n6 c6 : Nat) (s7 : Bool) (A7 : Option Addr) (n7 c7 : Nat), k ≤ l.length ∧ i = .int .i64 k ∧ (∀ j, (hj : j < l.length) → j < k → okF l[j] = true) ∧
    BX (w.heap.size + 2) wr w.heap.size s6 A6 n6 c6 (qtyL (l.take k)) ∧ BX (w.heap.size + 2) wr (w.heap.size + 1) s7 A7 n7 c7 (costL (l.take k)) ∧ Below w.heap.size w wr

set_option maxHeartbeats 16000000 in
set_option maxRecDepth 100000 in
theorem bravg_any (A : Option Addr) (cap : Nat) (l : List Fi) (w : World) (hl : l.length ≤ 1000000) (hs : Sl w A (rc Fi.cells l)) :
    Calls Try.prog 64 #[.slice A l.length cap] w fun e w' => e = .returned (avgV l) ∧ Below w.heap.size w w' := by
  obtain ⟨RV, hRV⟩ : ∃ v : Value, v = avgV l := ⟨_, rfl⟩
  rw [← hRV]
  have HRV := Lib.hid hRV
  clear hRV
  have HBAD : Hid (okFs l ≠ true → RV = .tuple #[.int .i64 0, .int .i64 0, .int .i64 0, .int .i64 2]) := Lib.hid (fun h => by rw [HRV.out, avgV, avgR, if_neg h])
  by_cases h1 : l.length < 1
  · have HE := Lib.hid (HBAD.out (by unfold okFs; simp; omega))
    have h1i : (l.length : Int) < 1 := by omega
    go_enter Try.func64, Try.ntmps64
    go_wp2_with fail
    (try simp only [Exit.inBlock, Exit.then]); refine bodyPost_ret (results_tmp4 rfl _ _ _) rfl ?_
    rw [HE.out]; exact ⟨rfl, Below.refl _ _⟩
  have h1i : ¬ (l.length : Int) < 1 := by omega
  by_cases h2 : 16 < l.length
  · have HE := Lib.hid (HBAD.out (by unfold okFs; simp; omega))
    have h2i : (16 : Int) < (l.length : Int) := by omega
    go_enter Try.func64, Try.ntmps64
    go_wp2_with fail
    (try simp only [Exit.inBlock, Exit.then]); refine bodyPost_ret (results_tmp4 rfl _ _ _) rfl ?_
    rw [HE.out]; exact ⟨rfl, Below.refl _ _⟩
  have h2i : ¬ (16 : Int) < (l.length : Int) := by omega
  go_enter Try.func64, Try.ntmps64
  go_wp2_with fail
  go_loopw [8] (fun i wr => RelV w l i wr) (fun i _ => l.length - (intOf i).toNat)
  case atStart =>
    refine ⟨0, false, none, 0, 0, false, none, 0, 0, by omega, rfl, fun j hj h => absurd h (by omega), ?_, ?_, since_alloc (since_alloc (Below.refl _ _) _) _⟩
    · exact (BX.new (by omega) _).alloc _
    · have h := BX.new (w := w.alloc (.cells #[.bool false, .slice none 0 0] 69)) (B := w.heap.size + 2) (by simp) 69
      rw [World.size_alloc] at h
      exact h
  case round =>
    obtain ⟨k, s6, A6, n6, c6, s7, A7, n7, c7, hk, rfl, hno, X6, X7, hB⟩ := hrel
    have hsz := hB.size
    have hgx : w.heap.size + 2 ≤ wr.heap.size := by have := X7.bb.1; omega
    by_cases hlt : k < l.length
    · obtain ⟨b, o, rfl, hbw, hg⟩ := hs.fi hlt
      have hg1 : l[k].at wr b (o + k * 2) := Fi.at_keep (w := w) hg fun i => hB.cell (p := ⟨b, i, none⟩) hbw
      have hlk : (k : Int) < (l.length : Int) := by omega
      have hb128 : In128 (costL (l.take k)) := costL_in (fun f hf => by
        obtain ⟨j, hj, rfl⟩ := List.getElem_of_mem hf
        simp only [List.length_take] at hj
        rw [List.getElem_take]
        exact hno j (by omega) (by omega)) (by simp; omega)
      have hq128 : In128 (qtyL (l.take k)) := by
        have := qtyL_bd (l.take k) (fun f hf => by
          obtain ⟨j, hj, rfl⟩ := List.getElem_of_mem hf
          simp only [List.length_take] at hj
          rw [List.getElem_take]
          exact hno j (by omega) (by omega))
        have h3 : (l.take k).length ≤ 16 := by simp; omega
        unfold In128
        omega
      have hL6 := X6.at_.l128 hq128
      have hL7 := X7.at_.l128 hb128
      have HB : Hid (okF l[k] ≠ true → RV = .tuple #[.int .i64 0, .int .i64 0, .int .i64 0, .int .i64 2]) := Lib.hid (fun h => HBAD.out (by
        intro h3
        exact h (okE_sg ((okFs_all h3).2.2 _ (List.getElem_mem hlt))).1))
      have HGO : Hid (okF l[k] = true → ∀ j, (hj : j < l.length) → j < k + 1 → okF l[j] = true) := Lib.hid (fun h j hj hjk => by
        rcases Nat.lt_or_ge j k with h' | h'
        · exact hno j hj h'
        · obtain rfl : j = k := by omega
          exact h)
      have HSQ := Lib.hid (qtyL_take l k hlt)
      have HSC := Lib.hid (costL_take l k hlt)
      obtain ⟨p0, p1⟩ := hg1
      clear hg hs hno hb128 hq128 HBAD HRV hl
      generalize l[k] = v at HB HGO HSQ HSC p0 p1
      obtain ⟨q, p⟩ := v
      simp only at p0 p1 HSQ HSC
      have hX := Fi.Bx.new wr ⟨q, p⟩
      have hW := (Below.refl wr.heap.size wr).alloc (Nat.le_refl _) (.cells (Fi.cells ⟨q, p⟩).toArray 117)
      have hBW := since_step hB hW
      have X6 := X6.below hW
      have X7 := X7.below hW
      unfold Fi.cells at hX hW hBW X6 X7
      simp only at hX hW hBW X6 X7
      by_cases c1 : p < 0
      · have HE := Lib.hid (HB.out (by simp [okF, inQ]; omega))
        clear HB HGO
        go_wp2_with fail
        (try simp only [Exit.inBlock, Exit.then]); refine bodyPost_ret (results_tmp4 rfl _ _ _) rfl ?_
        rw [HE.out]; exact ⟨rfl, hBW⟩
      by_cases c2 : 2147483647 < p
      · have HE := Lib.hid (HB.out (by simp [okF, inQ]; omega))
        clear HB HGO
        go_wp2_with fail
        (try simp only [Exit.inBlock, Exit.then]); refine bodyPost_ret (results_tmp4 rfl _ _ _) rfl ?_
        rw [HE.out]; exact ⟨rfl, hBW⟩
      by_cases c3 : q = 0
      · have HE := Lib.hid (HB.out (by simp [okF, inQ]; omega))
        clear HB HGO
        subst c3
        go_wp2_with fail
        (try simp only [Exit.inBlock, Exit.then]); refine bodyPost_ret (results_tmp4 rfl _ _ _) rfl ?_
        rw [HE.out]; exact ⟨rfl, hBW⟩
      by_cases c4 : q < -1099511627776
      · have HE := Lib.hid (HB.out (by simp [okF, inQ]; omega))
        clear HB HGO
        go_wp2_with fail
        (try simp only [Exit.inBlock, Exit.then]); refine bodyPost_ret (results_tmp4 rfl _ _ _) rfl ?_
        rw [HE.out]; exact ⟨rfl, hBW⟩
      by_cases c5 : 1099511627776 < q
      · have HE := Lib.hid (HB.out (by simp [okF, inQ]; omega))
        clear HB HGO
        go_wp2_with fail
        (try simp only [Exit.inBlock, Exit.then]); refine bodyPost_ret (results_tmp4 rfl _ _ _) rfl ?_
        rw [HE.out]; exact ⟨rfl, hBW⟩
      have HN := Lib.hid (HGO.out (by simp [okF, inQ]; omega))
      clear HGO HB
      have hq64 : In64 q := by unfold In64; omega
      have hp64 : In64 p := by unfold In64; omega
      have HQ := Lib.hid (fun W => bof_any q W hq64)
      have HP := Lib.hid (fun W => bof_any p W hp64)
      generalize qtyL (l.take k) = y at *
      generalize costL (l.take k) = z at *
      go_upto_region 10 with fail
      generalize hWW : wr.alloc (.cells #[.int .i64 q, .int .i64 p] 117) = W at *
      have X6 := X6.drew
      have X7 := X7.drew
      clear p0 p1 hWW hB
      go_wp2_with fail
      refine wp_region_held_drew (S := (fun V => Below w.heap.size w V ∧ Fi.Bx V wr.heap.size ⟨q, p⟩)) (by kernel_rfl) (by exact ⟨hBW.drew, hX.below ⟨rfl, rfl, rfl, Nat.le_refl _, fun _ _ => rfl⟩⟩) (fun hHeld => ?_)
      refine wpAnyH_take (i := 1) (oi := { dst := some 58, op := _, type := _, pos := _, after := _, guard := _ }) (v := ?_) rfl (by kernel_rfl) (by kernel_rfl) (by kernel_rfl) (fun _ _ _ h => h) (Or.inl ⟨by rfl, ?_⟩) hHeld ?_
      rotate_left
      · (intro w hSw; obtain ⟨x0, x1⟩ := hSw.2.got; go_simp <;> with_reducible rfl)
      try simp only [Act.put, List.setIfInBounds_toArray, List.set_cons_zero, List.set_cons_succ]
      refine wpAnyH_take (i := 2) (oi := { dst := some 59, op := _, type := _, pos := _, after := _, guard := _ }) (v := ?_) rfl (by kernel_rfl) (by kernel_rfl) (by kernel_rfl) (fun _ _ _ h => h) (Or.inl ⟨by rfl, ?_⟩) hHeld ?_
      rotate_left
      · (intro w hSw; obtain ⟨x0, x1⟩ := hSw.2.got; go_simp <;> with_reducible rfl)
      try simp only [Act.put, List.setIfInBounds_toArray, List.set_cons_zero, List.set_cons_succ]
      refine wpAnyH_ready (rs := [0, 3]) (by kernel_rfl) (by simp) ?_
      refine AllReadyH.cons (o := { dst := some 57, op := _, type := _, pos := _, after := _, guard := _ }) rfl (fun K hK => ?_) (AllReadyH.cons (o := { dst := some 60, op := _, type := _, pos := _, after := _, guard := _ }) rfl (fun K hK => ?_) AllReadyH.nil)
      · have hHd := hHeld
        obtain ⟨x0, x1⟩ := hHd.2.got
        obtain ⟨b1, b2, b3, b4, b5⟩ := id X6.bb
        have hKeep := hHeld
        go_simp
        refine hK.out _ _ (by (try dsimp only); exact hKeep) (fun hHeld => ?_)
        clear hK K hKeep
        try simp only [Act.put, List.setIfInBounds_toArray, List.set_cons_zero, List.set_cons_succ]
        refine wpAnyH_ready (rs := [3]) (by kernel_rfl) (by simp) ?_
        refine AllReadyH.cons (o := { dst := some 60, op := _, type := _, pos := _, after := _, guard := _ }) rfl (fun K hK => ?_) AllReadyH.nil
        go_simp
        refine (HQ.out _).mono ?_
        rintro e u1 ⟨⟨s1, A1, m1, k1, rfl, hf1, Y1⟩, hk1⟩
        have hKeep := Bx.keep2 hHeld hk1
        have L1 := Y1.l64 hq64
        have X6 := X6.below hk1
        have X7 := X7.below hk1
        go_wp2_with fail
        refine hK.out _ _ (by (try dsimp only); exact hKeep) (fun hHeld => ?_)
        clear hK K hKeep
        try simp only [Act.put, List.setIfInBounds_toArray, List.set_cons_zero, List.set_cons_succ]
        refine wpAnyH_ready (rs := [4]) (by kernel_rfl) (by simp) ?_
        refine AllReadyH.cons (o := { dst := some 61, op := _, type := _, pos := _, after := _, guard := _ }) rfl (fun K hK => ?_) AllReadyH.nil
        go_simp
        refine (badd' (by omega) (by omega) X6.at_ Y1).mono ?_
        rintro e u2 ⟨⟨s2, A2, m2, k2, rfl, hf2, Y2⟩, hk2⟩
        have hz1 := hHeld.1.size
        have hgu := hHeld.2.lt
        have hKeep := Bx.keep2 hHeld hk2
        have X6 := X6.below hk2
        have X7 := X7.below hk2
        go_wp2_with fail
        refine hK.out _ _ (by (try dsimp only); exact hKeep) (fun hHeld => ?_)
        clear hK K hKeep
        try simp only [Act.put, List.setIfInBounds_toArray, List.set_cons_zero, List.set_cons_succ]
        refine wpAnyH_ready (rs := [5]) (by kernel_rfl) (by simp) ?_
        refine AllReadyH.cons (o := { dst := none, op := _, type := _, pos := _, after := _, guard := _ }) rfl (fun K hK => ?_) AllReadyH.nil
        have hHd := hHeld
        obtain ⟨x0, x1⟩ := hHd.2.got
        have hF : Fr (w.heap.size + 2) A2 m2 := hf2.le (by omega) (Nat.le_refl _)
        have X6n := X6.put Y2 hF
        have X7n := (X7.set (p := ⟨w.heap.size, 0, none⟩) (by show w.heap.size < _; omega) (by show w.heap.size ≠ _; omega) (.bool s2)).set (p := ⟨w.heap.size, 1, none⟩) (by show w.heap.size < _; omega) (by show w.heap.size ≠ _; omega) (.slice A2 m2 k2)
        obtain ⟨b1, b2, b3, b4, b5⟩ := id X6.bb
        have hKeep : Below w.heap.size w ((u2.setCell ⟨w.heap.size, 0, none⟩ (.bool s2)).setCell ⟨w.heap.size, 1, none⟩ (.slice A2 m2 k2)) ∧ Fi.Bx ((u2.setCell ⟨w.heap.size, 0, none⟩ (.bool s2)).setCell ⟨w.heap.size, 1, none⟩ (.slice A2 m2 k2)) wr.heap.size ⟨q, p⟩ :=
          ⟨Below.setCell (Below.setCell hHeld.1 (by show w.heap.size ≤ w.heap.size; omega) _) (by show w.heap.size ≤ w.heap.size; omega) _, (hHeld.2.far (by show w.heap.size ≠ _; omega) _).far (by show w.heap.size ≠ _; omega) _⟩
        skip
        go_simp
        refine hK.out _ _ (by (try dsimp only); exact hKeep) (fun hHeld => ?_)
        clear hK K hKeep
        try simp only [Act.put, List.setIfInBounds_toArray, List.set_cons_zero, List.set_cons_succ]
        refine wpAnyH_done (by kernel_rfl) ?_ _
        generalize hFW : ((u2.setCell ⟨w.heap.size, 0, none⟩ (.bool s2)).setCell ⟨w.heap.size, 1, none⟩ (.slice A2 m2 k2)) = FW at *
        have X6 := X6n.drew
        have X7 := X7n.drew
        clear X6n X7n b1 b2 b3 b4 b5 Y1 Y2 hFW
        go_wp2_with fail
        refine wp_region_held_drew (S := (fun V => Below w.heap.size w V ∧ Fi.Bx V wr.heap.size ⟨q, p⟩)) (by kernel_rfl) (by exact ⟨hHeld.1.drew, hHeld.2.below ⟨rfl, rfl, rfl, Nat.le_refl _, fun _ _ => rfl⟩⟩) (fun hHeld => ?_)
        refine wpAnyH_take (i := 1) (oi := { dst := some 63, op := _, type := _, pos := _, after := _, guard := _ }) (v := ?_) rfl (by kernel_rfl) (by kernel_rfl) (by kernel_rfl) (fun _ _ _ h => h) (Or.inl ⟨by rfl, ?_⟩) hHeld ?_
        rotate_left
        · (intro w hSw; obtain ⟨x0, x1⟩ := hSw.2.got; go_simp <;> with_reducible rfl)
        try simp only [Act.put, List.setIfInBounds_toArray, List.set_cons_zero, List.set_cons_succ]
        refine wpAnyH_take (i := 2) (oi := { dst := some 64, op := _, type := _, pos := _, after := _, guard := _ }) (v := ?_) rfl (by kernel_rfl) (by kernel_rfl) (by kernel_rfl) (fun _ _ _ h => h) (Or.inl ⟨by rfl, ?_⟩) hHeld ?_
        rotate_left
        · (intro w hSw; obtain ⟨x0, x1⟩ := hSw.2.got; go_simp <;> with_reducible rfl)
        try simp only [Act.put, List.setIfInBounds_toArray, List.set_cons_zero, List.set_cons_succ]
        refine wpAnyH_take (i := 4) (oi := { dst := some 66, op := _, type := _, pos := _, after := _, guard := _ }) (v := ?_) rfl (by kernel_rfl) (by kernel_rfl) (by kernel_rfl) (fun _ _ _ h => h) (Or.inl ⟨by rfl, ?_⟩) hHeld ?_
        rotate_left
        · (intro w hSw; obtain ⟨x0, x1⟩ := hSw.2.got; go_simp <;> with_reducible rfl)
        try simp only [Act.put, List.setIfInBounds_toArray, List.set_cons_zero, List.set_cons_succ]
        refine wpAnyH_take (i := 5) (oi := { dst := some 67, op := _, type := _, pos := _, after := _, guard := _ }) (v := ?_) rfl (by kernel_rfl) (by kernel_rfl) (by kernel_rfl) (fun _ _ _ h => h) (Or.inl ⟨by rfl, ?_⟩) hHeld ?_
        rotate_left
        · (intro w hSw; obtain ⟨x0, x1⟩ := hSw.2.got; go_simp <;> with_reducible rfl)
        try simp only [Act.put, List.setIfInBounds_toArray, List.set_cons_zero, List.set_cons_succ]
        refine wpAnyH_ready (rs := [0, 3]) (by kernel_rfl) (by simp) ?_
        refine AllReadyH.cons (o := { dst := some 62, op := _, type := _, pos := _, after := _, guard := _ }) rfl (fun K hK => ?_) (AllReadyH.cons (o := { dst := some 65, op := _, type := _, pos := _, after := _, guard := _ }) rfl (fun K hK => ?_) AllReadyH.nil)
        · have hHd := hHeld
          obtain ⟨x0, x1⟩ := hHd.2.got
          obtain ⟨b1, b2, b3, b4, b5⟩ := id X7.bb
          have hKeep := hHeld
          go_simp
          refine hK.out _ _ (by (try dsimp only); exact hKeep) (fun hHeld => ?_)
          clear hK K hKeep
          try simp only [Act.put, List.setIfInBounds_toArray, List.set_cons_zero, List.set_cons_succ]
          refine wpAnyH_ready (rs := [3]) (by kernel_rfl) (by simp) ?_
          refine AllReadyH.cons (o := { dst := some 65, op := _, type := _, pos := _, after := _, guard := _ }) rfl (fun K hK => ?_) AllReadyH.nil
          go_simp
          refine (HQ.out _).mono ?_
          rintro e u3 ⟨⟨s3, A3, m3, k3, rfl, hf3, Y3⟩, hk3⟩
          have hKeep := Bx.keep2 hHeld hk3
          have L3 := Y3.l64 hq64
          have X6 := X6.below hk3
          have X7 := X7.below hk3
          go_wp2_with fail
          refine hK.out _ _ (by (try dsimp only); exact hKeep) (fun hHeld => ?_)
          clear hK K hKeep
          try simp only [Act.put, List.setIfInBounds_toArray, List.set_cons_zero, List.set_cons_succ]
          refine wpAnyH_ready (rs := [6]) (by kernel_rfl) (by simp) ?_
          refine AllReadyH.cons (o := { dst := some 68, op := _, type := _, pos := _, after := _, guard := _ }) rfl (fun K hK => ?_) AllReadyH.nil
          go_simp
          refine (HP.out _).mono ?_
          rintro e u4 ⟨⟨s4, A4, m4, k4, rfl, hf4, Y4⟩, hk4⟩
          have hKeep := Bx.keep2 hHeld hk4
          have L4 := Y4.l64 hp64
          have X6 := X6.below hk4
          have X7 := X7.below hk4
          have Y3 := Y3.below hk4
          go_wp2_with fail
          refine hK.out _ _ (by (try dsimp only); exact hKeep) (fun hHeld => ?_)
          clear hK K hKeep
          try simp only [Act.put, List.setIfInBounds_toArray, List.set_cons_zero, List.set_cons_succ]
          refine wpAnyH_ready (rs := [7]) (by kernel_rfl) (by simp) ?_
          refine AllReadyH.cons (o := { dst := some 69, op := _, type := _, pos := _, after := _, guard := _ }) rfl (fun K hK => ?_) AllReadyH.nil
          go_simp
          refine (bmul_any _ _ _ _ _ _ _ _ _ _ _ (by omega) (by omega) Y3 Y4).mono ?_
          rintro e u5 ⟨⟨s5, A5, m5, k5, rfl, hf5, Y5⟩, hk5⟩
          have hKeep := Bx.keep2 hHeld hk5
          have L5 := len_mul Y3 Y4 Y5
          have X6 := X6.below hk5
          have X7 := X7.below hk5
          go_wp2_with fail
          refine hK.out _ _ (by (try dsimp only); exact hKeep) (fun hHeld => ?_)
          clear hK K hKeep
          try simp only [Act.put, List.setIfInBounds_toArray, List.set_cons_zero, List.set_cons_succ]
          refine wpAnyH_ready (rs := [8]) (by kernel_rfl) (by simp) ?_
          refine AllReadyH.cons (o := { dst := some 70, op := _, type := _, pos := _, after := _, guard := _ }) rfl (fun K hK => ?_) AllReadyH.nil
          go_simp
          refine (badd' (by omega) (by omega) X7.at_ Y5).mono ?_
          rintro e u6 ⟨⟨s8, A8, m8, k8, rfl, hf8, Y8⟩, hk8⟩
          have hz1 := hHeld.1.size
          have hgu := hHeld.2.lt
          have hKeep := Bx.keep2 hHeld hk8
          have X6 := X6.below hk8
          have X7 := X7.below hk8
          go_wp2_with fail
          refine hK.out _ _ (by (try dsimp only); exact hKeep) (fun hHeld => ?_)
          clear hK K hKeep
          try simp only [Act.put, List.setIfInBounds_toArray, List.set_cons_zero, List.set_cons_succ]
          refine wpAnyH_ready (rs := [9]) (by kernel_rfl) (by simp) ?_
          refine AllReadyH.cons (o := { dst := none, op := _, type := _, pos := _, after := _, guard := _ }) rfl (fun K hK => ?_) AllReadyH.nil
          have hHd := hHeld
          obtain ⟨x0, x1⟩ := hHd.2.got
          have hF : Fr (w.heap.size + 2) A8 m8 := hf8.le (by omega) (Nat.le_refl _)
          have X7n := X7.put Y8 hF
          have X6n := (X6.set (p := ⟨w.heap.size + 1, 0, none⟩) (by show w.heap.size + 1 < _; omega) (by show w.heap.size + 1 ≠ _; omega) (.bool s8)).set (p := ⟨w.heap.size + 1, 1, none⟩) (by show w.heap.size + 1 < _; omega) (by show w.heap.size + 1 ≠ _; omega) (.slice A8 m8 k8)
          obtain ⟨b1, b2, b3, b4, b5⟩ := id X7.bb
          have hKeep : Below w.heap.size w ((u6.setCell ⟨w.heap.size + 1, 0, none⟩ (.bool s8)).setCell ⟨w.heap.size + 1, 1, none⟩ (.slice A8 m8 k8)) ∧ Fi.Bx ((u6.setCell ⟨w.heap.size + 1, 0, none⟩ (.bool s8)).setCell ⟨w.heap.size + 1, 1, none⟩ (.slice A8 m8 k8)) wr.heap.size ⟨q, p⟩ :=
            ⟨Below.setCell (Below.setCell hHeld.1 (by show w.heap.size ≤ w.heap.size + 1; omega) _) (by show w.heap.size ≤ w.heap.size + 1; omega) _, (hHeld.2.far (by show w.heap.size + 1 ≠ _; omega) _).far (by show w.heap.size + 1 ≠ _; omega) _⟩
          skip
          go_simp
          refine hK.out _ _ (by (try dsimp only); exact hKeep) (fun hHeld => ?_)
          clear hK K hKeep
          try simp only [Act.put, List.setIfInBounds_toArray, List.set_cons_zero, List.set_cons_succ]
          refine wpAnyH_done (by kernel_rfl) ?_ _
          generalize hFW : ((u6.setCell ⟨w.heap.size + 1, 0, none⟩ (.bool s8)).setCell ⟨w.heap.size + 1, 1, none⟩ (.slice A8 m8 k8)) = FX at *
          have hBf := hHeld.1
          go_wp2_with fail
          go_roundw
          case rel =>
            refine ⟨k + 1, s2, A2, m2, k2, s8, A8, m8, k8, by omega, by go_num, HN.out, ?_, ?_, hBf⟩
            · rw [HSQ.out]; exact X6n
            · rw [HSC.out]; exact X7n
          case measure => simp [intOf]; omega
        · go_simp
          refine (HQ.out _).mono ?_
          rintro e u3 ⟨⟨s3, A3, m3, k3, rfl, hf3, Y3⟩, hk3⟩
          have hKeep := Bx.keep2 hHeld hk3
          have L3 := Y3.l64 hq64
          have X6 := X6.below hk3
          have X7 := X7.below hk3
          go_wp2_with fail
          refine hK.out _ _ (by (try dsimp only); exact hKeep) (fun hHeld => ?_)
          clear hK K hKeep
          try simp only [Act.put, List.setIfInBounds_toArray, List.set_cons_zero, List.set_cons_succ]
          refine wpAnyH_ready (rs := [0, 6]) (by kernel_rfl) (by simp) ?_
          refine AllReadyH.cons (o := { dst := some 62, op := _, type := _, pos := _, after := _, guard := _ }) rfl (fun K hK => ?_) (AllReadyH.cons (o := { dst := some 68, op := _, type := _, pos := _, after := _, guard := _ }) rfl (fun K hK => ?_) AllReadyH.nil)
          · have hHd := hHeld
            obtain ⟨x0, x1⟩ := hHd.2.got
            obtain ⟨b1, b2, b3, b4, b5⟩ := id X7.bb
            have hKeep := hHeld
            go_simp
            refine hK.out _ _ (by (try dsimp only); exact hKeep) (fun hHeld => ?_)
            clear hK K hKeep
            try simp only [Act.put, List.setIfInBounds_toArray, List.set_cons_zero, List.set_cons_succ]
            refine wpAnyH_ready (rs := [6]) (by kernel_rfl) (by simp) ?_
            refine AllReadyH.cons (o := { dst := some 68, op := _, type := _, pos := _, after := _, guard := _ }) rfl (fun K hK => ?_) AllReadyH.nil
            go_simp
            refine (HP.out _).mono ?_
            rintro e u4 ⟨⟨s4, A4, m4, k4, rfl, hf4, Y4⟩, hk4⟩
            have hKeep := Bx.keep2 hHeld hk4
            have L4 := Y4.l64 hp64
            have X6 := X6.below hk4
            have X7 := X7.below hk4
            have Y3 := Y3.below hk4
            go_wp2_with fail
            refine hK.out _ _ (by (try dsimp only); exact hKeep) (fun hHeld => ?_)
            clear hK K hKeep
            try simp only [Act.put, List.setIfInBounds_toArray, List.set_cons_zero, List.set_cons_succ]
            refine wpAnyH_ready (rs := [7]) (by kernel_rfl) (by simp) ?_
            refine AllReadyH.cons (o := { dst := some 69, op := _, type := _, pos := _, after := _, guard := _ }) rfl (fun K hK => ?_) AllReadyH.nil
            go_simp
            refine (bmul_any _ _ _ _ _ _ _ _ _ _ _ (by omega) (by omega) Y3 Y4).mono ?_
            rintro e u5 ⟨⟨s5, A5, m5, k5, rfl, hf5, Y5⟩, hk5⟩
            have hKeep := Bx.keep2 hHeld hk5
            have L5 := len_mul Y3 Y4 Y5
            have X6 := X6.below hk5
            have X7 := X7.below hk5
            go_wp2_with fail
            refine hK.out _ _ (by (try dsimp only); exact hKeep) (fun hHeld => ?_)
            clear hK K hKeep
            try simp only [Act.put, List.setIfInBounds_toArray, List.set_cons_zero, List.set_cons_succ]
            refine wpAnyH_ready (rs := [8]) (by kernel_rfl) (by simp) ?_
            refine AllReadyH.cons (o := { dst := some 70, op := _, type := _, pos := _, after := _, guard := _ }) rfl (fun K hK => ?_) AllReadyH.nil
            go_simp
            refine (badd' (by omega) (by omega) X7.at_ Y5).mono ?_
            rintro e u6 ⟨⟨s8, A8, m8, k8, rfl, hf8, Y8⟩, hk8⟩
            have hz1 := hHeld.1.size
            have hgu := hHeld.2.lt
            have hKeep := Bx.keep2 hHeld hk8
            have X6 := X6.below hk8
            have X7 := X7.below hk8
            go_wp2_with fail
            refine hK.out _ _ (by (try dsimp only); exact hKeep) (fun hHeld => ?_)
            clear hK K hKeep
            try simp only [Act.put, List.setIfInBounds_toArray, List.set_cons_zero, List.set_cons_succ]
            refine wpAnyH_ready (rs := [9]) (by kernel_rfl) (by simp) ?_
            refine AllReadyH.cons (o := { dst := none, op := _, type := _, pos := _, after := _, guard := _ }) rfl (fun K hK => ?_) AllReadyH.nil
            have hHd := hHeld
            obtain ⟨x0, x1⟩ := hHd.2.got
            have hF : Fr (w.heap.size + 2) A8 m8 := hf8.le (by omega) (Nat.le_refl _)
            have X7n := X7.put Y8 hF
            have X6n := (X6.set (p := ⟨w.heap.size + 1, 0, none⟩) (by show w.heap.size + 1 < _; omega) (by show w.heap.size + 1 ≠ _; omega) (.bool s8)).set (p := ⟨w.heap.size + 1, 1, none⟩) (by show w.heap.size + 1 < _; omega) (by show w.heap.size + 1 ≠ _; omega) (.slice A8 m8 k8)
            obtain ⟨b1, b2, b3, b4, b5⟩ := id X7.bb
            have hKeep : Below w.heap.size w ((u6.setCell ⟨w.heap.size + 1, 0, none⟩ (.bool s8)).setCell ⟨w.heap.size + 1, 1, none⟩ (.slice A8 m8 k8)) ∧ Fi.Bx ((u6.setCell ⟨w.heap.size + 1, 0, none⟩ (.bool s8)).setCell ⟨w.heap.size + 1, 1, none⟩ (.slice A8 m8 k8)) wr.heap.size ⟨q, p⟩ :=
              ⟨Below.setCell (Below.setCell hHeld.1 (by show w.heap.size ≤ w.heap.size + 1; omega) _) (by show w.heap.size ≤ w.heap.size + 1; omega) _, (hHeld.2.far (by show w.heap.size + 1 ≠ _; omega) _).far (by show w.heap.size + 1 ≠ _; omega) _⟩
            skip
            go_simp
            refine hK.out _ _ (by (try dsimp only); exact hKeep) (fun hHeld => ?_)
            clear hK K hKeep
            try simp only [Act.put, List.setIfInBounds_toArray, List.set_cons_zero, List.set_cons_succ]
            refine wpAnyH_done (by kernel_rfl) ?_ _
            generalize hFW : ((u6.setCell ⟨w.heap.size + 1, 0, none⟩ (.bool s8)).setCell ⟨w.heap.size + 1, 1, none⟩ (.slice A8 m8 k8)) = FX at *
            have hBf := hHeld.1
            go_wp2_with fail
            go_roundw
            case rel =>
              refine ⟨k + 1, s2, A2, m2, k2, s8, A8, m8, k8, by omega, by go_num, HN.out, ?_, ?_, hBf⟩
              · rw [HSQ.out]; exact X6n
              · rw [HSC.out]; exact X7n
            case measure => simp [intOf]; omega
          · go_simp
            refine (HP.out _).mono ?_
            rintro e u4 ⟨⟨s4, A4, m4, k4, rfl, hf4, Y4⟩, hk4⟩
            have hKeep := Bx.keep2 hHeld hk4
            have L4 := Y4.l64 hp64
            have X6 := X6.below hk4
            have X7 := X7.below hk4
            have Y3 := Y3.below hk4
            go_wp2_with fail
            refine hK.out _ _ (by (try dsimp only); exact hKeep) (fun hHeld => ?_)
            clear hK K hKeep
            try simp only [Act.put, List.setIfInBounds_toArray, List.set_cons_zero, List.set_cons_succ]
            refine wpAnyH_ready (rs := [0, 7]) (by kernel_rfl) (by simp) ?_
            refine AllReadyH.cons (o := { dst := some 62, op := _, type := _, pos := _, after := _, guard := _ }) rfl (fun K hK => ?_) (AllReadyH.cons (o := { dst := some 69, op := _, type := _, pos := _, after := _, guard := _ }) rfl (fun K hK => ?_) AllReadyH.nil)
            · have hHd := hHeld
              obtain ⟨x0, x1⟩ := hHd.2.got
              obtain ⟨b1, b2, b3, b4, b5⟩ := id X7.bb
              have hKeep := hHeld
              go_simp
              refine hK.out _ _ (by (try dsimp only); exact hKeep) (fun hHeld => ?_)
              clear hK K hKeep
              try simp only [Act.put, List.setIfInBounds_toArray, List.set_cons_zero, List.set_cons_succ]
              refine wpAnyH_ready (rs := [7]) (by kernel_rfl) (by simp) ?_
              refine AllReadyH.cons (o := { dst := some 69, op := _, type := _, pos := _, after := _, guard := _ }) rfl (fun K hK => ?_) AllReadyH.nil
              go_simp
              refine (bmul_any _ _ _ _ _ _ _ _ _ _ _ (by omega) (by omega) Y3 Y4).mono ?_
              rintro e u5 ⟨⟨s5, A5, m5, k5, rfl, hf5, Y5⟩, hk5⟩
              have hKeep := Bx.keep2 hHeld hk5
              have L5 := len_mul Y3 Y4 Y5
              have X6 := X6.below hk5
              have X7 := X7.below hk5
              go_wp2_with fail
              refine hK.out _ _ (by (try dsimp only); exact hKeep) (fun hHeld => ?_)
              clear hK K hKeep
              try simp only [Act.put, List.setIfInBounds_toArray, List.set_cons_zero, List.set_cons_succ]
              refine wpAnyH_ready (rs := [8]) (by kernel_rfl) (by simp) ?_
              refine AllReadyH.cons (o := { dst := some 70, op := _, type := _, pos := _, after := _, guard := _ }) rfl (fun K hK => ?_) AllReadyH.nil
              go_simp
              refine (badd' (by omega) (by omega) X7.at_ Y5).mono ?_
              rintro e u6 ⟨⟨s8, A8, m8, k8, rfl, hf8, Y8⟩, hk8⟩
              have hz1 := hHeld.1.size
              have hgu := hHeld.2.lt
              have hKeep := Bx.keep2 hHeld hk8
              have X6 := X6.below hk8
              have X7 := X7.below hk8
              go_wp2_with fail
              refine hK.out _ _ (by (try dsimp only); exact hKeep) (fun hHeld => ?_)
              clear hK K hKeep
              try simp only [Act.put, List.setIfInBounds_toArray, List.set_cons_zero, List.set_cons_succ]
              refine wpAnyH_ready (rs := [9]) (by kernel_rfl) (by simp) ?_
              refine AllReadyH.cons (o := { dst := none, op := _, type := _, pos := _, after := _, guard := _ }) rfl (fun K hK => ?_) AllReadyH.nil
              have hHd := hHeld
              obtain ⟨x0, x1⟩ := hHd.2.got
              have hF : Fr (w.heap.size + 2) A8 m8 := hf8.le (by omega) (Nat.le_refl _)
              have X7n := X7.put Y8 hF
              have X6n := (X6.set (p := ⟨w.heap.size + 1, 0, none⟩) (by show w.heap.size + 1 < _; omega) (by show w.heap.size + 1 ≠ _; omega) (.bool s8)).set (p := ⟨w.heap.size + 1, 1, none⟩) (by show w.heap.size + 1 < _; omega) (by show w.heap.size + 1 ≠ _; omega) (.slice A8 m8 k8)
              obtain ⟨b1, b2, b3, b4, b5⟩ := id X7.bb
              have hKeep : Below w.heap.size w ((u6.setCell ⟨w.heap.size + 1, 0, none⟩ (.bool s8)).setCell ⟨w.heap.size + 1, 1, none⟩ (.slice A8 m8 k8)) ∧ Fi.Bx ((u6.setCell ⟨w.heap.size + 1, 0, none⟩ (.bool s8)).setCell ⟨w.heap.size + 1, 1, none⟩ (.slice A8 m8 k8)) wr.heap.size ⟨q, p⟩ :=
                ⟨Below.setCell (Below.setCell hHeld.1 (by show w.heap.size ≤ w.heap.size + 1; omega) _) (by show w.heap.size ≤ w.heap.size + 1; omega) _, (hHeld.2.far (by show w.heap.size + 1 ≠ _; omega) _).far (by show w.heap.size + 1 ≠ _; omega) _⟩
              skip
              go_simp
              refine hK.out _ _ (by (try dsimp only); exact hKeep) (fun hHeld => ?_)
              clear hK K hKeep
              try simp only [Act.put, List.setIfInBounds_toArray, List.set_cons_zero, List.set_cons_succ]
              refine wpAnyH_done (by kernel_rfl) ?_ _
              generalize hFW : ((u6.setCell ⟨w.heap.size + 1, 0, none⟩ (.bool s8)).setCell ⟨w.heap.size + 1, 1, none⟩ (.slice A8 m8 k8)) = FX at *
              have hBf := hHeld.1
              go_wp2_with fail
              go_roundw
              case rel =>
                refine ⟨k + 1, s2, A2, m2, k2, s8, A8, m8, k8, by omega, by go_num, HN.out, ?_, ?_, hBf⟩
                · rw [HSQ.out]; exact X6n
                · rw [HSC.out]; exact X7n
              case measure => simp [intOf]; omega
            · go_simp
              refine (bmul_any _ _ _ _ _ _ _ _ _ _ _ (by omega) (by omega) Y3 Y4).mono ?_
              rintro e u5 ⟨⟨s5, A5, m5, k5, rfl, hf5, Y5⟩, hk5⟩
              have hKeep := Bx.keep2 hHeld hk5
              have L5 := len_mul Y3 Y4 Y5
              have X6 := X6.below hk5
              have X7 := X7.below hk5
              go_wp2_with fail
              refine hK.out _ _ (by (try dsimp only); exact hKeep) (fun hHeld => ?_)
              clear hK K hKeep
              try simp only [Act.put, List.setIfInBounds_toArray, List.set_cons_zero, List.set_cons_succ]
              refine wpAnyH_ready (rs := [0]) (by kernel_rfl) (by simp) ?_
              refine AllReadyH.cons (o := { dst := some 62, op := _, type := _, pos := _, after := _, guard := _ }) rfl (fun K hK => ?_) AllReadyH.nil
              have hHd := hHeld
              obtain ⟨x0, x1⟩ := hHd.2.got
              obtain ⟨b1, b2, b3, b4, b5⟩ := id X7.bb
              have hKeep := hHeld
              go_simp
              refine hK.out _ _ (by (try dsimp only); exact hKeep) (fun hHeld => ?_)
              clear hK K hKeep
              try simp only [Act.put, List.setIfInBounds_toArray, List.set_cons_zero, List.set_cons_succ]
              refine wpAnyH_ready (rs := [8]) (by kernel_rfl) (by simp) ?_
              refine AllReadyH.cons (o := { dst := some 70, op := _, type := _, pos := _, after := _, guard := _ }) rfl (fun K hK => ?_) AllReadyH.nil
              go_simp
              refine (badd' (by omega) (by omega) X7.at_ Y5).mono ?_
              rintro e u6 ⟨⟨s8, A8, m8, k8, rfl, hf8, Y8⟩, hk8⟩
              have hz1 := hHeld.1.size
              have hgu := hHeld.2.lt
              have hKeep := Bx.keep2 hHeld hk8
              have X6 := X6.below hk8
              have X7 := X7.below hk8
              go_wp2_with fail
              refine hK.out _ _ (by (try dsimp only); exact hKeep) (fun hHeld => ?_)
              clear hK K hKeep
              try simp only [Act.put, List.setIfInBounds_toArray, List.set_cons_zero, List.set_cons_succ]
              refine wpAnyH_ready (rs := [9]) (by kernel_rfl) (by simp) ?_
              refine AllReadyH.cons (o := { dst := none, op := _, type := _, pos := _, after := _, guard := _ }) rfl (fun K hK => ?_) AllReadyH.nil
              have hHd := hHeld
              obtain ⟨x0, x1⟩ := hHd.2.got
              have hF : Fr (w.heap.size + 2) A8 m8 := hf8.le (by omega) (Nat.le_refl _)
              have X7n := X7.put Y8 hF
              have X6n := (X6.set (p := ⟨w.heap.size + 1, 0, none⟩) (by show w.heap.size + 1 < _; omega) (by show w.heap.size + 1 ≠ _; omega) (.bool s8)).set (p := ⟨w.heap.size + 1, 1, none⟩) (by show w.heap.size + 1 < _; omega) (by show w.heap.size + 1 ≠ _; omega) (.slice A8 m8 k8)
              obtain ⟨b1, b2, b3, b4, b5⟩ := id X7.bb
              have hKeep : Below w.heap.size w ((u6.setCell ⟨w.heap.size + 1, 0, none⟩ (.bool s8)).setCell ⟨w.heap.size + 1, 1, none⟩ (.slice A8 m8 k8)) ∧ Fi.Bx ((u6.setCell ⟨w.heap.size + 1, 0, none⟩ (.bool s8)).setCell ⟨w.heap.size + 1, 1, none⟩ (.slice A8 m8 k8)) wr.heap.size ⟨q, p⟩ :=
                ⟨Below.setCell (Below.setCell hHeld.1 (by show w.heap.size ≤ w.heap.size + 1; omega) _) (by show w.heap.size ≤ w.heap.size + 1; omega) _, (hHeld.2.far (by show w.heap.size + 1 ≠ _; omega) _).far (by show w.heap.size + 1 ≠ _; omega) _⟩
              skip
              go_simp
              refine hK.out _ _ (by (try dsimp only); exact hKeep) (fun hHeld => ?_)
              clear hK K hKeep
              try simp only [Act.put, List.setIfInBounds_toArray, List.set_cons_zero, List.set_cons_succ]
              refine wpAnyH_done (by kernel_rfl) ?_ _
              generalize hFW : ((u6.setCell ⟨w.heap.size + 1, 0, none⟩ (.bool s8)).setCell ⟨w.heap.size + 1, 1, none⟩ (.slice A8 m8 k8)) = FX at *
              have hBf := hHeld.1
              go_wp2_with fail
              go_roundw
              case rel =>
                refine ⟨k + 1, s2, A2, m2, k2, s8, A8, m8, k8, by omega, by go_num, HN.out, ?_, ?_, hBf⟩
                · rw [HSQ.out]; exact X6n
                · rw [HSC.out]; exact X7n
              case measure => simp [intOf]; omega
      · go_simp
        refine (HQ.out _).mono ?_
        rintro e u1 ⟨⟨s1, A1, m1, k1, rfl, hf1, Y1⟩, hk1⟩
        have hKeep := Bx.keep2 hHeld hk1
        have L1 := Y1.l64 hq64
        have X6 := X6.below hk1
        have X7 := X7.below hk1
        go_wp2_with fail
        refine hK.out _ _ (by (try dsimp only); exact hKeep) (fun hHeld => ?_)
        clear hK K hKeep
        try simp only [Act.put, List.setIfInBounds_toArray, List.set_cons_zero, List.set_cons_succ]
        refine wpAnyH_ready (rs := [0]) (by kernel_rfl) (by simp) ?_
        refine AllReadyH.cons (o := { dst := some 57, op := _, type := _, pos := _, after := _, guard := _ }) rfl (fun K hK => ?_) AllReadyH.nil
        have hHd := hHeld
        obtain ⟨x0, x1⟩ := hHd.2.got
        obtain ⟨b1, b2, b3, b4, b5⟩ := id X6.bb
        have hKeep := hHeld
        go_simp
        refine hK.out _ _ (by (try dsimp only); exact hKeep) (fun hHeld => ?_)
        clear hK K hKeep
        try simp only [Act.put, List.setIfInBounds_toArray, List.set_cons_zero, List.set_cons_succ]
        refine wpAnyH_ready (rs := [4]) (by kernel_rfl) (by simp) ?_
        refine AllReadyH.cons (o := { dst := some 61, op := _, type := _, pos := _, after := _, guard := _ }) rfl (fun K hK => ?_) AllReadyH.nil
        go_simp
        refine (badd' (by omega) (by omega) X6.at_ Y1).mono ?_
        rintro e u2 ⟨⟨s2, A2, m2, k2, rfl, hf2, Y2⟩, hk2⟩
        have hz1 := hHeld.1.size
        have hgu := hHeld.2.lt
        have hKeep := Bx.keep2 hHeld hk2
        have X6 := X6.below hk2
        have X7 := X7.below hk2
        go_wp2_with fail
        refine hK.out _ _ (by (try dsimp only); exact hKeep) (fun hHeld => ?_)
        clear hK K hKeep
        try simp only [Act.put, List.setIfInBounds_toArray, List.set_cons_zero, List.set_cons_succ]
        refine wpAnyH_ready (rs := [5]) (by kernel_rfl) (by simp) ?_
        refine AllReadyH.cons (o := { dst := none, op := _, type := _, pos := _, after := _, guard := _ }) rfl (fun K hK => ?_) AllReadyH.nil
        have hHd := hHeld
        obtain ⟨x0, x1⟩ := hHd.2.got
        have hF : Fr (w.heap.size + 2) A2 m2 := hf2.le (by omega) (Nat.le_refl _)
        have X6n := X6.put Y2 hF
        have X7n := (X7.set (p := ⟨w.heap.size, 0, none⟩) (by show w.heap.size < _; omega) (by show w.heap.size ≠ _; omega) (.bool s2)).set (p := ⟨w.heap.size, 1, none⟩) (by show w.heap.size < _; omega) (by show w.heap.size ≠ _; omega) (.slice A2 m2 k2)
        obtain ⟨b1, b2, b3, b4, b5⟩ := id X6.bb
        have hKeep : Below w.heap.size w ((u2.setCell ⟨w.heap.size, 0, none⟩ (.bool s2)).setCell ⟨w.heap.size, 1, none⟩ (.slice A2 m2 k2)) ∧ Fi.Bx ((u2.setCell ⟨w.heap.size, 0, none⟩ (.bool s2)).setCell ⟨w.heap.size, 1, none⟩ (.slice A2 m2 k2)) wr.heap.size ⟨q, p⟩ :=
          ⟨Below.setCell (Below.setCell hHeld.1 (by show w.heap.size ≤ w.heap.size; omega) _) (by show w.heap.size ≤ w.heap.size; omega) _, (hHeld.2.far (by show w.heap.size ≠ _; omega) _).far (by show w.heap.size ≠ _; omega) _⟩
        skip
        go_simp
        refine hK.out _ _ (by (try dsimp only); exact hKeep) (fun hHeld => ?_)
        clear hK K hKeep
        try simp only [Act.put, List.setIfInBounds_toArray, List.set_cons_zero, List.set_cons_succ]
        refine wpAnyH_done (by kernel_rfl) ?_ _
        generalize hFW : ((u2.setCell ⟨w.heap.size, 0, none⟩ (.bool s2)).setCell ⟨w.heap.size, 1, none⟩ (.slice A2 m2 k2)) = FW at *
        have X6 := X6n.drew
        have X7 := X7n.drew
        clear X6n X7n b1 b2 b3 b4 b5 Y1 Y2 hFW
        go_wp2_with fail
        refine wp_region_held_drew (S := (fun V => Below w.heap.size w V ∧ Fi.Bx V wr.heap.size ⟨q, p⟩)) (by kernel_rfl) (by exact ⟨hHeld.1.drew, hHeld.2.below ⟨rfl, rfl, rfl, Nat.le_refl _, fun _ _ => rfl⟩⟩) (fun hHeld => ?_)
        refine wpAnyH_take (i := 1) (oi := { dst := some 63, op := _, type := _, pos := _, after := _, guard := _ }) (v := ?_) rfl (by kernel_rfl) (by kernel_rfl) (by kernel_rfl) (fun _ _ _ h => h) (Or.inl ⟨by rfl, ?_⟩) hHeld ?_
        rotate_left
        · (intro w hSw; obtain ⟨x0, x1⟩ := hSw.2.got; go_simp <;> with_reducible rfl)
        try simp only [Act.put, List.setIfInBounds_toArray, List.set_cons_zero, List.set_cons_succ]
        refine wpAnyH_take (i := 2) (oi := { dst := some 64, op := _, type := _, pos := _, after := _, guard := _ }) (v := ?_) rfl (by kernel_rfl) (by kernel_rfl) (by kernel_rfl) (fun _ _ _ h => h) (Or.inl ⟨by rfl, ?_⟩) hHeld ?_
        rotate_left
        · (intro w hSw; obtain ⟨x0, x1⟩ := hSw.2.got; go_simp <;> with_reducible rfl)
        try simp only [Act.put, List.setIfInBounds_toArray, List.set_cons_zero, List.set_cons_succ]
        refine wpAnyH_take (i := 4) (oi := { dst := some 66, op := _, type := _, pos := _, after := _, guard := _ }) (v := ?_) rfl (by kernel_rfl) (by kernel_rfl) (by kernel_rfl) (fun _ _ _ h => h) (Or.inl ⟨by rfl, ?_⟩) hHeld ?_
        rotate_left
        · (intro w hSw; obtain ⟨x0, x1⟩ := hSw.2.got; go_simp <;> with_reducible rfl)
        try simp only [Act.put, List.setIfInBounds_toArray, List.set_cons_zero, List.set_cons_succ]
        refine wpAnyH_take (i := 5) (oi := { dst := some 67, op := _, type := _, pos := _, after := _, guard := _ }) (v := ?_) rfl (by kernel_rfl) (by kernel_rfl) (by kernel_rfl) (fun _ _ _ h => h) (Or.inl ⟨by rfl, ?_⟩) hHeld ?_
        rotate_left
        · (intro w hSw; obtain ⟨x0, x1⟩ := hSw.2.got; go_simp <;> with_reducible rfl)
        try simp only [Act.put, List.setIfInBounds_toArray, List.set_cons_zero, List.set_cons_succ]
        refine wpAnyH_ready (rs := [0, 3]) (by kernel_rfl) (by simp) ?_
        refine AllReadyH.cons (o := { dst := some 62, op := _, type := _, pos := _, after := _, guard := _ }) rfl (fun K hK => ?_) (AllReadyH.cons (o := { dst := some 65, op := _, type := _, pos := _, after := _, guard := _ }) rfl (fun K hK => ?_) AllReadyH.nil)
        · have hHd := hHeld
          obtain ⟨x0, x1⟩ := hHd.2.got
          obtain ⟨b1, b2, b3, b4, b5⟩ := id X7.bb
          have hKeep := hHeld
          go_simp
          refine hK.out _ _ (by (try dsimp only); exact hKeep) (fun hHeld => ?_)
          clear hK K hKeep
          try simp only [Act.put, List.setIfInBounds_toArray, List.set_cons_zero, List.set_cons_succ]
          refine wpAnyH_ready (rs := [3]) (by kernel_rfl) (by simp) ?_
          refine AllReadyH.cons (o := { dst := some 65, op := _, type := _, pos := _, after := _, guard := _ }) rfl (fun K hK => ?_) AllReadyH.nil
          go_simp
          refine (HQ.out _).mono ?_
          rintro e u3 ⟨⟨s3, A3, m3, k3, rfl, hf3, Y3⟩, hk3⟩
          have hKeep := Bx.keep2 hHeld hk3
          have L3 := Y3.l64 hq64
          have X6 := X6.below hk3
          have X7 := X7.below hk3
          go_wp2_with fail
          refine hK.out _ _ (by (try dsimp only); exact hKeep) (fun hHeld => ?_)
          clear hK K hKeep
          try simp only [Act.put, List.setIfInBounds_toArray, List.set_cons_zero, List.set_cons_succ]
          refine wpAnyH_ready (rs := [6]) (by kernel_rfl) (by simp) ?_
          refine AllReadyH.cons (o := { dst := some 68, op := _, type := _, pos := _, after := _, guard := _ }) rfl (fun K hK => ?_) AllReadyH.nil
          go_simp
          refine (HP.out _).mono ?_
          rintro e u4 ⟨⟨s4, A4, m4, k4, rfl, hf4, Y4⟩, hk4⟩
          have hKeep := Bx.keep2 hHeld hk4
          have L4 := Y4.l64 hp64
          have X6 := X6.below hk4
          have X7 := X7.below hk4
          have Y3 := Y3.below hk4
          go_wp2_with fail
          refine hK.out _ _ (by (try dsimp only); exact hKeep) (fun hHeld => ?_)
          clear hK K hKeep
          try simp only [Act.put, List.setIfInBounds_toArray, List.set_cons_zero, List.set_cons_succ]
          refine wpAnyH_ready (rs := [7]) (by kernel_rfl) (by simp) ?_
          refine AllReadyH.cons (o := { dst := some 69, op := _, type := _, pos := _, after := _, guard := _ }) rfl (fun K hK => ?_) AllReadyH.nil
          go_simp
          refine (bmul_any _ _ _ _ _ _ _ _ _ _ _ (by omega) (by omega) Y3 Y4).mono ?_
          rintro e u5 ⟨⟨s5, A5, m5, k5, rfl, hf5, Y5⟩, hk5⟩
          have hKeep := Bx.keep2 hHeld hk5
          have L5 := len_mul Y3 Y4 Y5
          have X6 := X6.below hk5
          have X7 := X7.below hk5
          go_wp2_with fail
          refine hK.out _ _ (by (try dsimp only); exact hKeep) (fun hHeld => ?_)
          clear hK K hKeep
          try simp only [Act.put, List.setIfInBounds_toArray, List.set_cons_zero, List.set_cons_succ]
          refine wpAnyH_ready (rs := [8]) (by kernel_rfl) (by simp) ?_
          refine AllReadyH.cons (o := { dst := some 70, op := _, type := _, pos := _, after := _, guard := _ }) rfl (fun K hK => ?_) AllReadyH.nil
          go_simp
          refine (badd' (by omega) (by omega) X7.at_ Y5).mono ?_
          rintro e u6 ⟨⟨s8, A8, m8, k8, rfl, hf8, Y8⟩, hk8⟩
          have hz1 := hHeld.1.size
          have hgu := hHeld.2.lt
          have hKeep := Bx.keep2 hHeld hk8
          have X6 := X6.below hk8
          have X7 := X7.below hk8
          go_wp2_with fail
          refine hK.out _ _ (by (try dsimp only); exact hKeep) (fun hHeld => ?_)
          clear hK K hKeep
          try simp only [Act.put, List.setIfInBounds_toArray, List.set_cons_zero, List.set_cons_succ]
          refine wpAnyH_ready (rs := [9]) (by kernel_rfl) (by simp) ?_
          refine AllReadyH.cons (o := { dst := none, op := _, type := _, pos := _, after := _, guard := _ }) rfl (fun K hK => ?_) AllReadyH.nil
          have hHd := hHeld
          obtain ⟨x0, x1⟩ := hHd.2.got
          have hF : Fr (w.heap.size + 2) A8 m8 := hf8.le (by omega) (Nat.le_refl _)
          have X7n := X7.put Y8 hF
          have X6n := (X6.set (p := ⟨w.heap.size + 1, 0, none⟩) (by show w.heap.size + 1 < _; omega) (by show w.heap.size + 1 ≠ _; omega) (.bool s8)).set (p := ⟨w.heap.size + 1, 1, none⟩) (by show w.heap.size + 1 < _; omega) (by show w.heap.size + 1 ≠ _; omega) (.slice A8 m8 k8)
          obtain ⟨b1, b2, b3, b4, b5⟩ := id X7.bb
          have hKeep : Below w.heap.size w ((u6.setCell ⟨w.heap.size + 1, 0, none⟩ (.bool s8)).setCell ⟨w.heap.size + 1, 1, none⟩ (.slice A8 m8 k8)) ∧ Fi.Bx ((u6.setCell ⟨w.heap.size + 1, 0, none⟩ (.bool s8)).setCell ⟨w.heap.size + 1, 1, none⟩ (.slice A8 m8 k8)) wr.heap.size ⟨q, p⟩ :=
            ⟨Below.setCell (Below.setCell hHeld.1 (by show w.heap.size ≤ w.heap.size + 1; omega) _) (by show w.heap.size ≤ w.heap.size + 1; omega) _, (hHeld.2.far (by show w.heap.size + 1 ≠ _; omega) _).far (by show w.heap.size + 1 ≠ _; omega) _⟩
          skip
          go_simp
          refine hK.out _ _ (by (try dsimp only); exact hKeep) (fun hHeld => ?_)
          clear hK K hKeep
          try simp only [Act.put, List.setIfInBounds_toArray, List.set_cons_zero, List.set_cons_succ]
          refine wpAnyH_done (by kernel_rfl) ?_ _
          generalize hFW : ((u6.setCell ⟨w.heap.size + 1, 0, none⟩ (.bool s8)).setCell ⟨w.heap.size + 1, 1, none⟩ (.slice A8 m8 k8)) = FX at *
          have hBf := hHeld.1
          go_wp2_with fail
          go_roundw
          case rel =>
            refine ⟨k + 1, s2, A2, m2, k2, s8, A8, m8, k8, by omega, by go_num, HN.out, ?_, ?_, hBf⟩
            · rw [HSQ.out]; exact X6n
            · rw [HSC.out]; exact X7n
          case measure => simp [intOf]; omega
        · go_simp
          refine (HQ.out _).mono ?_
          rintro e u3 ⟨⟨s3, A3, m3, k3, rfl, hf3, Y3⟩, hk3⟩
          have hKeep := Bx.keep2 hHeld hk3
          have L3 := Y3.l64 hq64
          have X6 := X6.below hk3
          have X7 := X7.below hk3
          go_wp2_with fail
          refine hK.out _ _ (by (try dsimp only); exact hKeep) (fun hHeld => ?_)
          clear hK K hKeep
          try simp only [Act.put, List.setIfInBounds_toArray, List.set_cons_zero, List.set_cons_succ]
          refine wpAnyH_ready (rs := [0, 6]) (by kernel_rfl) (by simp) ?_
          refine AllReadyH.cons (o := { dst := some 62, op := _, type := _, pos := _, after := _, guard := _ }) rfl (fun K hK => ?_) (AllReadyH.cons (o := { dst := some 68, op := _, type := _, pos := _, after := _, guard := _ }) rfl (fun K hK => ?_) AllReadyH.nil)
          · have hHd := hHeld
            obtain ⟨x0, x1⟩ := hHd.2.got
            obtain ⟨b1, b2, b3, b4, b5⟩ := id X7.bb
            have hKeep := hHeld
            go_simp
            refine hK.out _ _ (by (try dsimp only); exact hKeep) (fun hHeld => ?_)
            clear hK K hKeep
            try simp only [Act.put, List.setIfInBounds_toArray, List.set_cons_zero, List.set_cons_succ]
            refine wpAnyH_ready (rs := [6]) (by kernel_rfl) (by simp) ?_
            refine AllReadyH.cons (o := { dst := some 68, op := _, type := _, pos := _, after := _, guard := _ }) rfl (fun K hK => ?_) AllReadyH.nil
            go_simp
            refine (HP.out _).mono ?_
            rintro e u4 ⟨⟨s4, A4, m4, k4, rfl, hf4, Y4⟩, hk4⟩
            have hKeep := Bx.keep2 hHeld hk4
            have L4 := Y4.l64 hp64
            have X6 := X6.below hk4
            have X7 := X7.below hk4
            have Y3 := Y3.below hk4
            go_wp2_with fail
            refine hK.out _ _ (by (try dsimp only); exact hKeep) (fun hHeld => ?_)
            clear hK K hKeep
            try simp only [Act.put, List.setIfInBounds_toArray, List.set_cons_zero, List.set_cons_succ]
            refine wpAnyH_ready (rs := [7]) (by kernel_rfl) (by simp) ?_
            refine AllReadyH.cons (o := { dst := some 69, op := _, type := _, pos := _, after := _, guard := _ }) rfl (fun K hK => ?_) AllReadyH.nil
            go_simp
            refine (bmul_any _ _ _ _ _ _ _ _ _ _ _ (by omega) (by omega) Y3 Y4).mono ?_
            rintro e u5 ⟨⟨s5, A5, m5, k5, rfl, hf5, Y5⟩, hk5⟩
            have hKeep := Bx.keep2 hHeld hk5
            have L5 := len_mul Y3 Y4 Y5
            have X6 := X6.below hk5
            have X7 := X7.below hk5
            go_wp2_with fail
            refine hK.out _ _ (by (try dsimp only); exact hKeep) (fun hHeld => ?_)
            clear hK K hKeep
            try simp only [Act.put, List.setIfInBounds_toArray, List.set_cons_zero, List.set_cons_succ]
            refine wpAnyH_ready (rs := [8]) (by kernel_rfl) (by simp) ?_
            refine AllReadyH.cons (o := { dst := some 70, op := _, type := _, pos := _, after := _, guard := _ }) rfl (fun K hK => ?_) AllReadyH.nil
            go_simp
            refine (badd' (by omega) (by omega) X7.at_ Y5).mono ?_
            rintro e u6 ⟨⟨s8, A8, m8, k8, rfl, hf8, Y8⟩, hk8⟩
            have hz1 := hHeld.1.size
            have hgu := hHeld.2.lt
            have hKeep := Bx.keep2 hHeld hk8
            have X6 := X6.below hk8
            have X7 := X7.below hk8
            go_wp2_with fail
            refine hK.out _ _ (by (try dsimp only); exact hKeep) (fun hHeld => ?_)
            clear hK K hKeep
            try simp only [Act.put, List.setIfInBounds_toArray, List.set_cons_zero, List.set_cons_succ]
            refine wpAnyH_ready (rs := [9]) (by kernel_rfl) (by simp) ?_
            refine AllReadyH.cons (o := { dst := none, op := _, type := _, pos := _, after := _, guard := _ }) rfl (fun K hK => ?_) AllReadyH.nil
            have hHd := hHeld
            obtain ⟨x0, x1⟩ := hHd.2.got
            have hF : Fr (w.heap.size + 2) A8 m8 := hf8.le (by omega) (Nat.le_refl _)
            have X7n := X7.put Y8 hF
            have X6n := (X6.set (p := ⟨w.heap.size + 1, 0, none⟩) (by show w.heap.size + 1 < _; omega) (by show w.heap.size + 1 ≠ _; omega) (.bool s8)).set (p := ⟨w.heap.size + 1, 1, none⟩) (by show w.heap.size + 1 < _; omega) (by show w.heap.size + 1 ≠ _; omega) (.slice A8 m8 k8)
            obtain ⟨b1, b2, b3, b4, b5⟩ := id X7.bb
            have hKeep : Below w.heap.size w ((u6.setCell ⟨w.heap.size + 1, 0, none⟩ (.bool s8)).setCell ⟨w.heap.size + 1, 1, none⟩ (.slice A8 m8 k8)) ∧ Fi.Bx ((u6.setCell ⟨w.heap.size + 1, 0, none⟩ (.bool s8)).setCell ⟨w.heap.size + 1, 1, none⟩ (.slice A8 m8 k8)) wr.heap.size ⟨q, p⟩ :=
              ⟨Below.setCell (Below.setCell hHeld.1 (by show w.heap.size ≤ w.heap.size + 1; omega) _) (by show w.heap.size ≤ w.heap.size + 1; omega) _, (hHeld.2.far (by show w.heap.size + 1 ≠ _; omega) _).far (by show w.heap.size + 1 ≠ _; omega) _⟩
            skip
            go_simp
            refine hK.out _ _ (by (try dsimp only); exact hKeep) (fun hHeld => ?_)
            clear hK K hKeep
            try simp only [Act.put, List.setIfInBounds_toArray, List.set_cons_zero, List.set_cons_succ]
            refine wpAnyH_done (by kernel_rfl) ?_ _
            generalize hFW : ((u6.setCell ⟨w.heap.size + 1, 0, none⟩ (.bool s8)).setCell ⟨w.heap.size + 1, 1, none⟩ (.slice A8 m8 k8)) = FX at *
            have hBf := hHeld.1
            go_wp2_with fail
            go_roundw
            case rel =>
              refine ⟨k + 1, s2, A2, m2, k2, s8, A8, m8, k8, by omega, by go_num, HN.out, ?_, ?_, hBf⟩
              · rw [HSQ.out]; exact X6n
              · rw [HSC.out]; exact X7n
            case measure => simp [intOf]; omega
          · go_simp
            refine (HP.out _).mono ?_
            rintro e u4 ⟨⟨s4, A4, m4, k4, rfl, hf4, Y4⟩, hk4⟩
            have hKeep := Bx.keep2 hHeld hk4
            have L4 := Y4.l64 hp64
            have X6 := X6.below hk4
            have X7 := X7.below hk4
            have Y3 := Y3.below hk4
            go_wp2_with fail
            refine hK.out _ _ (by (try dsimp only); exact hKeep) (fun hHeld => ?_)
            clear hK K hKeep
            try simp only [Act.put, List.setIfInBounds_toArray, List.set_cons_zero, List.set_cons_succ]
            refine wpAnyH_ready (rs := [0, 7]) (by kernel_rfl) (by simp) ?_
            refine AllReadyH.cons (o := { dst := some 62, op := _, type := _, pos := _, after := _, guard := _ }) rfl (fun K hK => ?_) (AllReadyH.cons (o := { dst := some 69, op := _, type := _, pos := _, after := _, guard := _ }) rfl (fun K hK => ?_) AllReadyH.nil)
            · have hHd := hHeld
              obtain ⟨x0, x1⟩ := hHd.2.got
              obtain ⟨b1, b2, b3, b4, b5⟩ := id X7.bb
              have hKeep := hHeld
              go_simp
              refine hK.out _ _ (by (try dsimp only); exact hKeep) (fun hHeld => ?_)
              clear hK K hKeep
              try simp only [Act.put, List.setIfInBounds_toArray, List.set_cons_zero, List.set_cons_succ]
              refine wpAnyH_ready (rs := [7]) (by kernel_rfl) (by simp) ?_
              refine AllReadyH.cons (o := { dst := some 69, op := _, type := _, pos := _, after := _, guard := _ }) rfl (fun K hK => ?_) AllReadyH.nil
              go_simp
              refine (bmul_any _ _ _ _ _ _ _ _ _ _ _ (by omega) (by omega) Y3 Y4).mono ?_
              rintro e u5 ⟨⟨s5, A5, m5, k5, rfl, hf5, Y5⟩, hk5⟩
              have hKeep := Bx.keep2 hHeld hk5
              have L5 := len_mul Y3 Y4 Y5
              have X6 := X6.below hk5
              have X7 := X7.below hk5
              go_wp2_with fail
              refine hK.out _ _ (by (try dsimp only); exact hKeep) (fun hHeld => ?_)
              clear hK K hKeep
              try simp only [Act.put, List.setIfInBounds_toArray, List.set_cons_zero, List.set_cons_succ]
              refine wpAnyH_ready (rs := [8]) (by kernel_rfl) (by simp) ?_
              refine AllReadyH.cons (o := { dst := some 70, op := _, type := _, pos := _, after := _, guard := _ }) rfl (fun K hK => ?_) AllReadyH.nil
              go_simp
              refine (badd' (by omega) (by omega) X7.at_ Y5).mono ?_
              rintro e u6 ⟨⟨s8, A8, m8, k8, rfl, hf8, Y8⟩, hk8⟩
              have hz1 := hHeld.1.size
              have hgu := hHeld.2.lt
              have hKeep := Bx.keep2 hHeld hk8
              have X6 := X6.below hk8
              have X7 := X7.below hk8
              go_wp2_with fail
              refine hK.out _ _ (by (try dsimp only); exact hKeep) (fun hHeld => ?_)
              clear hK K hKeep
              try simp only [Act.put, List.setIfInBounds_toArray, List.set_cons_zero, List.set_cons_succ]
              refine wpAnyH_ready (rs := [9]) (by kernel_rfl) (by simp) ?_
              refine AllReadyH.cons (o := { dst := none, op := _, type := _, pos := _, after := _, guard := _ }) rfl (fun K hK => ?_) AllReadyH.nil
              have hHd := hHeld
              obtain ⟨x0, x1⟩ := hHd.2.got
              have hF : Fr (w.heap.size + 2) A8 m8 := hf8.le (by omega) (Nat.le_refl _)
              have X7n := X7.put Y8 hF
              have X6n := (X6.set (p := ⟨w.heap.size + 1, 0, none⟩) (by show w.heap.size + 1 < _; omega) (by show w.heap.size + 1 ≠ _; omega) (.bool s8)).set (p := ⟨w.heap.size + 1, 1, none⟩) (by show w.heap.size + 1 < _; omega) (by show w.heap.size + 1 ≠ _; omega) (.slice A8 m8 k8)
              obtain ⟨b1, b2, b3, b4, b5⟩ := id X7.bb
              have hKeep : Below w.heap.size w ((u6.setCell ⟨w.heap.size + 1, 0, none⟩ (.bool s8)).setCell ⟨w.heap.size + 1, 1, none⟩ (.slice A8 m8 k8)) ∧ Fi.Bx ((u6.setCell ⟨w.heap.size + 1, 0, none⟩ (.bool s8)).setCell ⟨w.heap.size + 1, 1, none⟩ (.slice A8 m8 k8)) wr.heap.size ⟨q, p⟩ :=
                ⟨Below.setCell (Below.setCell hHeld.1 (by show w.heap.size ≤ w.heap.size + 1; omega) _) (by show w.heap.size ≤ w.heap.size + 1; omega) _, (hHeld.2.far (by show w.heap.size + 1 ≠ _; omega) _).far (by show w.heap.size + 1 ≠ _; omega) _⟩
              skip
              go_simp
              refine hK.out _ _ (by (try dsimp only); exact hKeep) (fun hHeld => ?_)
              clear hK K hKeep
              try simp only [Act.put, List.setIfInBounds_toArray, List.set_cons_zero, List.set_cons_succ]
              refine wpAnyH_done (by kernel_rfl) ?_ _
              generalize hFW : ((u6.setCell ⟨w.heap.size + 1, 0, none⟩ (.bool s8)).setCell ⟨w.heap.size + 1, 1, none⟩ (.slice A8 m8 k8)) = FX at *
              have hBf := hHeld.1
              go_wp2_with fail
              go_roundw
              case rel =>
                refine ⟨k + 1, s2, A2, m2, k2, s8, A8, m8, k8, by omega, by go_num, HN.out, ?_, ?_, hBf⟩
                · rw [HSQ.out]; exact X6n
                · rw [HSC.out]; exact X7n
              case measure => simp [intOf]; omega
            · go_simp
              refine (bmul_any _ _ _ _ _ _ _ _ _ _ _ (by omega) (by omega) Y3 Y4).mono ?_
              rintro e u5 ⟨⟨s5, A5, m5, k5, rfl, hf5, Y5⟩, hk5⟩
              have hKeep := Bx.keep2 hHeld hk5
              have L5 := len_mul Y3 Y4 Y5
              have X6 := X6.below hk5
              have X7 := X7.below hk5
              go_wp2_with fail
              refine hK.out _ _ (by (try dsimp only); exact hKeep) (fun hHeld => ?_)
              clear hK K hKeep
              try simp only [Act.put, List.setIfInBounds_toArray, List.set_cons_zero, List.set_cons_succ]
              refine wpAnyH_ready (rs := [0]) (by kernel_rfl) (by simp) ?_
              refine AllReadyH.cons (o := { dst := some 62, op := _, type := _, pos := _, after := _, guard := _ }) rfl (fun K hK => ?_) AllReadyH.nil
              have hHd := hHeld
              obtain ⟨x0, x1⟩ := hHd.2.got
              obtain ⟨b1, b2, b3, b4, b5⟩ := id X7.bb
              have hKeep := hHeld
              go_simp
              refine hK.out _ _ (by (try dsimp only); exact hKeep) (fun hHeld => ?_)
              clear hK K hKeep
              try simp only [Act.put, List.setIfInBounds_toArray, List.set_cons_zero, List.set_cons_succ]
              refine wpAnyH_ready (rs := [8]) (by kernel_rfl) (by simp) ?_
              refine AllReadyH.cons (o := { dst := some 70, op := _, type := _, pos := _, after := _, guard := _ }) rfl (fun K hK => ?_) AllReadyH.nil
              go_simp
              refine (badd' (by omega) (by omega) X7.at_ Y5).mono ?_
              rintro e u6 ⟨⟨s8, A8, m8, k8, rfl, hf8, Y8⟩, hk8⟩
              have hz1 := hHeld.1.size
              have hgu := hHeld.2.lt
              have hKeep := Bx.keep2 hHeld hk8
              have X6 := X6.below hk8
              have X7 := X7.below hk8
              go_wp2_with fail
              refine hK.out _ _ (by (try dsimp only); exact hKeep) (fun hHeld => ?_)
              clear hK K hKeep
              try simp only [Act.put, List.setIfInBounds_toArray, List.set_cons_zero, List.set_cons_succ]
              refine wpAnyH_ready (rs := [9]) (by kernel_rfl) (by simp) ?_
              refine AllReadyH.cons (o := { dst := none, op := _, type := _, pos := _, after := _, guard := _ }) rfl (fun K hK => ?_) AllReadyH.nil
              have hHd := hHeld
              obtain ⟨x0, x1⟩ := hHd.2.got
              have hF : Fr (w.heap.size + 2) A8 m8 := hf8.le (by omega) (Nat.le_refl _)
              have X7n := X7.put Y8 hF
              have X6n := (X6.set (p := ⟨w.heap.size + 1, 0, none⟩) (by show w.heap.size + 1 < _; omega) (by show w.heap.size + 1 ≠ _; omega) (.bool s8)).set (p := ⟨w.heap.size + 1, 1, none⟩) (by show w.heap.size + 1 < _; omega) (by show w.heap.size + 1 ≠ _; omega) (.slice A8 m8 k8)
              obtain ⟨b1, b2, b3, b4, b5⟩ := id X7.bb
              have hKeep : Below w.heap.size w ((u6.setCell ⟨w.heap.size + 1, 0, none⟩ (.bool s8)).setCell ⟨w.heap.size + 1, 1, none⟩ (.slice A8 m8 k8)) ∧ Fi.Bx ((u6.setCell ⟨w.heap.size + 1, 0, none⟩ (.bool s8)).setCell ⟨w.heap.size + 1, 1, none⟩ (.slice A8 m8 k8)) wr.heap.size ⟨q, p⟩ :=
                ⟨Below.setCell (Below.setCell hHeld.1 (by show w.heap.size ≤ w.heap.size + 1; omega) _) (by show w.heap.size ≤ w.heap.size + 1; omega) _, (hHeld.2.far (by show w.heap.size + 1 ≠ _; omega) _).far (by show w.heap.size + 1 ≠ _; omega) _⟩
              skip
              go_simp
              refine hK.out _ _ (by (try dsimp only); exact hKeep) (fun hHeld => ?_)
              clear hK K hKeep
              try simp only [Act.put, List.setIfInBounds_toArray, List.set_cons_zero, List.set_cons_succ]
              refine wpAnyH_done (by kernel_rfl) ?_ _
              generalize hFW : ((u6.setCell ⟨w.heap.size + 1, 0, none⟩ (.bool s8)).setCell ⟨w.heap.size + 1, 1, none⟩ (.slice A8 m8 k8)) = FX at *
              have hBf := hHeld.1
              go_wp2_with fail
              go_roundw
              case rel =>
                refine ⟨k + 1, s2, A2, m2, k2, s8, A8, m8, k8, by omega, by go_num, HN.out, ?_, ?_, hBf⟩
                · rw [HSQ.out]; exact X6n
                · rw [HSC.out]; exact X7n
              case measure => simp [intOf]; omega
    · obtain rfl : k = l.length := by omega
      rw [List.take_length] at X6 X7
      have hallF : ∀ f ∈ l, okF f = true := fun f hf => by
        obtain ⟨j, hj, rfl⟩ := List.getElem_of_mem hf
        exact hno j hj hj
      clear hno
      obtain ⟨q0, hq0⟩ : ∃ q, (l.headD Fi.zero).qty = q := ⟨_, rfl⟩
      have HQ0 := Lib.hid hq0
      have hz0 : (l[0]'(by omega)).qty = q0 := by rw [← hq0]; cases l with | nil => simp at h1 | cons a l => rfl
      have hqn : q0 ≠ 0 := by rw [← hz0]; exact (okF_bd (hallF _ (List.getElem_mem _))).2.2.1
      have hqb := qtyL_bd l hallF
      have hcin := costL_in hallF (by omega)
      have HAF := Lib.hid hallF
      clear hq0 hallF
      generalize wr = wz at *
      go_wp2_with fail
      go_loopw [10] (fun i wr => ∃ k : Nat, k ≤ l.length ∧ i = .int .i64 k ∧ (∀ j, (hj : j < l.length) → j < k → okE q0 l[j] = true) ∧ Below wz.heap.size wz wr) (fun i _ => l.length - (intOf i).toNat)
      case atStart => exact ⟨0, by omega, rfl, fun j hj h => absurd h (by omega), Below.refl _ _⟩
      case round =>
        obtain ⟨k, hk, rfl, hno, hB2⟩ := hrel
        have hB3 := since_step hB hB2
        by_cases hlt : k < l.length
        · obtain ⟨b, o, rfl, hbw, hg⟩ := hs.fi hlt
          obtain ⟨b', o', e, _, hg'⟩ := hs.fi (k := 0) (by omega)
          injection e with e
          injection e with e1 e2 e3
          subst e1; subst e2
          have hg1 : l[k].at wr b (o + k * 2) := Fi.at_keep (w := w) hg fun i => hB3.cell (p := ⟨b, i, none⟩) hbw
          have hg2 : (l[0]'(by omega)).at wr b (o + 0 * 2) := Fi.at_keep (w := w) hg' fun i => hB3.cell (p := ⟨b, i, none⟩) hbw
          have hgz := hg2.1
          rw [hz0] at hgz
          have hlk : (k : Int) < (l.length : Int) := by omega
          have hl0 : (0 : Int) < (l.length : Int) := by omega
          have hoe := okE_of (HAF.out _ (List.getElem_mem hlt)) hqn
          have HB : Hid (okE q0 l[k] = false → RV = .tuple #[.int .i64 0, .int .i64 0, .int .i64 0, .int .i64 2]) := Lib.hid (fun h => HBAD.out (by rw [okFs_false hlt (by rw [HQ0.out]; exact h)]; decide))
          have HGO : Hid (okE q0 l[k] = true → ∀ j, (hj : j < l.length) → j < k + 1 → okE q0 l[j] = true) := Lib.hid (fun h j hj hjk => by
            rcases Nat.lt_or_ge j k with h' | h'
            · exact hno j hj h'
            · obtain rfl : j = k := by omega
              exact h)
          have hge : (0 : Int) ≤ (k : Int) := by omega
          obtain ⟨p0, p1⟩ := hg1
          have HOE := Lib.hid hoe
          clear hg hg' hg2 hz0 hno hs HBAD HRV HAF HQ0 hoe hqb hcin X6 X7 hl
          generalize l[k] = v at HB HGO HOE p0 p1
          obtain ⟨q, p⟩ := v
          simp only [Nat.zero_mul, Nat.add_zero] at p0 p1 hgz HOE
          by_cases s1 : q < 0
          · by_cases s2 : q0 < 0
            · have HE := Lib.hid (HGO.out (by rw [HOE.out]; simp [s1, s2]))
              clear HB HGO
              have e1 : decide (q < 0) = true := decide_eq_true (by omega)
              have e2 : decide (q0 < 0) = true := decide_eq_true (by omega)
              go_wp2_with fail
              go_quiet (fail)
              go_wp2_with fail
              go_roundw
              case rel => exact ⟨k + 1, by omega, by go_num, HE.out, below_drewN hB2 _⟩
              case measure => simp [intOf]; omega
            · have HE := Lib.hid (HB.out (by rw [HOE.out]; simp [s1, s2]))
              clear HB HGO
              have e1 : decide (q < 0) = true := decide_eq_true (by omega)
              have e2 : decide (q0 < 0) = false := decide_eq_false (by omega)
              go_wp2_with fail
              go_quiet (fail)
              go_wp2_with fail
              (try simp only [Exit.inBlock, Exit.then]); refine bodyPost_ret (results_tmp4 rfl _ _ _) rfl ?_
              rw [HE.out]; exact ⟨rfl, below_drewN hB3 _⟩
          · by_cases s2 : q0 < 0
            · have HE := Lib.hid (HB.out (by rw [HOE.out]; simp [s1, s2]))
              clear HB HGO
              have e1 : decide (q < 0) = false := decide_eq_false (by omega)
              have e2 : decide (q0 < 0) = true := decide_eq_true (by omega)
              go_wp2_with fail
              go_quiet (fail)
              go_wp2_with fail
              (try simp only [Exit.inBlock, Exit.then]); refine bodyPost_ret (results_tmp4 rfl _ _ _) rfl ?_
              rw [HE.out]; exact ⟨rfl, below_drewN hB3 _⟩
            · have HE := Lib.hid (HGO.out (by rw [HOE.out]; simp [s1, s2]))
              clear HB HGO
              have e1 : decide (q < 0) = false := decide_eq_false (by omega)
              have e2 : decide (q0 < 0) = false := decide_eq_false (by omega)
              go_wp2_with fail
              go_quiet (fail)
              go_wp2_with fail
              go_roundw
              case rel => exact ⟨k + 1, by omega, by go_num, HE.out, below_drewN hB2 _⟩
              case measure => simp [intOf]; omega
        · obtain rfl : k = l.length := by omega
          have hok : okFs l = true := okFs_true (by omega) (by omega) (fun j hj => by rw [HQ0.out]; exact hno j hj hj)
          have hmain := avg_main hok
          obtain ⟨m1, m2, m3, m4, m5, m6⟩ := hmain
          have hC : ((costL l).natAbs : Int) = avgC l := by
            have h8 := m3
            unfold avgC at h8 ⊢
            split at h8 <;> rename_i h9 <;> simp only [h9, if_true, if_false] <;> omega
          have X6 := X6.below hB2
          have X7 := X7.below hB2
          have hsz3 := hB3.size
          have hgx3 : w.heap.size + 2 ≤ wr.heap.size := Nat.le_trans hgx hB2.size
          have hR : RV = if inQ (qtyL l) = true then .tuple #[.int .i64 (qtyL l), .int .i64 (avgC l / ((qtyL l).natAbs : Int)), .int .i64 (avgC l % ((qtyL l).natAbs : Int)), .int .i64 0] else .tuple #[.int .i64 0, .int .i64 0, .int .i64 0, .int .i64 25] := by
            rw [HRV.out, avgV, avgR, if_pos hok]
            cases inQ (qtyL l) <;> rfl
          rw [← hC] at hR m3 m4 m5 m6
          clear hno hok hs HBAD HRV HAF HQ0 hz0 hC hB hB2 hcin
          generalize qtyL l = Q at *
          have hin64 : In64 Q := by unfold In64; omega
          have hD63 : (Q.natAbs : Int) ≤ 17592186044416 := by omega
          generalize hCC : (costL l).natAbs = C at *
          obtain ⟨r, hr⟩ : ∃ r, cmpZ (Q.natAbs : Int) 1099511627776 = r := ⟨_, rfl⟩
          have hcr : (inQ Q = false ∧ 0 < r) ∨ (inQ Q = true ∧ ¬ 0 < r) := by
            rw [← hr]
            unfold cmpZ inQ
            simp only [Bool.and_eq_true, Bool.and_eq_false_iff, decide_eq_true_eq, decide_eq_false_iff_not]
            split
            · right; omega
            · split
              · right; omega
              · left; omega
          have HR := Lib.hid hr
          have HRR := Lib.hid hR
          clear hr hR
          obtain ⟨b1, b2, b3, b4, b5⟩ := id X6.bb
          go_wp2_with fail
          refine (rint_any Q hin64 s6 A6 n6 c6 _ X6.at_).mono ?_
          rintro e w1 ⟨rfl, hb1⟩
          have X6 := X6.below hb1
          have X7 := X7.below hb1
          have hB4 := since_step hB3 hb1
          have hsz4 := hB4.size
          have hgx4 : w.heap.size + 2 ≤ w1.heap.size := Nat.le_trans hgx3 hb1.size
          clear b1 b2 b3 b4 b5 hb1 hB3
          obtain ⟨b1, b2, b3, b4, b5⟩ := id X6.bb
          obtain ⟨d1, d2, d3, d4, d5⟩ := id X7.bb
          have hcs := @cell_set
          go_upto_region 19 with fail
          have X6 := X6.pos.set (p := ⟨w.heap.size + 1, 0, none⟩) (by show w.heap.size + 1 < _; omega) (by show w.heap.size + 1 ≠ _; omega) (.bool false)
          have X7 := (X7.set (p := ⟨w.heap.size, 0, none⟩) (by show w.heap.size < _; omega) (by show w.heap.size ≠ _; omega) (.bool false)).pos
          rw [hCC] at X7
          have hB5 := Below.setCell (Below.setCell hB4 (p := ⟨w.heap.size, 0, none⟩) (Nat.le_refl _) (.bool false)) (p := ⟨w.heap.size + 1, 0, none⟩) (by show w.heap.size ≤ w.heap.size + 1; omega) (.bool false)
          clear b1 b2 b3 b4 b5 d1 d2 d3 d4 d5
          generalize hWW : (w1.setCell ⟨w.heap.size, 0, none⟩ (.bool false)).setCell ⟨w.heap.size + 1, 0, none⟩ (.bool false) = W at *
          have HX6 : Hid (∀ V, Below W.heap.size W V → BX (w.heap.size + 2) V w.heap.size false A6 n6 c6 (Q.natAbs : Int)) := Lib.hid fun V hV => X6.below hV
          have HX7 : Hid (∀ V, Below W.heap.size W V → BX (w.heap.size + 2) V (w.heap.size + 1) false A7 n7 c7 (C : Int)) := Lib.hid fun V hV => X7.below hV
          have hL6 : n6 ≤ 64 := X6.at_.l64 (by unfold In64; omega)
          have hL7 : n7 ≤ 128 := X7.at_.l128 (by unfold In128; omega)
          have hszW : w.heap.size ≤ W.heap.size := hB5.size
          have hDN := m2
          clear X6 X7 hWW hB4 hCC
          rcases hcr with ⟨hq, hr0⟩ | ⟨hq, hr0⟩
          · have HE := HRR.out
            rw [hq, if_neg (by decide)] at HE
            have HE := Lib.hid HE
            clear HRR
            go_wp2_with fail
            refine wp_region_held_drew (S := (fun V => Below W.heap.size W V)) (by kernel_rfl) (by exact (Below.refl _ _).drew) (fun hHeld => ?_)
            refine wpAnyH_take (i := 0) (oi := { dst := some 93, op := _, type := _, pos := _, after := _, guard := _ }) (v := ?_) rfl (by kernel_rfl) (by kernel_rfl) (by kernel_rfl) (fun _ _ _ h => h) (Or.inl ⟨by rfl, ?_⟩) hHeld ?_
            rotate_left
            · (intro w hSw; obtain ⟨b1, b2, b3, b4, b5⟩ := (HX6.out _ hSw).bb; obtain ⟨d1, d2, d3, d4, d5⟩ := (HX7.out _ hSw).bb; go_simp <;> with_reducible rfl)
            try simp only [Act.put, List.setIfInBounds_toArray, List.set_cons_zero, List.set_cons_succ]
            refine wpAnyH_ready (rs := [1]) (by kernel_rfl) (by simp) ?_
            refine AllReadyH.cons (o := { dst := some 94, op := _, type := _, pos := _, after := _, guard := _ }) rfl (fun K hK => ?_) AllReadyH.nil
            go_simp
            refine (bof_any 1099511627776 _ (by omega)).mono ?_
            rintro e v1 ⟨⟨t1, E1, m1', k1', rfl, hf1, Y1⟩, hk1⟩
            have hKeep := since_step hHeld hk1
            have L1 := Y1.l64 (by unfold In64; omega)
            go_wp2_with fail
            refine hK.out _ _ (by (try dsimp only); exact hKeep) (fun hHeld => ?_)
            clear hK K hKeep
            try simp only [Act.put, List.setIfInBounds_toArray, List.set_cons_zero, List.set_cons_succ]
            refine wpAnyH_ready (rs := [2]) (by kernel_rfl) (by simp) ?_
            refine AllReadyH.cons (o := { dst := some 95, op := _, type := _, pos := _, after := _, guard := _ }) rfl (fun K hK => ?_) AllReadyH.nil
            go_simp
            refine (bcmp_any _ _ _ _ _ _ _ _ _ _ _ (by omega) (by omega) (HX6.out _ hHeld).at_ Y1).mono ?_
            rintro e v2 ⟨rfl, hk2⟩
            have hKeep := since_step hHeld hk2
            rw [HR.out]
            go_wp2_with fail
            refine hK.out _ _ (by (try dsimp only); exact hKeep) (fun hHeld => ?_)
            clear hK K hKeep
            try simp only [Act.put, List.setIfInBounds_toArray, List.set_cons_zero, List.set_cons_succ]
            refine wpAnyH_take (i := 3) (oi := { dst := some 96, op := _, type := _, pos := _, after := _, guard := _ }) (v := ?_) rfl (by kernel_rfl) (by kernel_rfl) (by kernel_rfl) (fun _ _ _ h => h) (Or.inl ⟨by rfl, ?_⟩) hHeld ?_
            rotate_left
            · (intro w hSw; obtain ⟨b1, b2, b3, b4, b5⟩ := (HX6.out _ hSw).bb; obtain ⟨d1, d2, d3, d4, d5⟩ := (HX7.out _ hSw).bb; go_simp <;> with_reducible rfl)
            try simp only [Act.put, List.setIfInBounds_toArray, List.set_cons_zero, List.set_cons_succ]
            refine wpAnyH_done (by kernel_rfl) ?_ _
            have hBf := hB5.trans (hHeld.mono hszW)
            have hr1 : decide (0 < r) = true := decide_eq_true (by omega)
            go_wp2_with fail
            (try simp only [Exit.inBlock, Exit.then]); refine bodyPost_ret (results_tmp4 rfl _ _ _) rfl ?_
            rw [HE.out]; exact ⟨rfl, hBf⟩
          · have HE := HRR.out
            rw [hq, if_pos rfl] at HE
            have HE := Lib.hid HE
            clear HRR
            have HU := Lib.hid (show IntKind.u64.wrap (Q.natAbs : Int) = (Q.natAbs : Int) from IntWalk.u64_in _ (by omega))
            have hrin : In64 ((C : Int) / (Q.natAbs : Int)) := by unfold In64; omega
            have hM0 : (0 : Int) ≤ (C : Int) % (Q.natAbs : Int) := Int.emod_nonneg _ (by omega)
            have hM1 : (C : Int) % (Q.natAbs : Int) < (Q.natAbs : Int) := Int.emod_lt_of_pos _ (by omega)
            have hMw : IntKind.i64.wrap ((C : Int) % (Q.natAbs : Int)) = (C : Int) % (Q.natAbs : Int) := IntWalk.i64_in _ (by omega)
            have HMW := Lib.hid hMw
            have hQ64 : In64 (Q.natAbs : Int) := by unfold In64; omega
            have hDb : Q.natAbs < 9223372036854775808 := by omega
            clear hM0 hM1 hMw m1 m3 m4 m5 m6 hin64 hqb
            generalize Q.natAbs = D at *
            go_wp2_with fail
            refine wp_region_held_drew (S := (fun V => Below W.heap.size W V)) (by kernel_rfl) (by exact (Below.refl _ _).drew) (fun hHeld => ?_)
            refine wpAnyH_take (i := 0) (oi := { dst := some 93, op := _, type := _, pos := _, after := _, guard := _ }) (v := ?_) rfl (by kernel_rfl) (by kernel_rfl) (by kernel_rfl) (fun _ _ _ h => h) (Or.inl ⟨by rfl, ?_⟩) hHeld ?_
            rotate_left
            · (intro w hSw; obtain ⟨b1, b2, b3, b4, b5⟩ := (HX6.out _ hSw).bb; obtain ⟨d1, d2, d3, d4, d5⟩ := (HX7.out _ hSw).bb; go_simp <;> with_reducible rfl)
            try simp only [Act.put, List.setIfInBounds_toArray, List.set_cons_zero, List.set_cons_succ]
            refine wpAnyH_ready (rs := [1]) (by kernel_rfl) (by simp) ?_
            refine AllReadyH.cons (o := { dst := some 94, op := _, type := _, pos := _, after := _, guard := _ }) rfl (fun K hK => ?_) AllReadyH.nil
            go_simp
            refine (bof_any 1099511627776 _ (by omega)).mono ?_
            rintro e v1 ⟨⟨t1, E1, m1', k1', rfl, hf1, Y1⟩, hk1⟩
            have hKeep := since_step hHeld hk1
            have L1 := Y1.l64 (by unfold In64; omega)
            go_wp2_with fail
            refine hK.out _ _ (by (try dsimp only); exact hKeep) (fun hHeld => ?_)
            clear hK K hKeep
            try simp only [Act.put, List.setIfInBounds_toArray, List.set_cons_zero, List.set_cons_succ]
            refine wpAnyH_ready (rs := [2]) (by kernel_rfl) (by simp) ?_
            refine AllReadyH.cons (o := { dst := some 95, op := _, type := _, pos := _, after := _, guard := _ }) rfl (fun K hK => ?_) AllReadyH.nil
            go_simp
            refine (bcmp_any _ _ _ _ _ _ _ _ _ _ _ (by omega) (by omega) (HX6.out _ hHeld).at_ Y1).mono ?_
            rintro e v2 ⟨rfl, hk2⟩
            have hKeep := since_step hHeld hk2
            rw [HR.out]
            go_wp2_with fail
            refine hK.out _ _ (by (try dsimp only); exact hKeep) (fun hHeld => ?_)
            clear hK K hKeep
            try simp only [Act.put, List.setIfInBounds_toArray, List.set_cons_zero, List.set_cons_succ]
            refine wpAnyH_take (i := 3) (oi := { dst := some 96, op := _, type := _, pos := _, after := _, guard := _ }) (v := ?_) rfl (by kernel_rfl) (by kernel_rfl) (by kernel_rfl) (fun _ _ _ h => h) (Or.inl ⟨by rfl, ?_⟩) hHeld ?_
            rotate_left
            · (intro w hSw; obtain ⟨b1, b2, b3, b4, b5⟩ := (HX6.out _ hSw).bb; obtain ⟨d1, d2, d3, d4, d5⟩ := (HX7.out _ hSw).bb; go_simp <;> with_reducible rfl)
            try simp only [Act.put, List.setIfInBounds_toArray, List.set_cons_zero, List.set_cons_succ]
            refine wpAnyH_done (by kernel_rfl) ?_ _
            have hB6 := hB5.trans (hHeld.mono hszW)
            have HV6 : Hid (∀ V', Below v2.heap.size v2 V' → BX (w.heap.size + 2) V' w.heap.size false A6 n6 c6 (D : Int)) := Lib.hid fun V' hV => (HX6.out _ hHeld).below hV
            have HV7 : Hid (∀ V', Below v2.heap.size v2 V' → BX (w.heap.size + 2) V' (w.heap.size + 1) false A7 n7 c7 (C : Int)) := Lib.hid fun V' hV => (HX7.out _ hHeld).below hV
            have hszV : w.heap.size ≤ v2.heap.size := hB6.size
            have hr1 : decide (0 < r) = false := decide_eq_false (by omega)
            generalize v2 = V at *
            clear HX6 HX7 Y1 hHeld
            go_wp2_with fail
            refine wp_region_held_drew (S := (fun V' => Below V.heap.size V V')) (by kernel_rfl) (by exact (Below.refl _ _).drew) (fun hHeld => ?_)
            refine wpAnyH_take (i := 0) (oi := { dst := some 98, op := _, type := _, pos := _, after := _, guard := _ }) (v := ?_) rfl (by kernel_rfl) (by kernel_rfl) (by kernel_rfl) (fun _ _ _ h => h) (Or.inl ⟨by rfl, ?_⟩) hHeld ?_
            rotate_left
            · (intro w hSw; obtain ⟨b1, b2, b3, b4, b5⟩ := (HV6.out _ hSw).bb; obtain ⟨d1, d2, d3, d4, d5⟩ := (HV7.out _ hSw).bb; go_simp <;> with_reducible rfl)
            try simp only [Act.put, List.setIfInBounds_toArray, List.set_cons_zero, List.set_cons_succ]
            refine wpAnyH_take (i := 1) (oi := { dst := some 99, op := _, type := _, pos := _, after := _, guard := _ }) (v := ?_) rfl (by kernel_rfl) (by kernel_rfl) (by kernel_rfl) (fun _ _ _ h => h) (Or.inl ⟨by rfl, ?_⟩) hHeld ?_
            rotate_left
            · (intro w hSw; obtain ⟨b1, b2, b3, b4, b5⟩ := (HV6.out _ hSw).bb; obtain ⟨d1, d2, d3, d4, d5⟩ := (HV7.out _ hSw).bb; go_simp <;> with_reducible rfl)
            try simp only [Act.put, List.setIfInBounds_toArray, List.set_cons_zero, List.set_cons_succ]
            refine wpAnyH_ready (rs := [2, 8]) (by kernel_rfl) (by simp) ?_
            refine AllReadyH.cons (o := { dst := some 100, op := _, type := _, pos := _, after := _, guard := _ }) rfl (fun K hK => ?_) (AllReadyH.cons (o := { dst := some 12, op := _, type := _, pos := _, after := _, guard := _ }) rfl (fun K hK => ?_) AllReadyH.nil)
            · go_simp
              refine (rint_any _ hQ64 _ _ _ _ _ (HV6.out _ hHeld).at_).mono ?_
              rintro e x1 ⟨rfl, hk1⟩
              have hKeep := since_step hHeld hk1
              go_wp2_with fail
              refine hK.out _ _ (by (try dsimp only); exact hKeep) (fun hHeld => ?_)
              clear hK K hKeep
              try simp only [Act.put, List.setIfInBounds_toArray, List.set_cons_zero, List.set_cons_succ]
              refine wpAnyH_take (i := 3) (oi := { dst := some 101, op := _, type := _, pos := _, after := _, guard := _ }) (v := ?_) rfl (by kernel_rfl) (by kernel_rfl) (by kernel_rfl) (fun _ _ _ h => h) (Or.inl ⟨by rfl, ?_⟩) hHeld ?_
              rotate_left
              · (intro w hSw; obtain ⟨b1, b2, b3, b4, b5⟩ := (HV6.out _ hSw).bb; obtain ⟨d1, d2, d3, d4, d5⟩ := (HV7.out _ hSw).bb; go_simp <;> with_reducible rfl)
              try simp only [Act.put, List.setIfInBounds_toArray, List.set_cons_zero, List.set_cons_succ]
              refine wpAnyH_ready (rs := [4, 8]) (by kernel_rfl) (by simp) ?_
              refine AllReadyH.cons (o := { dst := some 102, op := _, type := _, pos := _, after := _, guard := _ }) rfl (fun K hK => ?_) (AllReadyH.cons (o := { dst := some 12, op := _, type := _, pos := _, after := _, guard := _ }) rfl (fun K hK => ?_) AllReadyH.nil)
              · go_simp
                rw [HU.out]
                refine (bdiv_any _ _ _ _ _ D _ (by omega) hDN hDb (HV7.out _ hHeld).at_).mono ?_
                rintro e x2 ⟨⟨s9, A9, m9, k9, rfl, hf9, Y9⟩, hk2⟩
                have hKeep := since_step hHeld hk2
                go_wp2_with fail
                refine hK.out _ _ (by (try dsimp only); exact hKeep) (fun hHeld => ?_)
                clear hK K hKeep
                try simp only [Act.put, List.setIfInBounds_toArray, List.set_cons_zero, List.set_cons_succ]
                refine wpAnyH_take (i := 5) (oi := { dst := some 97, op := _, type := _, pos := _, after := _, guard := _ }) (v := ?_) rfl (by kernel_rfl) (by kernel_rfl) (by kernel_rfl) (fun _ _ _ h => h) (Or.inl ⟨by rfl, ?_⟩) hHeld ?_
                rotate_left
                · (intro w hSw; obtain ⟨b1, b2, b3, b4, b5⟩ := (HV6.out _ hSw).bb; obtain ⟨d1, d2, d3, d4, d5⟩ := (HV7.out _ hSw).bb; go_simp <;> with_reducible rfl)
                try simp only [Act.put, List.setIfInBounds_toArray, List.set_cons_zero, List.set_cons_succ]
                refine wpAnyH_take (i := 6) (oi := { dst := some 103, op := _, type := _, pos := _, after := _, guard := _ }) (v := ?_) rfl (by kernel_rfl) (by kernel_rfl) (by kernel_rfl) (fun _ _ _ h => h) (Or.inl ⟨by rfl, ?_⟩) hHeld ?_
                rotate_left
                · (intro w hSw; obtain ⟨b1, b2, b3, b4, b5⟩ := (HV6.out _ hSw).bb; obtain ⟨d1, d2, d3, d4, d5⟩ := (HV7.out _ hSw).bb; go_simp <;> with_reducible rfl)
                try simp only [Act.put, List.setIfInBounds_toArray, List.set_cons_zero, List.set_cons_succ]
                refine wpAnyH_take (i := 7) (oi := { dst := some 104, op := _, type := _, pos := _, after := _, guard := _ }) (v := ?_) rfl (by kernel_rfl) (by kernel_rfl) (by kernel_rfl) (fun _ _ _ h => h) (Or.inl ⟨by rfl, ?_⟩) hHeld ?_
                rotate_left
                · (intro w hSw; obtain ⟨b1, b2, b3, b4, b5⟩ := (HV6.out _ hSw).bb; obtain ⟨d1, d2, d3, d4, d5⟩ := (HV7.out _ hSw).bb; go_simp <;> with_reducible rfl)
                try simp only [Act.put, List.setIfInBounds_toArray, List.set_cons_zero, List.set_cons_succ]
                refine wpAnyH_ready (rs := [8]) (by kernel_rfl) (by simp) ?_
                refine AllReadyH.cons (o := { dst := some 12, op := _, type := _, pos := _, after := _, guard := _ }) rfl (fun K hK => ?_) AllReadyH.nil
                have hHd := hHeld
                obtain ⟨b1, b2, b3, b4, b5⟩ := (HV6.out _ hHd).bb; obtain ⟨d1, d2, d3, d4, d5⟩ := (HV7.out _ hHd).bb
                have hHp := hHeld
                have G := BB.new x2 false none 0 0 69
                have hgs : V.heap.size ≤ x2.heap.size := by have h := hHeld.size; (try simp only [World.size_alloc, World.size_drew] at h ⊢); omega
                have hKeep := since_alloc hHeld (.cells #[.bool false, .slice none 0 0] 69)
                have Y9f := Y9.alloc (.cells #[.bool s9, .slice A9 m9 k9] 69)
                have Y9 := Y9.alloc (.cells #[.bool false, .slice none 0 0] 69)
                go_simp
                refine hK.out _ _ (by (try dsimp only); exact hKeep) (fun hHeld => ?_)
                clear hK K hKeep
                try simp only [Act.put, List.setIfInBounds_toArray, List.set_cons_zero, List.set_cons_succ]
                refine wpAnyH_ready (rs := [9]) (by kernel_rfl) (by simp) ?_
                refine AllReadyH.cons (o := { dst := none, op := _, type := _, pos := _, after := _, guard := _ }) rfl (fun K hK => ?_) AllReadyH.nil
                have hHd := hHeld
                obtain ⟨b1, b2, b3, b4, b5⟩ := (HV6.out _ hHd).bb; obtain ⟨d1, d2, d3, d4, d5⟩ := (HV7.out _ hHd).bb
                have G9 := BB.new x2 s9 A9 m9 k9 69
                obtain ⟨g0, g1, g2, g3, g4⟩ := id G
                have hKeep := since_alloc hHp (.cells #[.bool s9, .slice A9 m9 k9] 69)
                skip
                go_simp
                refine hK.out _ _ (by (try dsimp only); exact hKeep) (fun hHeld => ?_)
                clear hK K hKeep
                try simp only [Act.put, List.setIfInBounds_toArray, List.set_cons_zero, List.set_cons_succ]
                refine wpAnyH_take (i := 10) (oi := { dst := some 13, op := _, type := _, pos := _, after := _, guard := _ }) (v := ?_) rfl (by kernel_rfl) (by kernel_rfl) (by kernel_rfl) (fun _ _ _ h => h) (Or.inl ⟨by rfl, ?_⟩) hHeld ?_
                rotate_left
                · (intro w hSw; obtain ⟨b1, b2, b3, b4, b5⟩ := (HV6.out _ hSw).bb; obtain ⟨d1, d2, d3, d4, d5⟩ := (HV7.out _ hSw).bb; go_simp <;> with_reducible rfl)
                try simp only [Act.put, List.setIfInBounds_toArray, List.set_cons_zero, List.set_cons_succ]
                refine wpAnyH_done (by kernel_rfl) ?_ _
                clear hHp
                generalize hFW : (x2.alloc (.cells #[.bool s9, .slice A9 m9 k9] 69)) = FW at *
                have hBf := hB6.trans (hHeld.mono hszV)
                obtain ⟨g0, g1, g2, g3, g4⟩ := id G9
                go_wp2_with fail
                refine (rint_any _ hrin _ _ _ _ _ Y9f).mono ?_
                rintro e x3 ⟨rfl, hk3⟩
                have hB7 := since_step hBf hk3
                have hmw := HMW.out
                go_wp2_with fail
                (try simp only [Exit.inBlock, Exit.then]); refine bodyPost_ret (results_tmp4 rfl _ _ _) rfl ?_
                rw [HE.out]; exact ⟨rfl, hB7⟩
              · have hHd := hHeld
                obtain ⟨b1, b2, b3, b4, b5⟩ := (HV6.out _ hHd).bb; obtain ⟨d1, d2, d3, d4, d5⟩ := (HV7.out _ hHd).bb
                have hHp := hHeld
                have G := BB.new x1 false none 0 0 69
                have hgs : V.heap.size ≤ x1.heap.size := by have h := hHeld.size; (try simp only [World.size_alloc, World.size_drew] at h ⊢); omega
                have hKeep := since_alloc hHeld (.cells #[.bool false, .slice none 0 0] 69)
                go_simp
                refine hK.out _ _ (by (try dsimp only); exact hKeep) (fun hHeld => ?_)
                clear hK K hKeep
                try simp only [Act.put, List.setIfInBounds_toArray, List.set_cons_zero, List.set_cons_succ]
                refine wpAnyH_ready (rs := [4]) (by kernel_rfl) (by simp) ?_
                refine AllReadyH.cons (o := { dst := some 102, op := _, type := _, pos := _, after := _, guard := _ }) rfl (fun K hK => ?_) AllReadyH.nil
                go_simp
                rw [HU.out]
                refine (bdiv_any _ _ _ _ _ D _ (by omega) hDN hDb (HV7.out _ hHeld).at_).mono ?_
                rintro e x2 ⟨⟨s9, A9, m9, k9, rfl, hf9, Y9⟩, hk2⟩
                have hKeep := since_step hHeld hk2
                have hG0 := G.1
                have G := G.below hk2
                go_wp2_with fail
                refine hK.out _ _ (by (try dsimp only); exact hKeep) (fun hHeld => ?_)
                clear hK K hKeep
                try simp only [Act.put, List.setIfInBounds_toArray, List.set_cons_zero, List.set_cons_succ]
                refine wpAnyH_take (i := 5) (oi := { dst := some 97, op := _, type := _, pos := _, after := _, guard := _ }) (v := ?_) rfl (by kernel_rfl) (by kernel_rfl) (by kernel_rfl) (fun _ _ _ h => h) (Or.inl ⟨by rfl, ?_⟩) hHeld ?_
                rotate_left
                · (intro w hSw; obtain ⟨b1, b2, b3, b4, b5⟩ := (HV6.out _ hSw).bb; obtain ⟨d1, d2, d3, d4, d5⟩ := (HV7.out _ hSw).bb; go_simp <;> with_reducible rfl)
                try simp only [Act.put, List.setIfInBounds_toArray, List.set_cons_zero, List.set_cons_succ]
                refine wpAnyH_take (i := 6) (oi := { dst := some 103, op := _, type := _, pos := _, after := _, guard := _ }) (v := ?_) rfl (by kernel_rfl) (by kernel_rfl) (by kernel_rfl) (fun _ _ _ h => h) (Or.inl ⟨by rfl, ?_⟩) hHeld ?_
                rotate_left
                · (intro w hSw; obtain ⟨b1, b2, b3, b4, b5⟩ := (HV6.out _ hSw).bb; obtain ⟨d1, d2, d3, d4, d5⟩ := (HV7.out _ hSw).bb; go_simp <;> with_reducible rfl)
                try simp only [Act.put, List.setIfInBounds_toArray, List.set_cons_zero, List.set_cons_succ]
                refine wpAnyH_take (i := 7) (oi := { dst := some 104, op := _, type := _, pos := _, after := _, guard := _ }) (v := ?_) rfl (by kernel_rfl) (by kernel_rfl) (by kernel_rfl) (fun _ _ _ h => h) (Or.inl ⟨by rfl, ?_⟩) hHeld ?_
                rotate_left
                · (intro w hSw; obtain ⟨b1, b2, b3, b4, b5⟩ := (HV6.out _ hSw).bb; obtain ⟨d1, d2, d3, d4, d5⟩ := (HV7.out _ hSw).bb; go_simp <;> with_reducible rfl)
                try simp only [Act.put, List.setIfInBounds_toArray, List.set_cons_zero, List.set_cons_succ]
                refine wpAnyH_ready (rs := [9]) (by kernel_rfl) (by simp) ?_
                refine AllReadyH.cons (o := { dst := none, op := _, type := _, pos := _, after := _, guard := _ }) rfl (fun K hK => ?_) AllReadyH.nil
                have hHd := hHeld
                obtain ⟨b1, b2, b3, b4, b5⟩ := (HV6.out _ hHd).bb; obtain ⟨d1, d2, d3, d4, d5⟩ := (HV7.out _ hHd).bb
                have G9 := G.set2 s9 A9 m9 k9
                have Y9f := (Y9.far (p := ⟨x1.heap.size, 0, none⟩) (fun b o hA hn => by have h8 := hf9 b o hA hn; show b ≠ x1.heap.size; simp only [World.size_alloc, World.size_drew] at *; omega) (.bool s9)).far (p := ⟨x1.heap.size, 1, none⟩) (fun b o hA hn => by have h8 := hf9 b o hA hn; show b ≠ x1.heap.size; simp only [World.size_alloc, World.size_drew] at *; omega) (.slice A9 m9 k9)
                obtain ⟨g0, g1, g2, g3, g4⟩ := id G
                have hKeep := Below.setCell (Below.setCell hHeld (p := ⟨x1.heap.size, 0, none⟩) hgs (.bool s9)) (p := ⟨x1.heap.size, 1, none⟩) hgs (.slice A9 m9 k9)
                skip
                go_simp
                refine hK.out _ _ (by (try dsimp only); exact hKeep) (fun hHeld => ?_)
                clear hK K hKeep
                try simp only [Act.put, List.setIfInBounds_toArray, List.set_cons_zero, List.set_cons_succ]
                refine wpAnyH_take (i := 10) (oi := { dst := some 13, op := _, type := _, pos := _, after := _, guard := _ }) (v := ?_) rfl (by kernel_rfl) (by kernel_rfl) (by kernel_rfl) (fun _ _ _ h => h) (Or.inl ⟨by rfl, ?_⟩) hHeld ?_
                rotate_left
                · (intro w hSw; obtain ⟨b1, b2, b3, b4, b5⟩ := (HV6.out _ hSw).bb; obtain ⟨d1, d2, d3, d4, d5⟩ := (HV7.out _ hSw).bb; go_simp <;> with_reducible rfl)
                try simp only [Act.put, List.setIfInBounds_toArray, List.set_cons_zero, List.set_cons_succ]
                refine wpAnyH_done (by kernel_rfl) ?_ _
                clear hHp
                generalize hFW : ((x2.setCell ⟨x1.heap.size, 0, none⟩ (.bool s9)).setCell ⟨x1.heap.size, 1, none⟩ (.slice A9 m9 k9)) = FW at *
                have hBf := hB6.trans (hHeld.mono hszV)
                obtain ⟨g0, g1, g2, g3, g4⟩ := id G9
                go_wp2_with fail
                refine (rint_any _ hrin _ _ _ _ _ Y9f).mono ?_
                rintro e x3 ⟨rfl, hk3⟩
                have hB7 := since_step hBf hk3
                have hmw := HMW.out
                go_wp2_with fail
                (try simp only [Exit.inBlock, Exit.then]); refine bodyPost_ret (results_tmp4 rfl _ _ _) rfl ?_
                rw [HE.out]; exact ⟨rfl, hB7⟩
            · have hHd := hHeld
              obtain ⟨b1, b2, b3, b4, b5⟩ := (HV6.out _ hHd).bb; obtain ⟨d1, d2, d3, d4, d5⟩ := (HV7.out _ hHd).bb
              have hHp := hHeld
              have G := BB.new V.drew false none 0 0 69
              rw [World.size_drew] at G
              have hgs : V.heap.size ≤ V.heap.size := by have h := hHeld.size; (try simp only [World.size_alloc, World.size_drew] at h ⊢); omega
              have hKeep := since_alloc hHeld (.cells #[.bool false, .slice none 0 0] 69)
              go_simp
              refine hK.out _ _ (by (try dsimp only); exact hKeep) (fun hHeld => ?_)
              clear hK K hKeep
              try simp only [Act.put, List.setIfInBounds_toArray, List.set_cons_zero, List.set_cons_succ]
              refine wpAnyH_ready (rs := [2]) (by kernel_rfl) (by simp) ?_
              refine AllReadyH.cons (o := { dst := some 100, op := _, type := _, pos := _, after := _, guard := _ }) rfl (fun K hK => ?_) AllReadyH.nil
              go_simp
              refine (rint_any _ hQ64 _ _ _ _ _ (HV6.out _ hHeld).at_).mono ?_
              rintro e x1 ⟨rfl, hk1⟩
              have hKeep := since_step hHeld hk1
              have G := G.below hk1
              go_wp2_with fail
              refine hK.out _ _ (by (try dsimp only); exact hKeep) (fun hHeld => ?_)
              clear hK K hKeep
              try simp only [Act.put, List.setIfInBounds_toArray, List.set_cons_zero, List.set_cons_succ]
              refine wpAnyH_take (i := 3) (oi := { dst := some 101, op := _, type := _, pos := _, after := _, guard := _ }) (v := ?_) rfl (by kernel_rfl) (by kernel_rfl) (by kernel_rfl) (fun _ _ _ h => h) (Or.inl ⟨by rfl, ?_⟩) hHeld ?_
              rotate_left
              · (intro w hSw; obtain ⟨b1, b2, b3, b4, b5⟩ := (HV6.out _ hSw).bb; obtain ⟨d1, d2, d3, d4, d5⟩ := (HV7.out _ hSw).bb; go_simp <;> with_reducible rfl)
              try simp only [Act.put, List.setIfInBounds_toArray, List.set_cons_zero, List.set_cons_succ]
              refine wpAnyH_ready (rs := [4]) (by kernel_rfl) (by simp) ?_
              refine AllReadyH.cons (o := { dst := some 102, op := _, type := _, pos := _, after := _, guard := _ }) rfl (fun K hK => ?_) AllReadyH.nil
              go_simp
              rw [HU.out]
              refine (bdiv_any _ _ _ _ _ D _ (by omega) hDN hDb (HV7.out _ hHeld).at_).mono ?_
              rintro e x2 ⟨⟨s9, A9, m9, k9, rfl, hf9, Y9⟩, hk2⟩
              have hKeep := since_step hHeld hk2
              have hG0 := G.1
              have G := G.below hk2
              go_wp2_with fail
              refine hK.out _ _ (by (try dsimp only); exact hKeep) (fun hHeld => ?_)
              clear hK K hKeep
              try simp only [Act.put, List.setIfInBounds_toArray, List.set_cons_zero, List.set_cons_succ]
              refine wpAnyH_take (i := 5) (oi := { dst := some 97, op := _, type := _, pos := _, after := _, guard := _ }) (v := ?_) rfl (by kernel_rfl) (by kernel_rfl) (by kernel_rfl) (fun _ _ _ h => h) (Or.inl ⟨by rfl, ?_⟩) hHeld ?_
              rotate_left
              · (intro w hSw; obtain ⟨b1, b2, b3, b4, b5⟩ := (HV6.out _ hSw).bb; obtain ⟨d1, d2, d3, d4, d5⟩ := (HV7.out _ hSw).bb; go_simp <;> with_reducible rfl)
              try simp only [Act.put, List.setIfInBounds_toArray, List.set_cons_zero, List.set_cons_succ]
              refine wpAnyH_take (i := 6) (oi := { dst := some 103, op := _, type := _, pos := _, after := _, guard := _ }) (v := ?_) rfl (by kernel_rfl) (by kernel_rfl) (by kernel_rfl) (fun _ _ _ h => h) (Or.inl ⟨by rfl, ?_⟩) hHeld ?_
              rotate_left
              · (intro w hSw; obtain ⟨b1, b2, b3, b4, b5⟩ := (HV6.out _ hSw).bb; obtain ⟨d1, d2, d3, d4, d5⟩ := (HV7.out _ hSw).bb; go_simp <;> with_reducible rfl)
              try simp only [Act.put, List.setIfInBounds_toArray, List.set_cons_zero, List.set_cons_succ]
              refine wpAnyH_take (i := 7) (oi := { dst := some 104, op := _, type := _, pos := _, after := _, guard := _ }) (v := ?_) rfl (by kernel_rfl) (by kernel_rfl) (by kernel_rfl) (fun _ _ _ h => h) (Or.inl ⟨by rfl, ?_⟩) hHeld ?_
              rotate_left
              · (intro w hSw; obtain ⟨b1, b2, b3, b4, b5⟩ := (HV6.out _ hSw).bb; obtain ⟨d1, d2, d3, d4, d5⟩ := (HV7.out _ hSw).bb; go_simp <;> with_reducible rfl)
              try simp only [Act.put, List.setIfInBounds_toArray, List.set_cons_zero, List.set_cons_succ]
              refine wpAnyH_ready (rs := [9]) (by kernel_rfl) (by simp) ?_
              refine AllReadyH.cons (o := { dst := none, op := _, type := _, pos := _, after := _, guard := _ }) rfl (fun K hK => ?_) AllReadyH.nil
              have hHd := hHeld
              obtain ⟨b1, b2, b3, b4, b5⟩ := (HV6.out _ hHd).bb; obtain ⟨d1, d2, d3, d4, d5⟩ := (HV7.out _ hHd).bb
              have G9 := G.set2 s9 A9 m9 k9
              have Y9f := (Y9.far (p := ⟨V.heap.size, 0, none⟩) (fun b o hA hn => by have h8 := hf9 b o hA hn; show b ≠ V.heap.size; simp only [World.size_alloc, World.size_drew] at *; omega) (.bool s9)).far (p := ⟨V.heap.size, 1, none⟩) (fun b o hA hn => by have h8 := hf9 b o hA hn; show b ≠ V.heap.size; simp only [World.size_alloc, World.size_drew] at *; omega) (.slice A9 m9 k9)
              obtain ⟨g0, g1, g2, g3, g4⟩ := id G
              have hKeep := Below.setCell (Below.setCell hHeld (p := ⟨V.heap.size, 0, none⟩) hgs (.bool s9)) (p := ⟨V.heap.size, 1, none⟩) hgs (.slice A9 m9 k9)
              skip
              go_simp
              refine hK.out _ _ (by (try dsimp only); exact hKeep) (fun hHeld => ?_)
              clear hK K hKeep
              try simp only [Act.put, List.setIfInBounds_toArray, List.set_cons_zero, List.set_cons_succ]
              refine wpAnyH_take (i := 10) (oi := { dst := some 13, op := _, type := _, pos := _, after := _, guard := _ }) (v := ?_) rfl (by kernel_rfl) (by kernel_rfl) (by kernel_rfl) (fun _ _ _ h => h) (Or.inl ⟨by rfl, ?_⟩) hHeld ?_
              rotate_left
              · (intro w hSw; obtain ⟨b1, b2, b3, b4, b5⟩ := (HV6.out _ hSw).bb; obtain ⟨d1, d2, d3, d4, d5⟩ := (HV7.out _ hSw).bb; go_simp <;> with_reducible rfl)
              try simp only [Act.put, List.setIfInBounds_toArray, List.set_cons_zero, List.set_cons_succ]
              refine wpAnyH_done (by kernel_rfl) ?_ _
              clear hHp
              generalize hFW : ((x2.setCell ⟨V.heap.size, 0, none⟩ (.bool s9)).setCell ⟨V.heap.size, 1, none⟩ (.slice A9 m9 k9)) = FW at *
              have hBf := hB6.trans (hHeld.mono hszV)
              obtain ⟨g0, g1, g2, g3, g4⟩ := id G9
              go_wp2_with fail
              refine (rint_any _ hrin _ _ _ _ _ Y9f).mono ?_
              rintro e x3 ⟨rfl, hk3⟩
              have hB7 := since_step hBf hk3
              have hmw := HMW.out
              go_wp2_with fail
              (try simp only [Exit.inBlock, Exit.then]); refine bodyPost_ret (results_tmp4 rfl _ _ _) rfl ?_
              rw [HE.out]; exact ⟨rfl, hB7⟩
end Go.Proofs.Ytpnaihnmmnjacaa
