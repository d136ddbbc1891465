import Derived.Test.YtldnponbkhgijaaGL12
import Derived.Test.YtldnponbkhgijaaGL17
section
namespace Go.Proofs.Ytldnponbkhgijaa
open Go.ChangeShapes Go.WideShapes Go.ChangeAt Go.RowKit
set_option linter.unusedVariables false
set_option linter.unusedSimpArgs false

structure HeldI (W V : World) (gi gr : Nat) (i : Ins) (A : Option Addr) (c : Nat) : Prop where
  bel : Below gr W V
  le : W.heap.size ≤ V.heap.size
  lt : gr < V.heap.size
  i0 : V.cell? ⟨gi, 0, none⟩ = some (.int .i64 i.id)
  i1 : V.cell? ⟨gi, 1, none⟩ = some (.int .i64 i.mult)
  i2 : V.cell? ⟨gi, 2, none⟩ = some (.int .i64 i.price)
  i3 : V.cell? ⟨gi, 3, none⟩ = some (.int .i64 i.nxt)
  i4 : V.cell? ⟨gi, 4, none⟩ = some (.slice A i.mv.length c)
  e0 : ∃ v, V.cell? ⟨gr, 0, none⟩ = some v
  e1 : ∃ v, V.cell? ⟨gr, 1, none⟩ = some v
  f0 : V.frozen? ⟨gr, 0, none⟩ = false
  f1 : V.frozen? ⟨gr, 1, none⟩ = false
section
variable {W V V' : World} {gi gr : Nat} {i : Ins} {A : Option Addr} {c : Nat}
theorem HeldI.step (h : HeldI W V gi gr i A c) (hb : Below V.heap.size V V') : HeldI W V' gi gr i A c := by
  have hc : ∀ p u, V.cell? p = some u → V'.cell? p = some u := fun p u e => (hb.cell (World.block_lt_of_cell? _ _ e)).trans e
  exact ⟨h.bel.trans (hb.mono (Nat.le_of_lt h.lt)), Nat.le_trans h.le hb.size, Nat.lt_of_lt_of_le h.lt hb.size, hc _ _ h.i0, hc _ _ h.i1, hc _ _ h.i2, hc _ _ h.i3, hc _ _ h.i4, h.e0.imp fun v e => hc _ _ e, h.e1.imp fun v e => hc _ _ e,
    (hb.frozen (p := ⟨gr, 0, none⟩) h.lt).trans h.f0, (hb.frozen (p := ⟨gr, 1, none⟩) h.lt).trans h.f1⟩
theorem HeldI.start (hI : IB W gi i A c) (hB : BB W gr false none 0 0) : HeldI W W.drew gi gr i A c :=
  ⟨(Below.refl gr W).drew, Nat.le_refl _, hB.1, hI.2.1, hI.2.2.1, hI.2.2.2.1, hI.2.2.2.2.1, hI.2.2.2.2.2, ⟨_, hB.2.1⟩, ⟨_, hB.2.2.1⟩, hB.2.2.2.1, hB.2.2.2.2⟩
theorem HeldI.set (h : HeldI W V gi gr i A c) (hne : gi ≠ gr) (u v : Value) : HeldI W ((V.setCell ⟨gr, 0, none⟩ u).setCell ⟨gr, 1, none⟩ v) gi gr i A c := by
  obtain ⟨v0, h0⟩ := h.e0
  obtain ⟨v1, h1⟩ := h.e1
  have hne' : ¬ gr = gi := fun e => hne e.symm
  refine ⟨Below.setCell (Below.setCell h.bel (by simp) _) (by simp) _, by simpa using h.le, by simpa using h.lt, ?_, ?_, ?_, ?_, ?_, ?_, ?_, ?_, ?_⟩
  · simp [cell_set, hne', h.i0]
  · simp [cell_set, hne', h.i1]
  · simp [cell_set, hne', h.i2]
  · simp [cell_set, hne', h.i3]
  · simp [cell_set, hne', h.i4]
  · exact ⟨u, by simp [cell_set, h0, h1]⟩
  · exact ⟨v, by simp [cell_set, h0, h1]⟩
  · simpa using h.f0
  · simpa using h.f1
theorem HeldI.got (h : HeldI W V gi gr i A c) (s : Bool) (B : Option Addr) (m d : Nat) :
    ((V.setCell ⟨gr, 0, none⟩ (.bool s)).setCell ⟨gr, 1, none⟩ (.slice B m d)).cell? ⟨gr, 0, none⟩ = some (.bool s) ∧ ((V.setCell ⟨gr, 0, none⟩ (.bool s)).setCell ⟨gr, 1, none⟩ (.slice B m d)).cell? ⟨gr, 1, none⟩ = some (.slice B m d) := by
  obtain ⟨v0, h0⟩ := h.e0
  obtain ⟨v1, h1⟩ := h.e1
  exact ⟨by simp [cell_set, h0, h1], by simp [cell_set, h0, h1]⟩
end
set_option maxRecDepth 100000 in
set_option maxHeartbeats 8000000 in
theorem rshock_any (i : Ins) (A : Option Addr) (c : Nat) (q s : Int) (w : World) (h : InsAt w i A c) (hq : In64 q) (hs64 : In64 s) :
    Calls Try.prog 110 #[insV i A c, .int .i64 q, .int .i64 s] w fun e w' => bigR w w' e (shockZ i q s) ∧ Below w.heap.size w w' := by
  have HC := Lib.hid (fun W (hb : Below w.heap.size w W) => ris_any i A c W (h.below hb))
  have hB0 := since_alloc (Below.refl _ w) (.cells #[.int .i64 i.id, .int .i64 i.mult, .int .i64 i.price, .int .i64 i.nxt, .slice A i.mv.length c] 153)
  have hI0 := IB.new w i A c 153
  have hB1 := since_alloc hB0 (.cells #[.bool false, .slice none 0 0] 35)
  have hI1 := hI0.below ((Below.refl _ _).alloc (Nat.le_refl _) (.cells #[.bool false, .slice none 0 0] 35))
  have hT1 := BB.new (w.alloc (.cells #[.int .i64 i.id, .int .i64 i.mult, .int .i64 i.price, .int .i64 i.nxt, .slice A i.mv.length c] 153)) false none 0 0 35
  rw [World.size_alloc] at hT1
  have HI1 := Lib.hid hI1
  have HT1 := Lib.hid hT1
  have HB1 := Lib.hid hB1
  clear hI0 hI1 hT1 hB0 hB1
  by_cases hg : okB i = true ∧ 0 ≤ s ∧ s < (i.mv.length : Int)
  · obtain ⟨hok, hs0, hsl⟩ := hg
    obtain ⟨k, rfl⟩ := Int.eq_ofNat_of_zero_le hs0
    have hk : k < i.mv.length := by omega
    have ez : shockZ i q (k : Int) = q * i.mult * i.mv[k] := by
      unfold shockZ
      rw [if_pos ⟨hok, hs0, hsl⟩, Int.toNat_natCast, List.getD_eq_getElem?_getD, List.getElem?_eq_getElem hk, Int.mul_right_comm]
      rfl
    rw [ez]
    have HOK := Lib.hid hok
    obtain ⟨b, o, rfl, hz0⟩ := h.sl.int hk
    have hbw := World.block_lt_of_cell? _ _ hz0
    have hmk : In64 i.mv[k] := h.mv64 _ (List.getElem_mem hk)
    have hm64 := h.n64.2.1
    generalize i.mv[k] = mk at *
    have HQ := Lib.hid hq
    have HM := Lib.hid hm64
    have HMK := Lib.hid hmk
    have HZ0 := Lib.hid hz0
    clear hok hs0 ez h hz0 hq hm64 hmk
    unfold insV
    go_enter Try.func110, Try.ntmps110
    go_wp2_with fail
    refine (HC.out _ HB1.out).mono ?_
    rintro e w1 ⟨rfl, hb1⟩
    rw [HOK.out]
    have hI1 := HI1.out.below hb1
    have hT1 := HT1.out.below hb1
    have hB1 := since_step HB1.out hb1
    clear hb1 HI1 HT1 HB1
    obtain ⟨i0, i1, i2, i3, i4, i5⟩ := _root_.id hI1
    have hz := (hB1.cell (p := ⟨b, o + k, none⟩) hbw).trans HZ0.out
    have HZW := Lib.hid hz
    have hbg : b < w.heap.size + 1 := Nat.lt_succ_of_lt hbw
    have hne : w.heap.size ≠ w.heap.size + 1 := by omega
    have hgl : w.heap.size + 1 < w1.heap.size := hT1.1
    clear hz
    go_upto_region 3 with fail
    clear i0 i1 i2 i3 i4 i5
    generalize w1 = W at *
    refine wp_region_held_drew (S := (fun V => HeldI W V w.heap.size (w.heap.size + 1) i (some ⟨b, o, none⟩) c)) (by kernel_rfl) (by exact HeldI.start hI1 hT1) (fun hHeld => ?_)
    refine wpAnyH_take (i := 0) (oi := { dst := some 22, op := _, type := _, pos := _, after := _, guard := _ }) (v := ?_) rfl (by kernel_rfl) (by kernel_rfl) (by kernel_rfl) (fun _ _ _ h => h) (Or.inl ⟨by rfl, ?_⟩) hHeld ?_
    rotate_left
    · (intro w hSw; obtain ⟨o1, o2, o3, o4, o5, o6, o7, o8, ⟨x0, o9⟩, ⟨x1, o10⟩, o11, o12⟩ := hSw; have oz := (o1.cell (p := ⟨b, o + k, none⟩) hbg).trans HZW.out; go_simp <;> with_reducible rfl)
    try simp only [Act.put, List.setIfInBounds_toArray, List.set_cons_zero, List.set_cons_succ]
    refine wpAnyH_take (i := 2) (oi := { dst := some 24, op := _, type := _, pos := _, after := _, guard := _ }) (v := ?_) rfl (by kernel_rfl) (by kernel_rfl) (by kernel_rfl) (fun _ _ _ h => h) (Or.inl ⟨by rfl, ?_⟩) hHeld ?_
    rotate_left
    · (intro w hSw; obtain ⟨o1, o2, o3, o4, o5, o6, o7, o8, ⟨x0, o9⟩, ⟨x1, o10⟩, o11, o12⟩ := hSw; have oz := (o1.cell (p := ⟨b, o + k, none⟩) hbg).trans HZW.out; go_simp <;> with_reducible rfl)
    try simp only [Act.put, List.setIfInBounds_toArray, List.set_cons_zero, List.set_cons_succ]
    refine wpAnyH_take (i := 3) (oi := { dst := some 25, op := _, type := _, pos := _, after := _, guard := _ }) (v := ?_) rfl (by kernel_rfl) (by kernel_rfl) (by kernel_rfl) (fun _ _ _ h => h) (Or.inl ⟨by rfl, ?_⟩) hHeld ?_
    rotate_left
    · (intro w hSw; obtain ⟨o1, o2, o3, o4, o5, o6, o7, o8, ⟨x0, o9⟩, ⟨x1, o10⟩, o11, o12⟩ := hSw; have oz := (o1.cell (p := ⟨b, o + k, none⟩) hbg).trans HZW.out; go_simp <;> with_reducible rfl)
    try simp only [Act.put, List.setIfInBounds_toArray, List.set_cons_zero, List.set_cons_succ]
    refine wpAnyH_take (i := 6) (oi := { dst := some 28, op := _, type := _, pos := _, after := _, guard := _ }) (v := ?_) rfl (by kernel_rfl) (by kernel_rfl) (by kernel_rfl) (fun _ _ _ h => h) (Or.inl ⟨by rfl, ?_⟩) hHeld ?_
    rotate_left
    · (intro w hSw; obtain ⟨o1, o2, o3, o4, o5, o6, o7, o8, ⟨x0, o9⟩, ⟨x1, o10⟩, o11, o12⟩ := hSw; have oz := (o1.cell (p := ⟨b, o + k, none⟩) hbg).trans HZW.out; go_simp <;> with_reducible rfl)
    try simp only [Act.put, List.setIfInBounds_toArray, List.set_cons_zero, List.set_cons_succ]
    refine wpAnyH_take (i := 7) (oi := { dst := some 29, op := _, type := _, pos := _, after := _, guard := _ }) (v := ?_) rfl (by kernel_rfl) (by kernel_rfl) (by kernel_rfl) (fun _ _ _ h => h) (Or.inl ⟨by rfl, ?_⟩) hHeld ?_
    rotate_left
    · (intro w hSw; obtain ⟨o1, o2, o3, o4, o5, o6, o7, o8, ⟨x0, o9⟩, ⟨x1, o10⟩, o11, o12⟩ := hSw; have oz := (o1.cell (p := ⟨b, o + k, none⟩) hbg).trans HZW.out; go_simp <;> with_reducible rfl)
    try simp only [Act.put, List.setIfInBounds_toArray, List.set_cons_zero, List.set_cons_succ]
    refine wpAnyH_take (i := 8) (oi := { dst := some 30, op := _, type := _, pos := _, after := _, guard := _ }) (v := ?_) rfl (by kernel_rfl) (by kernel_rfl) (by kernel_rfl) (fun _ _ _ h => h) (Or.inl ⟨by rfl, ?_⟩) hHeld ?_
    rotate_left
    · (intro w hSw; obtain ⟨o1, o2, o3, o4, o5, o6, o7, o8, ⟨x0, o9⟩, ⟨x1, o10⟩, o11, o12⟩ := hSw; have oz := (o1.cell (p := ⟨b, o + k, none⟩) hbg).trans HZW.out; go_simp <;> with_reducible rfl)
    try simp only [Act.put, List.setIfInBounds_toArray, List.set_cons_zero, List.set_cons_succ]
    refine wpAnyH_take (i := 9) (oi := { dst := some 31, op := _, type := _, pos := _, after := _, guard := _ }) (v := ?_) rfl (by kernel_rfl) (by kernel_rfl) (by kernel_rfl) (fun _ _ _ h => h) (Or.inl ⟨by rfl, ?_⟩) hHeld ?_
    rotate_left
    · (intro w hSw; obtain ⟨o1, o2, o3, o4, o5, o6, o7, o8, ⟨x0, o9⟩, ⟨x1, o10⟩, o11, o12⟩ := hSw; have oz := (o1.cell (p := ⟨b, o + k, none⟩) hbg).trans HZW.out; go_simp <;> with_reducible rfl)
    try simp only [Act.put, List.setIfInBounds_toArray, List.set_cons_zero, List.set_cons_succ]
    refine wpAnyH_take (i := 10) (oi := { dst := some 32, op := _, type := _, pos := _, after := _, guard := _ }) (v := ?_) rfl (by kernel_rfl) (by kernel_rfl) (by kernel_rfl) (fun _ _ _ h => h) (Or.inl ⟨by rfl, ?_⟩) hHeld ?_
    rotate_left
    · (intro w hSw; obtain ⟨o1, o2, o3, o4, o5, o6, o7, o8, ⟨x0, o9⟩, ⟨x1, o10⟩, o11, o12⟩ := hSw; have oz := (o1.cell (p := ⟨b, o + k, none⟩) hbg).trans HZW.out; go_simp <;> with_reducible rfl)
    try simp only [Act.put, List.setIfInBounds_toArray, List.set_cons_zero, List.set_cons_succ]
    refine wpAnyH_ready (rs := [1]) (by kernel_rfl) (by simp) ?_
    refine AllReadyH.cons (o := { dst := some 23, op := _, type := _, pos := _, after := _, guard := _ }) rfl (fun K hK => ?_) AllReadyH.nil
    go_simp
    (refine (bof_any q _ HQ.out).mono ?_; rintro e u1 ⟨⟨t1, B1, m1, d1, rfl, hq1, Y1⟩, hk1⟩; have hKeep := HeldI.step hHeld hk1; have M1 := Y1.l64 HQ.out)
    go_wp2_with fail
    refine hK.out _ _ (by (try dsimp only); exact hKeep) (fun hHeld => ?_)
    clear hK K hKeep
    try simp only [Act.put, List.setIfInBounds_toArray, List.set_cons_zero, List.set_cons_succ]
    refine wpAnyH_ready (rs := [4]) (by kernel_rfl) (by simp) ?_
    refine AllReadyH.cons (o := { dst := some 26, op := _, type := _, pos := _, after := _, guard := _ }) rfl (fun K hK => ?_) AllReadyH.nil
    go_simp
    (refine (bof_any i.mult _ HM.out).mono ?_; rintro e u2 ⟨⟨t2, B2, m2, d2, rfl, hq2, Y2⟩, hk2⟩; have hKeep := HeldI.step hHeld hk2; have Y1 := Y1.below hk2; have M2 := Y2.l64 HM.out)
    go_wp2_with fail
    refine hK.out _ _ (by (try dsimp only); exact hKeep) (fun hHeld => ?_)
    clear hK K hKeep
    try simp only [Act.put, List.setIfInBounds_toArray, List.set_cons_zero, List.set_cons_succ]
    refine wpAnyH_ready (rs := [5]) (by kernel_rfl) (by simp) ?_
    refine AllReadyH.cons (o := { dst := some 27, op := _, type := _, pos := _, after := _, guard := _ }) rfl (fun K hK => ?_) AllReadyH.nil
    go_simp
    (refine (bmul_any q i.mult _ _ _ _ _ _ _ _ _ (by omega) (by omega) Y1 Y2).mono ?_; rintro e u3 ⟨⟨t3, B3, m3, d3, rfl, hq3, Y3⟩, hk3⟩; have hKeep := HeldI.step hHeld hk3; have M3 : m3 ≤ 128 := (by have := len_mul Y1 Y2 Y3; omega))
    go_wp2_with fail
    refine hK.out _ _ (by (try dsimp only); exact hKeep) (fun hHeld => ?_)
    clear hK K hKeep
    try simp only [Act.put, List.setIfInBounds_toArray, List.set_cons_zero, List.set_cons_succ]
    refine wpAnyH_ready (rs := [11]) (by kernel_rfl) (by simp) ?_
    refine AllReadyH.cons (o := { dst := some 33, op := _, type := _, pos := _, after := _, guard := _ }) rfl (fun K hK => ?_) AllReadyH.nil
    go_simp
    (refine (bof_any mk _ HMK.out).mono ?_; rintro e u4 ⟨⟨t4, B4, m4, d4, rfl, hq4, Y4⟩, hk4⟩; have hKeep := HeldI.step hHeld hk4; have Y3 := Y3.below hk4; have M4 := Y4.l64 HMK.out)
    go_wp2_with fail
    refine hK.out _ _ (by (try dsimp only); exact hKeep) (fun hHeld => ?_)
    clear hK K hKeep
    try simp only [Act.put, List.setIfInBounds_toArray, List.set_cons_zero, List.set_cons_succ]
    refine wpAnyH_ready (rs := [12]) (by kernel_rfl) (by simp) ?_
    refine AllReadyH.cons (o := { dst := some 34, op := _, type := _, pos := _, after := _, guard := _ }) rfl (fun K hK => ?_) AllReadyH.nil
    go_simp
    (refine (bmul_any (q * i.mult) mk _ _ _ _ _ _ _ _ _ (by omega) (by omega) Y3 Y4).mono ?_; rintro e u5 ⟨⟨t5, B5, m5, d5, rfl, hq5, Y5⟩, hk5⟩; have hKeep := HeldI.step hHeld hk5; have hsz6 := hHeld.lt; have hle6 := hHeld.le; have hH7 := hKeep)
    go_wp2_with fail
    refine hK.out _ _ (by (try dsimp only); exact hKeep) (fun hHeld => ?_)
    clear hK K hKeep
    try simp only [Act.put, List.setIfInBounds_toArray, List.set_cons_zero, List.set_cons_succ]
    refine wpAnyH_ready (rs := [13]) (by kernel_rfl) (by simp) ?_
    refine AllReadyH.cons (o := { dst := none, op := _, type := _, pos := _, after := _, guard := _ }) rfl (fun K hK => ?_) AllReadyH.nil
    have hHd := hHeld
    obtain ⟨o1, o2, o3, o4, o5, o6, o7, o8, ⟨x0, o9⟩, ⟨x1, o10⟩, o11, o12⟩ := hHd; have oz := (o1.cell (p := ⟨b, o + k, none⟩) hbg).trans HZW.out
    (have hKeep := HeldI.set hHeld hne (.bool t5) (.slice B5 m5 d5))
    go_simp
    refine hK.out _ _ (by (try dsimp only); exact hKeep) (fun hHeld => ?_)
    clear hK K hKeep
    try simp only [Act.put, List.setIfInBounds_toArray, List.set_cons_zero, List.set_cons_succ]
    refine wpAnyH_done (by kernel_rfl) ?_ _
    have hgot := HeldI.got hH7 t5 B5 m5 d5
    have hBW : Below w.heap.size w u5 := hB1.trans (hH7.bel.mono (by omega))
    have hW7 := hH7.le
    clear hHeld
    go_wp2_with fail
    refine bodyPost_ret (v := .agg #[.bool t5, .slice B5 m5 d5]) ?_ rfl ?_
    · simp [results, Try.results110, go_sem, hgot.1, hgot.2]
    · refine ⟨⟨t5, B5, m5, d5, rfl, hq5.le (by have := hB1.size; omega) (Nat.le_refl _), ?_⟩, ?_⟩
      · exact (Y5.far (fun b o hA h0 => by have h9 := hq5 b o hA h0; simp; omega) _).far (fun b o hA h0 => by have h9 := hq5 b o hA h0; simp; omega) _
      · refine Below.setCell (Below.setCell hBW ?_ _) ?_ _ <;> first | (simp; done) | (simp; omega)
  · have ez : shockZ i q s = 0 := if_neg hg
    rw [ez]
    have hgs : okB i = false ∨ (okB i = true ∧ (s < 0 ∨ (¬ s < 0 ∧ (i.mv.length : Int) ≤ s))) := by
      cases hok : okB i with
      | false => exact Or.inl rfl
      | true =>
        refine Or.inr ⟨rfl, ?_⟩
        rcases Int.lt_or_le s 0 with h1 | h1
        · exact Or.inl h1
        · exact Or.inr ⟨by omega, by refine Decidable.byContradiction fun h2 => hg ⟨hok, h1, by omega⟩⟩
    clear hg ez
    rcases hgs with hok | ⟨hok, hs1 | ⟨hs1, hs2⟩⟩
    all_goals
      have HOK := Lib.hid hok
      clear hok
      unfold insV
      go_enter Try.func110, Try.ntmps110
      go_wp2_with fail
      refine (HC.out _ HB1.out).mono ?_
      rintro e w1 ⟨rfl, hb1⟩
      rw [HOK.out]
      have I1 := HI1.out.below hb1
      have T1 := HT1.out.below hb1
      have hB1 := since_step HB1.out hb1
      clear hb1 HI1 HT1 HB1
      obtain ⟨i0, i1, i2, i3, i4, i5⟩ := _root_.id I1
      obtain ⟨q0, q1, q2, q3, q4⟩ := _root_.id T1
      go_wp2_with fail
      refine bodyPost_ret (v := .agg #[.bool false, .slice none 0 0]) ?_ rfl ?_
      · obtain ⟨f0, f1, f2, f3, f4⟩ := T1.set2 false none 0 0
        simp [results, Try.results110, go_sem, f1, f2]
      · refine ⟨⟨false, none, 0, 0, rfl, (fun b o h => by cases h), BigAt.zero _⟩, ?_⟩
        refine Below.setCell (Below.setCell hB1 ?_ _) ?_ _ <;> first | (simp; done) | (simp; omega)
end Go.Proofs.Ytldnponbkhgijaa
end
