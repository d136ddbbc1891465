import Derived.Test.YtahdmomadbbhoaaGreatDg12
import Derived.Test.YtahdmomadbbhoaaGreatDg15
section
namespace Go.Proofs.YtahdmomadbbhoaaGreat
open Go.ChangeShapes Go.WideShapes Go.ChangeAt Go.RowKit
set_option linter.unusedVariables false
set_option linter.unusedSimpArgs false

structure HeldI (W V : World) (gi gr : Nat) (i : Ins) (A : Option Addr) (c : Nat) : Prop where
  bel : Below gr W V
  le : W.heap.size ≤ V.heap.size
  lt : gr < V.heap.size
  i0 : V.cell? ⟨gi, 0, none⟩ = some (.int .i64 i.id)
  i1 : V.cell? ⟨gi, 1, none⟩ = some (.int .i64 i.mult)
  i2 : V.cell? ⟨gi, 2, none⟩ = some (.int .i64 i.price)
  i3 : V.cell? ⟨gi, 3, none⟩ = some (.int .i64 i.nxt)
  i4 : V.cell? ⟨gi, 4, none⟩ = some (.slice A i.mv.length c)
  e0 : ∃ v, V.cell? ⟨gr, 0, none⟩ = some v
  e1 : ∃ v, V.cell? ⟨gr, 1, none⟩ = some v
  f0 : V.frozen? ⟨gr, 0, none⟩ = false
  f1 : V.frozen? ⟨gr, 1, none⟩ = false
section
variable {W V V' : World} {gi gr : Nat} {i : Ins} {A : Option Addr} {c : Nat}
theorem HeldI.step (h : HeldI W V gi gr i A c) (hb : Below V.heap.size V V') : HeldI W V' gi gr i A c := by
  have hc : ∀ p u, V.cell? p = some u → V'.cell? p = some u := fun p u e => (hb.cell (World.block_lt_of_cell? _ _ e)).trans e
  exact ⟨h.bel.trans (hb.mono (Nat.le_of_lt h.lt)), Nat.le_trans h.le hb.size, Nat.lt_of_lt_of_le h.lt hb.size, hc _ _ h.i0, hc _ _ h.i1, hc _ _ h.i2, hc _ _ h.i3, hc _ _ h.i4, h.e0.imp fun v e => hc _ _ e, h.e1.imp fun v e => hc _ _ e,
    (hb.frozen (p := ⟨gr, 0, none⟩) h.lt).trans h.f0, (hb.frozen (p := ⟨gr, 1, none⟩) h.lt).trans h.f1⟩
theorem HeldI.start (hI : IB W gi i A c) (hB : BB W gr false none 0 0) : HeldI W W.drew gi gr i A c :=
  ⟨(Below.refl gr W).drew, Nat.le_refl _, hB.1, hI.2.1, hI.2.2.1, hI.2.2.2.1, hI.2.2.2.2.1, hI.2.2.2.2.2, ⟨_, hB.2.1⟩, ⟨_, hB.2.2.1⟩, hB.2.2.2.1, hB.2.2.2.2⟩
theorem HeldI.set (h : HeldI W V gi gr i A c) (hne : gi ≠ gr) (u v : Value) : HeldI W ((V.setCell ⟨gr, 0, none⟩ u).setCell ⟨gr, 1, none⟩ v) gi gr i A c := by
  obtain ⟨v0, h0⟩ := h.e0
  obtain ⟨v1, h1⟩ := h.e1
  have hne' : ¬ gr = gi := fun e => hne e.symm
  refine ⟨Below.setCell (Below.setCell h.bel (by simp) _) (by simp) _, by simpa using h.le, by simpa using h.lt, ?_, ?_, ?_, ?_, ?_, ?_, ?_, ?_, ?_⟩
  · simp [cell_set, hne', h.i0]
  · simp [cell_set, hne', h.i1]
  · simp [cell_set, hne', h.i2]
  · simp [cell_set, hne', h.i3]
  · simp [cell_set, hne', h.i4]
  · exact ⟨u, by simp [cell_set, h0, h1]⟩
  · exact ⟨v, by simp [cell_set, h0, h1]⟩
  · simpa using h.f0
  · simpa using h.f1
theorem HeldI.got (h : HeldI W V gi gr i A c) (s : Bool) (B : Option Addr) (m d : Nat) :
    ((V.setCell ⟨gr, 0, none⟩ (.bool s)).setCell ⟨gr, 1, none⟩ (.slice B m d)).cell? ⟨gr, 0, none⟩ = some (.bool s) ∧ ((V.setCell ⟨gr, 0, none⟩ (.bool s)).setCell ⟨gr, 1, none⟩ (.slice B m d)).cell? ⟨gr, 1, none⟩ = some (.slice B m d) := by
  obtain ⟨v0, h0⟩ := h.e0
  obtain ⟨v1, h1⟩ := h.e1
  exact ⟨by simp [cell_set, h0, h1], by simp [cell_set, h0, h1]⟩
end
theorem sub_len {w : World} {s : Bool} {A : Option Addr} {n c : Nat} {a b : Int} (h : BigAt w s A n c (b - a)) (ha : In64 a) (hb : In64 b) : n ≤ 66 := h.len.2 (by
  unfold In64 at ha hb
  rw [show (2 : Nat) ^ 66 = 73786976294838206464 from by decide]
  omega)
set_option maxRecDepth 100000 in
set_option maxHeartbeats 8000000 in
theorem rgain_any (i : Ins) (A : Option Addr) (c : Nat) (q a b : Int) (w : World) (h : InsAt w i A c) (hq : In64 q) (ha : In64 a) (hb : In64 b) :
    Calls Tryz.prog 18 #[insV i A c, .int .i64 q, .int .i64 a, .int .i64 b] w fun e w' => bigR w w' e (q * i.mult * (b - a)) ∧ Below w.heap.size w w' := by
  have hB0 := since_alloc (Below.refl _ w) (.cells #[.int .i64 i.id, .int .i64 i.mult, .int .i64 i.price, .int .i64 i.nxt, .slice A i.mv.length c] 26)
  have hI0 := IB.new w i A c 26
  have hB1 := since_alloc hB0 (.cells #[.bool false, .slice none 0 0] 50)
  have hI1 := hI0.below ((Below.refl _ _).alloc (Nat.le_refl _) (.cells #[.bool false, .slice none 0 0] 50))
  have hT1 := BB.new (w.alloc (.cells #[.int .i64 i.id, .int .i64 i.mult, .int .i64 i.price, .int .i64 i.nxt, .slice A i.mv.length c] 26)) false none 0 0 50
  rw [World.size_alloc] at hT1
  have hm64 := h.n64.2.1
  have HQ := Lib.hid hq
  have HA := Lib.hid ha
  have HBB := Lib.hid hb
  have HM := Lib.hid hm64
  clear hI0 hB0 hq ha hb hm64 h
  unfold insV
  go_enter Tryz.func18, Tryz.ntmps18
  go_upto_region 1 with fail
  generalize ((w.alloc (.cells #[.int .i64 i.id, .int .i64 i.mult, .int .i64 i.price, .int .i64 i.nxt, .slice A i.mv.length c] 26)).alloc (.cells #[.bool false, .slice none 0 0] 50)) = W at *
  have hne : w.heap.size ≠ w.heap.size + 1 := by omega
  have hgl : w.heap.size + 1 < W.heap.size := hT1.1
  refine wp_region_held_drew (S := (fun V => HeldI W V w.heap.size (w.heap.size + 1) i A c)) (by kernel_rfl) (by exact HeldI.start hI1 hT1) (fun hHeld => ?_)
  refine tkZ (i := 0) (oi := ⟨some 9, _, _, _, _, _⟩) (v := ?_) rfl (by kernel_rfl) (fun _ _ _ h => h) (Or.inl ⟨by rfl, ?_⟩) hHeld ?_
  rotate_left
  · (intro w hSw; obtain ⟨o1, o2, o3, o4, o5, o6, o7, o8, ⟨x0, o9⟩, ⟨x1, o10⟩, o11, o12⟩ := hSw; go_simp <;> with_reducible rfl)
  try simp only [pqZ]
  refine tkZ (i := 2) (oi := ⟨some 11, _, _, _, _, _⟩) (v := ?_) rfl (by kernel_rfl) (fun _ _ _ h => h) (Or.inl ⟨by rfl, ?_⟩) hHeld ?_
  rotate_left
  · (intro w hSw; obtain ⟨o1, o2, o3, o4, o5, o6, o7, o8, ⟨x0, o9⟩, ⟨x1, o10⟩, o11, o12⟩ := hSw; go_simp <;> with_reducible rfl)
  try simp only [pqZ]
  refine tkZ (i := 3) (oi := ⟨some 12, _, _, _, _, _⟩) (v := ?_) rfl (by kernel_rfl) (fun _ _ _ h => h) (Or.inl ⟨by rfl, ?_⟩) hHeld ?_
  rotate_left
  · (intro w hSw; obtain ⟨o1, o2, o3, o4, o5, o6, o7, o8, ⟨x0, o9⟩, ⟨x1, o10⟩, o11, o12⟩ := hSw; go_simp <;> with_reducible rfl)
  try simp only [pqZ]
  refine tkZ (i := 6) (oi := ⟨some 15, _, _, _, _, _⟩) (v := ?_) rfl (by kernel_rfl) (fun _ _ _ h => h) (Or.inl ⟨by rfl, ?_⟩) hHeld ?_
  rotate_left
  · (intro w hSw; obtain ⟨o1, o2, o3, o4, o5, o6, o7, o8, ⟨x0, o9⟩, ⟨x1, o10⟩, o11, o12⟩ := hSw; go_simp <;> with_reducible rfl)
  try simp only [pqZ]
  refine tkZ (i := 8) (oi := ⟨some 17, _, _, _, _, _⟩) (v := ?_) rfl (by kernel_rfl) (fun _ _ _ h => h) (Or.inl ⟨by rfl, ?_⟩) hHeld ?_
  rotate_left
  · (intro w hSw; obtain ⟨o1, o2, o3, o4, o5, o6, o7, o8, ⟨x0, o9⟩, ⟨x1, o10⟩, o11, o12⟩ := hSw; go_simp <;> with_reducible rfl)
  try simp only [pqZ]
  refine wpAnyH_ready (rs := [1]) (by kernel_rfl) (by simp) ?_
  refine AllReadyH.cons (o := ⟨some 10, _, _, _, _, _⟩) rfl (fun K hK => ?_) AllReadyH.nil
  go_simp
  (refine (bof_any q _ HQ.out).mono ?_; rintro e u1 ⟨⟨t1, B1, m1, d1, rfl, hq1, Y1⟩, hk1⟩; have hKeep := HeldI.step hHeld hk1; have M1 := Y1.l64 HQ.out)
  go_wp2_with fail
  refine hK.out _ _ (by (try dsimp only); exact hKeep) (fun hHeld => ?_)
  clear hK K hKeep
  try simp only [pqZ]
  refine wpAnyH_ready (rs := [4]) (by kernel_rfl) (by simp) ?_
  refine AllReadyH.cons (o := ⟨some 13, _, _, _, _, _⟩) rfl (fun K hK => ?_) AllReadyH.nil
  go_simp
  (refine (bof_any i.mult _ HM.out).mono ?_; rintro e u2 ⟨⟨t2, B2, m2, d2, rfl, hq2, Y2⟩, hk2⟩; have hKeep := HeldI.step hHeld hk2; have Y1 := Y1.below hk2; have M2 := Y2.l64 HM.out)
  go_wp2_with fail
  refine hK.out _ _ (by (try dsimp only); exact hKeep) (fun hHeld => ?_)
  clear hK K hKeep
  try simp only [pqZ]
  refine wpAnyH_ready (rs := [5]) (by kernel_rfl) (by simp) ?_
  refine AllReadyH.cons (o := ⟨some 14, _, _, _, _, _⟩) rfl (fun K hK => ?_) AllReadyH.nil
  go_simp
  (refine (bmul_any q i.mult _ _ _ _ _ _ _ _ _ (by omega) (by omega) Y1 Y2).mono ?_; rintro e u3 ⟨⟨t3, B3, m3, d3, rfl, hq3, Y3⟩, hk3⟩; have hKeep := HeldI.step hHeld hk3; have M3 : m3 ≤ 128 := (by have := len_mul Y1 Y2 Y3; omega))
  go_wp2_with fail
  refine hK.out _ _ (by (try dsimp only); exact hKeep) (fun hHeld => ?_)
  clear hK K hKeep
  try simp only [pqZ]
  refine wpAnyH_ready (rs := [7]) (by kernel_rfl) (by simp) ?_
  refine AllReadyH.cons (o := ⟨some 16, _, _, _, _, _⟩) rfl (fun K hK => ?_) AllReadyH.nil
  go_simp
  (refine (bof_any b _ HBB.out).mono ?_; rintro e u4 ⟨⟨t4, B4, m4, d4, rfl, hq4, Y4⟩, hk4⟩; have hKeep := HeldI.step hHeld hk4; have Y3 := Y3.below hk4; have M4 := Y4.l64 HBB.out)
  go_wp2_with fail
  refine hK.out _ _ (by (try dsimp only); exact hKeep) (fun hHeld => ?_)
  clear hK K hKeep
  try simp only [pqZ]
  refine wpAnyH_ready (rs := [9]) (by kernel_rfl) (by simp) ?_
  refine AllReadyH.cons (o := ⟨some 18, _, _, _, _, _⟩) rfl (fun K hK => ?_) AllReadyH.nil
  go_simp
  (refine (bof_any a _ HA.out).mono ?_; rintro e u5 ⟨⟨t5, B5, m5, d5, rfl, hq5, Y5⟩, hk5⟩; have hKeep := HeldI.step hHeld hk5; have Y3 := Y3.below hk5; have Y4 := Y4.below hk5; have M5 := Y5.l64 HA.out)
  go_wp2_with fail
  refine hK.out _ _ (by (try dsimp only); exact hKeep) (fun hHeld => ?_)
  clear hK K hKeep
  try simp only [pqZ]
  refine wpAnyH_ready (rs := [10]) (by kernel_rfl) (by simp) ?_
  refine AllReadyH.cons (o := ⟨some 19, _, _, _, _, _⟩) rfl (fun K hK => ?_) AllReadyH.nil
  go_simp
  (refine (bsub_any b a _ _ _ _ _ _ _ _ _ (by omega) (by omega) Y4 Y5).mono ?_; rintro e u6 ⟨⟨t6, B6, m6, d6, rfl, hq6, Y6⟩, hk6⟩; have hKeep := HeldI.step hHeld hk6; have Y3 := Y3.below hk6; have M6 := sub_len Y6 HA.out HBB.out)
  go_wp2_with fail
  refine hK.out _ _ (by (try dsimp only); exact hKeep) (fun hHeld => ?_)
  clear hK K hKeep
  try simp only [pqZ]
  refine wpAnyH_ready (rs := [11]) (by kernel_rfl) (by simp) ?_
  refine AllReadyH.cons (o := ⟨some 20, _, _, _, _, _⟩) rfl (fun K hK => ?_) AllReadyH.nil
  go_simp
  (refine (bmul_any (q * i.mult) (b - a) _ _ _ _ _ _ _ _ _ (by omega) (by omega) Y3 Y6).mono ?_; rintro e u7 ⟨⟨t7, B7, m7, d7, rfl, hq7, Y7⟩, hk7⟩; have hKeep := HeldI.step hHeld hk7; have hsz6 := hHeld.lt; have hle6 := hHeld.le; have hH7 := hKeep)
  go_wp2_with fail
  refine hK.out _ _ (by (try dsimp only); exact hKeep) (fun hHeld => ?_)
  clear hK K hKeep
  try simp only [pqZ]
  refine wpAnyH_ready (rs := [12]) (by kernel_rfl) (by simp) ?_
  refine AllReadyH.cons (o := ⟨none, _, _, _, _, _⟩) rfl (fun K hK => ?_) AllReadyH.nil
  have hHd := hHeld
  obtain ⟨o1, o2, o3, o4, o5, o6, o7, o8, ⟨x0, o9⟩, ⟨x1, o10⟩, o11, o12⟩ := hHd
  (have hKeep := HeldI.set hHeld hne (.bool t7) (.slice B7 m7 d7))
  go_simp
  refine hK.out _ _ (by (try dsimp only); exact hKeep) (fun hHeld => ?_)
  clear hK K hKeep
  try simp only [pqZ]
  refine wpAnyH_done (by kernel_rfl) ?_ _
  have hgot := HeldI.got hH7 t7 B7 m7 d7
  have hBW : Below w.heap.size w u7 := hB1.trans (hH7.bel.mono (by omega))
  have hW7 := hH7.le
  clear hHeld
  go_wp2_with fail
  refine bodyPost_ret (v := .agg #[.bool t7, .slice B7 m7 d7]) ?_ rfl ?_
  · simp [results, Tryz.results18, go_sem, hgot.1, hgot.2]
  · refine ⟨⟨t7, B7, m7, d7, rfl, hq7.le (by have := hB1.size; omega) (Nat.le_refl _), ?_⟩, ?_⟩
    · exact (Y7.far (fun b o hA h0 => by have h9 := hq7 b o hA h0; simp; omega) _).far (fun b o hA h0 => by have h9 := hq7 b o hA h0; simp; omega) _
    · refine Below.setCell (Below.setCell hBW ?_ _) ?_ _ <;> first | (simp; done) | (simp; omega)
end Go.Proofs.YtahdmomadbbhoaaGreat
end
