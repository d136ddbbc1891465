/-
  Layer 12, fourth part: the document's Worth (laid by gen_asset4.py).
-/
import Derived.Test.YtidbiiomhhmniaaAsset3
import Derived.Test.YtidbiiomhhmniaaBig5
namespace Go.Proofs.Ytidbiiomhhmniaa
open Go.ChangeShapes Go.WideShapes Go.ChangeAt Go.RowKit
set_option linter.unusedVariables false
set_option linter.unusedSimpArgs false

theorem BigAt.l64 {w : World} {s : Bool} {A : Option Addr} {n c : Nat} {z : Int} (h : BigAt w s A n c z) (hz : In64 z) : n ≤ 64 := (h.len (k := 64)).2 (by unfold In64 at hz; simp; omega)

/-- what holds all through a region that makes one number of an asset: the box, the result's block -/
structure HeldA (W V : World) (gi gr : Nat) (a : Ast) : Prop where
  bel : Below gr W V
  le : W.heap.size ≤ V.heap.size
  lt : gr < V.heap.size
  i0 : V.cell? ⟨gi, 0, none⟩ = some (.int .i64 a.id)
  i1 : V.cell? ⟨gi, 1, none⟩ = some (.int .i64 a.price)
  i2 : V.cell? ⟨gi, 2, none⟩ = some (.int .i64 a.hc)
  e0 : ∃ v, V.cell? ⟨gr, 0, none⟩ = some v
  e1 : ∃ v, V.cell? ⟨gr, 1, none⟩ = some v
  f0 : V.frozen? ⟨gr, 0, none⟩ = false
  f1 : V.frozen? ⟨gr, 1, none⟩ = false
section
variable {W V V' : World} {gi gr : Nat} {a : Ast}
theorem HeldA.step (h : HeldA W V gi gr a) (hb : Below V.heap.size V V') : HeldA W V' gi gr a := by
  have hc : ∀ p u, V.cell? p = some u → V'.cell? p = some u := fun p u e => (hb.cell (World.block_lt_of_cell? _ _ e)).trans e
  exact ⟨h.bel.trans (hb.mono (Nat.le_of_lt h.lt)), Nat.le_trans h.le hb.size, Nat.lt_of_lt_of_le h.lt hb.size, hc _ _ h.i0, hc _ _ h.i1, hc _ _ h.i2, h.e0.imp fun v e => hc _ _ e, h.e1.imp fun v e => hc _ _ e,
    (hb.frozen (p := ⟨gr, 0, none⟩) h.lt).trans h.f0, (hb.frozen (p := ⟨gr, 1, none⟩) h.lt).trans h.f1⟩
theorem HeldA.start (hI : AB W gi a) (hB : BB W gr false none 0 0) : HeldA W W.drew gi gr a :=
  ⟨(Below.refl gr W).drew, Nat.le_refl _, hB.1, hI.2.1, hI.2.2.1, hI.2.2.2, ⟨_, hB.2.1⟩, ⟨_, hB.2.2.1⟩, hB.2.2.2.1, hB.2.2.2.2⟩
theorem HeldA.set (h : HeldA W V gi gr a) (hne : gi ≠ gr) (u v : Value) : HeldA W ((V.setCell ⟨gr, 0, none⟩ u).setCell ⟨gr, 1, none⟩ v) gi gr a := by
  obtain ⟨v0, h0⟩ := h.e0
  obtain ⟨v1, h1⟩ := h.e1
  have hne' : ¬ gr = gi := fun e => hne e.symm
  refine ⟨Below.setCell (Below.setCell h.bel (by simp) _) (by simp) _, by simpa using h.le, by simpa using h.lt, ?_, ?_, ?_, ?_, ?_, ?_, ?_⟩
  · simp [cell_set, hne', h.i0]
  · simp [cell_set, hne', h.i1]
  · simp [cell_set, hne', h.i2]
  · exact ⟨u, by simp [cell_set, h0, h1]⟩
  · exact ⟨v, by simp [cell_set, h0, h1]⟩
  · simpa using h.f0
  · simpa using h.f1
theorem HeldA.got (h : HeldA W V gi gr a) (s : Bool) (B : Option Addr) (m d : Nat) :
    ((V.setCell ⟨gr, 0, none⟩ (.bool s)).setCell ⟨gr, 1, none⟩ (.slice B m d)).cell? ⟨gr, 0, none⟩ = some (.bool s) ∧ ((V.setCell ⟨gr, 0, none⟩ (.bool s)).setCell ⟨gr, 1, none⟩ (.slice B m d)).cell? ⟨gr, 1, none⟩ = some (.slice B m d) := by
  obtain ⟨v0, h0⟩ := h.e0
  obtain ⟨v1, h1⟩ := h.e1
  exact ⟨by simp [cell_set, h0, h1], by simp [cell_set, h0, h1]⟩
end

set_option maxRecDepth 100000 in
set_option maxHeartbeats 8000000 in
theorem rworth_any (a : Ast) (q : Int) (w : World) (hq : In64 q) (hp : In64 a.price) :
    Calls Try.prog 12 #[astV a, .int .i64 q] w fun e w' => bigR w w' e (q * a.price) ∧ Below w.heap.size w w' := by
  have hB0 := since_alloc (Below.refl _ w) (.cells #[.int .i64 a.id, .int .i64 a.price, .int .i64 a.hc] 23)
  have hI0 := AB.new w a 23
  have hB1 := since_alloc hB0 (.cells #[.bool false, .slice none 0 0] 32)
  have hI1 := hI0.below ((Below.refl _ _).alloc (Nat.le_refl _) (.cells #[.bool false, .slice none 0 0] 32))
  have hT1 := BB.new (w.alloc (.cells #[.int .i64 a.id, .int .i64 a.price, .int .i64 a.hc] 23)) false none 0 0 32
  rw [World.size_alloc] at hT1
  have HQ := Lib.hid hq
  have HP := Lib.hid hp
  clear hI0 hB0 hq hp
  unfold astV
  go_enter Try.func12, Try.ntmps12
  go_upto_region 1 with fail
  generalize ((w.alloc (.cells #[.int .i64 a.id, .int .i64 a.price, .int .i64 a.hc] 23)).alloc (.cells #[.bool false, .slice none 0 0] 32)) = W at *
  have hne : w.heap.size ≠ w.heap.size + 1 := by omega
  have hgl : w.heap.size + 1 < W.heap.size := hT1.1
  refine wp_region_held_drew (S := (fun V => HeldA W V w.heap.size (w.heap.size + 1) a)) (by kernel_rfl) (by exact HeldA.start hI1 hT1) (fun hHeld => ?_)
  refine wpAnyH_take (i := 0) (oi := { dst := some 5, op := _, type := _, pos := _, after := _, guard := _ }) (v := ?_) rfl (by kernel_rfl) (by kernel_rfl) (by kernel_rfl) (fun _ _ _ h => h) (Or.inl ⟨by rfl, ?_⟩) hHeld ?_
  rotate_left
  · (intro w hSw; obtain ⟨o1, o2, o3, o4, o5, o6, ⟨x0, o9⟩, ⟨x1, o10⟩, o11, o12⟩ := hSw; go_simp <;> with_reducible rfl)
  try simp only [Act.put, List.setIfInBounds_toArray, List.set_cons_zero, List.set_cons_succ]
  refine wpAnyH_take (i := 2) (oi := { dst := some 7, op := _, type := _, pos := _, after := _, guard := _ }) (v := ?_) rfl (by kernel_rfl) (by kernel_rfl) (by kernel_rfl) (fun _ _ _ h => h) (Or.inl ⟨by rfl, ?_⟩) hHeld ?_
  rotate_left
  · (intro w hSw; obtain ⟨o1, o2, o3, o4, o5, o6, ⟨x0, o9⟩, ⟨x1, o10⟩, o11, o12⟩ := hSw; go_simp <;> with_reducible rfl)
  try simp only [Act.put, List.setIfInBounds_toArray, List.set_cons_zero, List.set_cons_succ]
  refine wpAnyH_take (i := 3) (oi := { dst := some 8, op := _, type := _, pos := _, after := _, guard := _ }) (v := ?_) rfl (by kernel_rfl) (by kernel_rfl) (by kernel_rfl) (fun _ _ _ h => h) (Or.inl ⟨by rfl, ?_⟩) hHeld ?_
  rotate_left
  · (intro w hSw; obtain ⟨o1, o2, o3, o4, o5, o6, ⟨x0, o9⟩, ⟨x1, o10⟩, o11, o12⟩ := hSw; go_simp <;> with_reducible rfl)
  try simp only [Act.put, List.setIfInBounds_toArray, List.set_cons_zero, List.set_cons_succ]
  refine wpAnyH_ready (rs := [1]) (by kernel_rfl) (by simp) ?_
  refine AllReadyH.cons (o := { dst := some 6, op := _, type := _, pos := _, after := _, guard := _ }) rfl (fun K hK => ?_) AllReadyH.nil
  go_simp
  (refine (bof_any q _ HQ.out).mono ?_; rintro e u1 ⟨⟨t1, B1, m1, d1, rfl, hq1, Y1⟩, hk1⟩; have hKeep := HeldA.step hHeld hk1; have M1 := Y1.l64 HQ.out)
  go_wp2_with fail
  refine hK.out _ _ (by (try dsimp only); exact hKeep) (fun hHeld => ?_)
  clear hK K hKeep
  try simp only [Act.put, List.setIfInBounds_toArray, List.set_cons_zero, List.set_cons_succ]
  refine wpAnyH_ready (rs := [4]) (by kernel_rfl) (by simp) ?_
  refine AllReadyH.cons (o := { dst := some 9, op := _, type := _, pos := _, after := _, guard := _ }) rfl (fun K hK => ?_) AllReadyH.nil
  go_simp
  (refine (bof_any a.price _ HP.out).mono ?_; rintro e u2 ⟨⟨t2, B2, m2, d2, rfl, hq2, Y2⟩, hk2⟩; have hKeep := HeldA.step hHeld hk2; have Y1 := Y1.below hk2; have M2 := Y2.l64 HP.out)
  go_wp2_with fail
  refine hK.out _ _ (by (try dsimp only); exact hKeep) (fun hHeld => ?_)
  clear hK K hKeep
  try simp only [Act.put, List.setIfInBounds_toArray, List.set_cons_zero, List.set_cons_succ]
  refine wpAnyH_ready (rs := [5]) (by kernel_rfl) (by simp) ?_
  refine AllReadyH.cons (o := { dst := some 10, op := _, type := _, pos := _, after := _, guard := _ }) rfl (fun K hK => ?_) AllReadyH.nil
  go_simp
  (refine (bmul_any q a.price _ _ _ _ _ _ _ _ _ (by omega) (by omega) Y1 Y2).mono ?_; rintro e u3 ⟨⟨t3, B3, m3, d3, rfl, hq3, Y3⟩, hk3⟩; have hKeep := HeldA.step hHeld hk3; have hsz6 := hHeld.lt; have hle6 := hHeld.le; have hH7 := hKeep)
  go_wp2_with fail
  refine hK.out _ _ (by (try dsimp only); exact hKeep) (fun hHeld => ?_)
  clear hK K hKeep
  try simp only [Act.put, List.setIfInBounds_toArray, List.set_cons_zero, List.set_cons_succ]
  refine wpAnyH_ready (rs := [6]) (by kernel_rfl) (by simp) ?_
  refine AllReadyH.cons (o := { dst := none, op := _, type := _, pos := _, after := _, guard := _ }) rfl (fun K hK => ?_) AllReadyH.nil
  have hHd := hHeld
  obtain ⟨o1, o2, o3, o4, o5, o6, ⟨x0, o9⟩, ⟨x1, o10⟩, o11, o12⟩ := hHd
  (have hKeep := HeldA.set hHeld hne (.bool t3) (.slice B3 m3 d3))
  go_simp
  refine hK.out _ _ (by (try dsimp only); exact hKeep) (fun hHeld => ?_)
  clear hK K hKeep
  try simp only [Act.put, List.setIfInBounds_toArray, List.set_cons_zero, List.set_cons_succ]
  refine wpAnyH_done (by kernel_rfl) ?_ _
  have hgot := HeldA.got hH7 t3 B3 m3 d3
  have hBW : Below w.heap.size w u3 := hB1.trans (hH7.bel.mono (by omega))
  have hW7 := hH7.le
  clear hHeld
  go_wp2_with fail
  refine bodyPost_ret (v := .agg #[.bool t3, .slice B3 m3 d3]) ?_ rfl ?_
  · simp [results, Try.results12, go_sem, hgot.1, hgot.2]
  · refine ⟨⟨t3, B3, m3, d3, rfl, hq3.le (by have := hB1.size; omega) (Nat.le_refl _), ?_⟩, ?_⟩
    · exact (Y3.far (fun b o hA h0 => by have h9 := hq3 b o hA h0; simp; omega) _).far (fun b o hA h0 => by have h9 := hq3 b o hA h0; simp; omega) _
    · refine Below.setCell (Below.setCell hBW ?_ _) ?_ _ <;> first | (simp; done) | (simp; omega)

end Go.Proofs.Ytidbiiomhhmniaa
