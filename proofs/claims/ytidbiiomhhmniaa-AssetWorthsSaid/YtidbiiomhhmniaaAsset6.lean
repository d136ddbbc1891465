/-
  Layer 12, sixth part: the document's Sell (laid by gen_asset6.py).
-/
import Derived.Test.YtidbiiomhhmniaaAsset5
import Derived.IntWalk
namespace Go.Proofs.Ytidbiiomhhmniaa
open Go.ChangeShapes Go.WideShapes Go.ChangeAt Go.RowKit
set_option linter.unusedVariables false
set_option linter.unusedSimpArgs false

set_option maxRecDepth 100000 in
set_option maxHeartbeats 8000000 in
theorem rsell_any (id : Int) (P : Nat) (hc m : Int) (w : World) (hm : In64 m) (hP0 : 0 < P) (hP1 : P < 9223372036854775808) :
    Calls Try.prog 15 #[astV ⟨id, (P : Int), hc⟩, .int .i64 m] w fun e w' => bigR w w' e (upZ m P) ∧ Below w.heap.size w w' := by
  have hB0 := since_alloc (Below.refl _ w) (.cells #[.int .i64 id, .int .i64 (P : Int), .int .i64 hc] 23)
  have hI0 := AB.new w ⟨id, (P : Int), hc⟩ 23
  have hB1 := since_alloc hB0 (.cells #[.bool false, .slice none 0 0] 32)
  have hI1 := hI0.below ((Below.refl _ _).alloc (Nat.le_refl _) (.cells #[.bool false, .slice none 0 0] 32))
  have hT1 := BB.new (w.alloc (.cells #[.int .i64 id, .int .i64 (P : Int), .int .i64 hc] 23)) false none 0 0 32
  rw [World.size_alloc] at hT1
  simp only at hI1
  have HM := Lib.hid hm
  have HP0 := Lib.hid hP0
  have HP1 := Lib.hid hP1
  have HWR := Lib.hid (show IntKind.u64.wrap (P : Int) = (P : Int) from IntWalk.u64_in _ (by omega))
  clear hI0 hB0 hm
  unfold astV
  go_enter Try.func15, Try.ntmps15
  go_upto_region 1 with fail
  generalize ((w.alloc (.cells #[.int .i64 id, .int .i64 (P : Int), .int .i64 hc] 23)).alloc (.cells #[.bool false, .slice none 0 0] 32)) = W at *
  have hne : w.heap.size ≠ w.heap.size + 1 := by omega
  have hgl : w.heap.size + 1 < W.heap.size := hT1.1
  refine wp_region_held_drew (S := (fun V => HeldA W V w.heap.size (w.heap.size + 1) ⟨id, (P : Int), hc⟩)) (by kernel_rfl) (by exact HeldA.start hI1 hT1) (fun hHeld => ?_)
  refine wpAnyH_take (i := 0) (oi := { dst := some 5, op := _, type := _, pos := _, after := _, guard := _ }) (v := ?_) rfl (by kernel_rfl) (by kernel_rfl) (by kernel_rfl) (fun _ _ _ h => h) (Or.inl ⟨by rfl, ?_⟩) hHeld ?_
  rotate_left
  · (intro w hSw; obtain ⟨o1, o2, o3, o4, o5, o6, ⟨x0, o9⟩, ⟨x1, o10⟩, o11, o12⟩ := hSw; go_simp <;> with_reducible rfl)
  try simp only [Act.put, List.setIfInBounds_toArray, List.set_cons_zero, List.set_cons_succ]
  refine wpAnyH_take (i := 2) (oi := { dst := some 7, op := _, type := _, pos := _, after := _, guard := _ }) (v := ?_) rfl (by kernel_rfl) (by kernel_rfl) (by kernel_rfl) (fun _ _ _ h => h) (Or.inl ⟨by rfl, ?_⟩) hHeld ?_
  rotate_left
  · (intro w hSw; obtain ⟨o1, o2, o3, o4, o5, o6, ⟨x0, o9⟩, ⟨x1, o10⟩, o11, o12⟩ := hSw; go_simp <;> with_reducible rfl)
  try simp only [Act.put, List.setIfInBounds_toArray, List.set_cons_zero, List.set_cons_succ]
  refine wpAnyH_take (i := 3) (oi := { dst := some 8, op := _, type := _, pos := _, after := _, guard := _ }) (v := ?_) rfl (by kernel_rfl) (by kernel_rfl) (by kernel_rfl) (fun _ _ _ h => h) (Or.inl ⟨by rfl, ?_⟩) hHeld ?_
  rotate_left
  · (intro w hSw; obtain ⟨o1, o2, o3, o4, o5, o6, ⟨x0, o9⟩, ⟨x1, o10⟩, o11, o12⟩ := hSw; go_simp <;> with_reducible rfl)
  try simp only [Act.put, List.setIfInBounds_toArray, List.set_cons_zero, List.set_cons_succ]
  refine wpAnyH_take (i := 4) (oi := { dst := some 9, op := _, type := _, pos := _, after := _, guard := _ }) (v := ?_) rfl (by kernel_rfl) (by kernel_rfl) (by kernel_rfl) (fun _ _ _ h => h) (Or.inl ⟨by rfl, ?_⟩) hHeld ?_
  rotate_left
  · (intro w hSw; obtain ⟨o1, o2, o3, o4, o5, o6, ⟨x0, o9⟩, ⟨x1, o10⟩, o11, o12⟩ := hSw; go_simp <;> with_reducible rfl)
  try simp only [Act.put, List.setIfInBounds_toArray, List.set_cons_zero, List.set_cons_succ]
  refine wpAnyH_ready (rs := [1]) (by kernel_rfl) (by simp) ?_
  refine AllReadyH.cons (o := { dst := some 6, op := _, type := _, pos := _, after := _, guard := _ }) rfl (fun K hK => ?_) AllReadyH.nil
  go_simp
  (refine (bof_any m _ HM.out).mono ?_; rintro e u1 ⟨⟨t1, B1, m1, d1, rfl, hq1, Y1⟩, hk1⟩; have hKeep := HeldA.step hHeld hk1; have M1 := Y1.l64 HM.out)
  go_wp2_with fail
  refine hK.out _ _ (by (try dsimp only); exact hKeep) (fun hHeld => ?_)
  clear hK K hKeep
  try simp only [Act.put, List.setIfInBounds_toArray, List.set_cons_zero, List.set_cons_succ]
  refine wpAnyH_ready (rs := [5]) (by kernel_rfl) (by simp) ?_
  refine AllReadyH.cons (o := { dst := some 10, op := _, type := _, pos := _, after := _, guard := _ }) rfl (fun K hK => ?_) AllReadyH.nil
  go_simp
  (rw [HWR.out]; refine (rup_any m _ _ _ _ P _ (by omega) HP0.out HP1.out Y1).mono ?_; rintro e u3 ⟨⟨t3, B3, m3, d3, rfl, hq3, Y3⟩, hk3⟩; have hKeep := HeldA.step hHeld hk3; have hsz6 := hHeld.lt; have hle6 := hHeld.le; have hH7 := hKeep)
  go_wp2_with fail
  refine hK.out _ _ (by (try dsimp only); exact hKeep) (fun hHeld => ?_)
  clear hK K hKeep
  try simp only [Act.put, List.setIfInBounds_toArray, List.set_cons_zero, List.set_cons_succ]
  refine wpAnyH_ready (rs := [6]) (by kernel_rfl) (by simp) ?_
  refine AllReadyH.cons (o := { dst := none, op := _, type := _, pos := _, after := _, guard := _ }) rfl (fun K hK => ?_) AllReadyH.nil
  have hHd := hHeld
  obtain ⟨o1, o2, o3, o4, o5, o6, ⟨x0, o9⟩, ⟨x1, o10⟩, o11, o12⟩ := hHd
  (have hKeep := HeldA.set hHeld hne (.bool t3) (.slice B3 m3 d3))
  go_simp
  refine hK.out _ _ (by (try dsimp only); exact hKeep) (fun hHeld => ?_)
  clear hK K hKeep
  try simp only [Act.put, List.setIfInBounds_toArray, List.set_cons_zero, List.set_cons_succ]
  refine wpAnyH_done (by kernel_rfl) ?_ _
  have hgot := HeldA.got hH7 t3 B3 m3 d3
  have hBW : Below w.heap.size w u3 := hB1.trans (hH7.bel.mono (by omega))
  have hW7 := hH7.le
  clear hHeld
  go_wp2_with fail
  refine bodyPost_ret (v := .agg #[.bool t3, .slice B3 m3 d3]) ?_ rfl ?_
  · simp [results, Try.results15, go_sem, hgot.1, hgot.2]
  · refine ⟨⟨t3, B3, m3, d3, rfl, hq3.le (by have := hB1.size; omega) (Nat.le_refl _), ?_⟩, ?_⟩
    · exact (Y3.far (fun b o hA h0 => by have h9 := hq3 b o hA h0; simp; omega) _).far (fun b o hA h0 => by have h9 := hq3 b o hA h0; simp; omega) _
    · refine Below.setCell (Below.setCell hBW ?_ _) ?_ _ <;> first | (simp; done) | (simp; omega)
end Go.Proofs.Ytidbiiomhhmniaa
