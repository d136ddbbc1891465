import Derived.Test.YtpmnjojednbnpaaCr09
section
namespace Go.Proofs.Ytpmnjojednbnpaa
open Go.ChangeShapes Go.WideShapes Go.ChangeAt Go.RowKit
set_option linter.unusedVariables false
set_option linter.unusedSimpArgs false

set_option maxHeartbeats 8000000 in
set_option maxRecDepth 100000 in
theorem rdebW (g rb : Nat) (A : Option Addr) (c : Nat) (B : List Nat) (er : Int) (w : World) (hR : Rdr w g A c B er) (hx : w.heap[rb]? = some (.cells #[.pointer (some ⟨g, 0, none⟩)] 82 (0, 0))) {x1 x2 x3 x4 x5 : Int} {s1 s2 s3 s4 s5 : Rs} (e1 : rdM ⟨B, er⟩ = (x1, s1)) (e2 : rdM s1 = (x2, s2)) (e3 : rdM s2 = (x3, s3)) (e4 : rdM s3 = (x4, s4)) (e5 : rdM s4 = (x5, s5)) :
    Calls Try.prog 58 #[.pointer (some ⟨rb, 0, none⟩)] w fun e w' => e = .returned (.agg #[.int .i64 x1, .int .i64 x2, .int .i64 x3, .int .i64 x4, .int .i64 x5]) ∧ Chg g none w w' ∧ ∃ A' c', Rdr w' g A' c' s5.B s5.err := by
  have hal := since_alloc (Below.refl _ w) (.cells #[.int .i64 0, .int .i64 0, .int .i64 0, .int .i64 0, .int .i64 0] 94)
  have hrl : rb < w.heap.size := (Array.getElem?_eq_some_iff.1 hx).1
  have hbx := (hal.block rb hrl).trans hx
  have hby := heap_alloc_new w (.cells #[.int .i64 0, .int .i64 0, .int .i64 0, .int .i64 0, .int .i64 0] 94)
  have hR1 := hR.below hal
  obtain ⟨Y, hY⟩ : ∃ Y, Y = w.alloc (.cells #[.int .i64 0, .int .i64 0, .int .i64 0, .int .i64 0, .int .i64 0] 94) := ⟨_, rfl⟩
  rw [← hY] at hal hbx hby hR1
  have HY := Lib.hid hY
  have HAL := Lib.hid hal
  have HF2 : Hid (∀ V, Chg g (some w.heap.size) Y V → V.cell? ⟨rb, 0, none⟩ = some (.pointer (some ⟨g, 0, none⟩)) ∧ rb < V.heap.size) := Lib.hid fun V hC => by
    have h := hR1.keepRow hC hbx (by omega) (fun cs t f e => by injection e with _ e2 _; subst e2; decide)
    exact ⟨(cell_of_row V rb 0 _ _ (0, 0) h).trans rfl, (Array.getElem?_eq_some_iff.1 h).1⟩
  have HR0 := Lib.hid (hR1.below (Below.refl _ Y).drew)
  have hz0 : Y.drew.heap[w.heap.size]? = some (.cells #[.int .i64 0, .int .i64 0, .int .i64 0, .int .i64 0, .int .i64 0] 94 (0, 0)) := hby
  have HZ0 := Lib.hid hz0
  have hgl := hR.blk
  have HGL := Lib.hid (Array.getElem?_eq_some_iff.1 hgl).1
  have HE1 := Lib.hid e1
  have HE2 := Lib.hid e2
  have HE3 := Lib.hid e3
  have HE4 := Lib.hid e4
  have HE5 := Lib.hid e5
  clear hgl hR hR1 hal hbx hby hz0 hY hx hrl e1 e2 e3 e4 e5
  go_enter Try.func58, Try.ntmps58
  go_upto_region 1 with fail
  rw [← HY.out]
  refine wp_region_held_drew (S := (fun V => Chg g (some w.heap.size) Y V)) (by kernel_rfl) (by exact (Chg.of_below (Below.refl _ Y).drew)) (fun hHeld => ?_)
  refine wpAnyH_take (i := 0) (oi := { dst := some 2, op := _, type := _, pos := _, after := _, guard := _ }) (v := ?_) rfl (by kernel_rfl) (by kernel_rfl) (by kernel_rfl) (fun _ _ _ h => h) (Or.inl ⟨by rfl, ?_⟩) hHeld ?_
  rotate_left
  · (intro w hSw; obtain ⟨p0, pl⟩ := HF2.out _ (hSw); go_simp <;> with_reducible rfl)
  try simp only [Act.put, List.setIfInBounds_toArray, List.set_cons_zero, List.set_cons_succ]
  refine wpAnyH_take (i := 2) (oi := { dst := some 4, op := _, type := _, pos := _, after := _, guard := _ }) (v := ?_) rfl (by kernel_rfl) (by kernel_rfl) (by kernel_rfl) (fun _ _ _ h => h) (Or.inl ⟨by rfl, ?_⟩) hHeld ?_
  rotate_left
  · (intro w hSw; obtain ⟨p0, pl⟩ := HF2.out _ (hSw); go_simp <;> with_reducible rfl)
  try simp only [Act.put, List.setIfInBounds_toArray, List.set_cons_zero, List.set_cons_succ]
  refine wpAnyH_take (i := 4) (oi := { dst := some 6, op := _, type := _, pos := _, after := _, guard := _ }) (v := ?_) rfl (by kernel_rfl) (by kernel_rfl) (by kernel_rfl) (fun _ _ _ h => h) (Or.inl ⟨by rfl, ?_⟩) hHeld ?_
  rotate_left
  · (intro w hSw; obtain ⟨p0, pl⟩ := HF2.out _ (hSw); go_simp <;> with_reducible rfl)
  try simp only [Act.put, List.setIfInBounds_toArray, List.set_cons_zero, List.set_cons_succ]
  refine wpAnyH_ready (rs := [1]) (by kernel_rfl) (by simp) ?_
  refine AllReadyH.cons (o := { dst := some 3, op := _, type := _, pos := _, after := _, guard := _ }) rfl (fun K hK => ?_) AllReadyH.nil
  go_simp
  refine (runitW g _ _ B er _ HR0.out HE1.out HE2.out).mono ?_
  rintro e y2 ⟨rfl, hc2, A2, c2, hr2⟩
  have hKeep : Chg g (some w.heap.size) Y y2 := hHeld.trans hc2.rowR (.inl rfl)
  have hC2 := hKeep
  have hz2 := (HR0.out).keepR hc2 (HZ0.out) (fun cs t f e => by injection e with _ e2 _; subst e2; decide)
  clear hc2
  go_wp2_with fail
  refine hK.out _ _ (by (try dsimp only); exact hKeep) (fun hHeld => ?_)
  clear hK K hKeep
  try simp only [Act.put, List.setIfInBounds_toArray, List.set_cons_zero, List.set_cons_succ]
  refine wpAnyH_ready (rs := [3]) (by kernel_rfl) (by simp) ?_
  refine AllReadyH.cons (o := { dst := some 5, op := _, type := _, pos := _, after := _, guard := _ }) rfl (fun K hK => ?_) AllReadyH.nil
  go_simp
  refine (runitW g _ _ s2.B s2.err _ hr2 HE3.out HE4.out).mono ?_
  rintro e y4 ⟨rfl, hc4, A4, c4, hr4⟩
  have hKeep : Chg g (some w.heap.size) Y y4 := hHeld.trans hc4.rowR (.inl rfl)
  have hC4 := hKeep
  have hz4 := (hr2).keepR hc4 (hz2) (fun cs t f e => by injection e with _ e2 _; subst e2; decide)
  clear hc4
  go_wp2_with fail
  refine hK.out _ _ (by (try dsimp only); exact hKeep) (fun hHeld => ?_)
  clear hK K hKeep
  try simp only [Act.put, List.setIfInBounds_toArray, List.set_cons_zero, List.set_cons_succ]
  refine wpAnyH_ready (rs := [5]) (by kernel_rfl) (by simp) ?_
  refine AllReadyH.cons (o := { dst := some 7, op := _, type := _, pos := _, after := _, guard := _ }) rfl (fun K hK => ?_) AllReadyH.nil
  go_simp
  refine (rlongW g _ _ s4.B s4.err _ hr4).mono ?_
  rw [show rdM ⟨s4.B, s4.err⟩ = (x5, s5) from HE5.out]
  rintro e y5 ⟨rfl, hc5, A5, c5, hr5⟩
  have hKeep : Chg g (some w.heap.size) Y y5 := hHeld.trans hc5.rowR (.inl rfl)
  have hC5 := hKeep
  have hz5 := (hr4).keepR hc5 (hz4) (fun cs t f e => by injection e with _ e2 _; subst e2; decide)
  clear hc5
  go_wp2_with fail
  refine hK.out _ _ (by (try dsimp only); exact hKeep) (fun hHeld => ?_)
  clear hK K hKeep
  try simp only [Act.put, List.setIfInBounds_toArray, List.set_cons_zero, List.set_cons_succ]
  refine wpAnyH_take (i := 6) (oi := { dst := some 8, op := _, type := _, pos := _, after := _, guard := _ }) (v := ?_) rfl (by kernel_rfl) (by kernel_rfl) (by kernel_rfl) (fun _ _ _ h => h) (Or.inl ⟨by rfl, ?_⟩) hHeld ?_
  rotate_left
  · (intro w hSw; obtain ⟨p0, pl⟩ := HF2.out _ (hSw); go_simp <;> with_reducible rfl)
  try simp only [Act.put, List.setIfInBounds_toArray, List.set_cons_zero, List.set_cons_succ]
  refine wpAnyH_ready (rs := [7]) (by kernel_rfl) (by simp) ?_
  refine AllReadyH.cons (o := { dst := none, op := _, type := _, pos := _, after := _, guard := _ }) rfl (fun K hK => ?_) AllReadyH.nil
  have hHd := hHeld
  obtain ⟨p0, pl⟩ := HF2.out _ (hHd)
  have hlt : w.heap.size < y5.heap.size := (Array.getElem?_eq_some_iff.1 hz5).1
  have k0 : y5.cell? ⟨w.heap.size, 0, none⟩ = some (.int .i64 0) := (cell_of_row y5 w.heap.size 0 _ _ (0, 0) hz5).trans rfl
  have f0 : y5.frozen? ⟨w.heap.size, 0, none⟩ = false := by simp [World.frozen?, hz5]
  have k1 : y5.cell? ⟨w.heap.size, 1, none⟩ = some (.int .i64 0) := (cell_of_row y5 w.heap.size 1 _ _ (0, 0) hz5).trans rfl
  have f1 : y5.frozen? ⟨w.heap.size, 1, none⟩ = false := by simp [World.frozen?, hz5]
  have k2 : y5.cell? ⟨w.heap.size, 2, none⟩ = some (.int .i64 0) := (cell_of_row y5 w.heap.size 2 _ _ (0, 0) hz5).trans rfl
  have f2 : y5.frozen? ⟨w.heap.size, 2, none⟩ = false := by simp [World.frozen?, hz5]
  have k3 : y5.cell? ⟨w.heap.size, 3, none⟩ = some (.int .i64 0) := (cell_of_row y5 w.heap.size 3 _ _ (0, 0) hz5).trans rfl
  have f3 : y5.frozen? ⟨w.heap.size, 3, none⟩ = false := by simp [World.frozen?, hz5]
  have k4 : y5.cell? ⟨w.heap.size, 4, none⟩ = some (.int .i64 0) := (cell_of_row y5 w.heap.size 4 _ _ (0, 0) hz5).trans rfl
  have f4 : y5.frozen? ⟨w.heap.size, 4, none⟩ = false := by simp [World.frozen?, hz5]
  have hKeep : Chg g (some w.heap.size) Y ((((((y5).setCell ⟨w.heap.size, 0, none⟩ (.int .i64 x1)).setCell ⟨w.heap.size, 1, none⟩ (.int .i64 x2)).setCell ⟨w.heap.size, 2, none⟩ (.int .i64 x3)).setCell ⟨w.heap.size, 3, none⟩ (.int .i64 x4)).setCell ⟨w.heap.size, 4, none⟩ (.int .i64 x5)) := (((((hC5.setRow (p := ⟨w.heap.size, 0, none⟩) rfl (.int .i64 x1)).setRow (p := ⟨w.heap.size, 1, none⟩) rfl (.int .i64 x2)).setRow (p := ⟨w.heap.size, 2, none⟩) rfl (.int .i64 x3)).setRow (p := ⟨w.heap.size, 3, none⟩) rfl (.int .i64 x4)).setRow (p := ⟨w.heap.size, 4, none⟩) rfl (.int .i64 x5))
  skip
  go_simp
  refine hK.out _ _ (by (try dsimp only); exact hKeep) (fun hHeld => ?_)
  clear hK K hKeep
  try simp only [Act.put, List.setIfInBounds_toArray, List.set_cons_zero, List.set_cons_succ]
  refine wpAnyH_done (by kernel_rfl) ?_ _
  go_wp2_with fail
  have kf0 : ((((((y5).setCell ⟨w.heap.size, 0, none⟩ (.int .i64 x1)).setCell ⟨w.heap.size, 1, none⟩ (.int .i64 x2)).setCell ⟨w.heap.size, 2, none⟩ (.int .i64 x3)).setCell ⟨w.heap.size, 3, none⟩ (.int .i64 x4)).setCell ⟨w.heap.size, 4, none⟩ (.int .i64 x5)).cell? ⟨w.heap.size, 0, none⟩ = some (.int .i64 x1) := by simp [World.cell?_setCell_other, World.cell?_setCell_same, k0, k1, k2, k3, k4]
  have kf1 : ((((((y5).setCell ⟨w.heap.size, 0, none⟩ (.int .i64 x1)).setCell ⟨w.heap.size, 1, none⟩ (.int .i64 x2)).setCell ⟨w.heap.size, 2, none⟩ (.int .i64 x3)).setCell ⟨w.heap.size, 3, none⟩ (.int .i64 x4)).setCell ⟨w.heap.size, 4, none⟩ (.int .i64 x5)).cell? ⟨w.heap.size, 1, none⟩ = some (.int .i64 x2) := by simp [World.cell?_setCell_other, World.cell?_setCell_same, k0, k1, k2, k3, k4]
  have kf2 : ((((((y5).setCell ⟨w.heap.size, 0, none⟩ (.int .i64 x1)).setCell ⟨w.heap.size, 1, none⟩ (.int .i64 x2)).setCell ⟨w.heap.size, 2, none⟩ (.int .i64 x3)).setCell ⟨w.heap.size, 3, none⟩ (.int .i64 x4)).setCell ⟨w.heap.size, 4, none⟩ (.int .i64 x5)).cell? ⟨w.heap.size, 2, none⟩ = some (.int .i64 x3) := by simp [World.cell?_setCell_other, World.cell?_setCell_same, k0, k1, k2, k3, k4]
  have kf3 : ((((((y5).setCell ⟨w.heap.size, 0, none⟩ (.int .i64 x1)).setCell ⟨w.heap.size, 1, none⟩ (.int .i64 x2)).setCell ⟨w.heap.size, 2, none⟩ (.int .i64 x3)).setCell ⟨w.heap.size, 3, none⟩ (.int .i64 x4)).setCell ⟨w.heap.size, 4, none⟩ (.int .i64 x5)).cell? ⟨w.heap.size, 3, none⟩ = some (.int .i64 x4) := by simp [World.cell?_setCell_other, World.cell?_setCell_same, k0, k1, k2, k3, k4]
  have kf4 : ((((((y5).setCell ⟨w.heap.size, 0, none⟩ (.int .i64 x1)).setCell ⟨w.heap.size, 1, none⟩ (.int .i64 x2)).setCell ⟨w.heap.size, 2, none⟩ (.int .i64 x3)).setCell ⟨w.heap.size, 3, none⟩ (.int .i64 x4)).setCell ⟨w.heap.size, 4, none⟩ (.int .i64 x5)).cell? ⟨w.heap.size, 4, none⟩ = some (.int .i64 x5) := by simp [World.cell?_setCell_other, World.cell?_setCell_same, k0, k1, k2, k3, k4]
  refine bodyPost_ret (v := .agg #[.int .i64 x1, .int .i64 x2, .int .i64 x3, .int .i64 x4, .int .i64 x5]) ?_ rfl ⟨rfl, hHeld.fall HAL.out (Nat.le_refl _), A5, c5, hr5.belowW (W := w.heap.size) ?_ HGL.out⟩
  · simp [results, Try.results58, go_sem, kf0, kf1, kf2, kf3, kf4]
  · exact ((((((Below.refl w.heap.size y5).setCell (Nat.le_refl _) _).setCell (Nat.le_refl _) _).setCell (Nat.le_refl _) _).setCell (Nat.le_refl _) _).setCell (Nat.le_refl _) _)
end Go.Proofs.Ytpmnjojednbnpaa
end
