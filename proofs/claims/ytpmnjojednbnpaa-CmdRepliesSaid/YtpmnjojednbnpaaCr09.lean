import Derived.Test.YtpmnjojednbnpaaCr08
section
namespace Go.Proofs.Ytpmnjojednbnpaa
open Go.ChangeShapes Go.WideShapes Go.ChangeAt Go.RowKit
set_option linter.unusedVariables false
set_option linter.unusedSimpArgs false

theorem Chg.rowR {g b : Nat} {w w' : World} (h : Chg g none w w') : Chg g (some b) w w' := ⟨h.os, h.tape, h.output, h.size, fun k hk hg _ => h.block k hk hg (fun e => by cases e)⟩
theorem Chg.setRow {g b : Nat} {w w' : World} (h : Chg g (some b) w w') {p : Addr} (hp : p.block = b) (v : Value) : Chg g (some b) w (w'.setCell p v) :=
  ⟨h.os, h.tape, h.output, by simpa using h.size, fun k hk h1 h2 => by rw [Below.heap_setCell _ _ _ _ (by intro e; exact h2 (by rw [e, hp]))]; exact h.block k hk h1 h2⟩
theorem Rdr.keepRow {w w' : World} {g b : Nat} {A : Option Addr} {c : Nat} {B : List Nat} {er : Int} (h : Rdr w g A c B er) (hC : Chg g (some b) w w') {k : Nat} {o : Obj} (hk : w.heap[k]? = some o) (hb : k ≠ b) (hne : ∀ cs t f, o = .cells cs t f → t ≠ 129) : w'.heap[k]? = some o := by
  rw [hC.block k (Array.getElem?_eq_some_iff.1 hk).1 ?_ (fun e => hb (by injection e))]
  · exact hk
  · intro e
    subst e
    rw [h.blk] at hk
    injection hk with hk
    exact hne _ _ _ hk.symm rfl
theorem Chg.fall {g b : Nat} {a w w' : World} (h : Chg g (some b) w w') (hb : Below a.heap.size a w) (hn : a.heap.size ≤ b) : Chg g none a w' :=
  ⟨h.os.trans hb.os, h.tape.trans hb.tape, h.output.trans hb.output, Nat.le_trans hb.size h.size, fun k hk hg _ => (h.block k (Nat.lt_of_lt_of_le hk hb.size) hg (fun e => by injection e with e; omega)).trans (hb.block k hk)⟩
set_option maxHeartbeats 8000000 in
set_option maxRecDepth 100000 in
theorem runitW (g : Nat) (A : Option Addr) (c : Nat) (B : List Nat) (er : Int) (w : World) (hR : Rdr w g A c B er) {x1 x2 : Int} {s1 s2 : Rs} (e1 : rdM ⟨B, er⟩ = (x1, s1)) (e2 : rdM s1 = (x2, s2)) :
    Calls Try.prog 59 #[.agg #[.pointer (some ⟨g, 0, none⟩)]] w fun e w' => e = .returned (.agg #[.int .i64 x1, .int .i64 x2]) ∧ Chg g none w w' ∧ ∃ A' c', Rdr w' g A' c' s2.B s2.err := by
  have hal := since_alloc (since_alloc (Below.refl _ w) (.cells #[.pointer (some ⟨g, 0, none⟩)] 82)) (.cells #[.int .i64 0, .int .i64 0] 23)
  have hbx := (since_alloc (Below.refl _ (w.alloc (.cells #[.pointer (some ⟨g, 0, none⟩)] 82))) (.cells #[.int .i64 0, .int .i64 0] 23)).block w.heap.size (by rw [World.size_alloc]; omega)
  have hbx := hbx.trans (heap_alloc_new w (.cells #[.pointer (some ⟨g, 0, none⟩)] 82))
  have hby := heap_alloc_new (w.alloc (.cells #[.pointer (some ⟨g, 0, none⟩)] 82)) (.cells #[.int .i64 0, .int .i64 0] 23)
  rw [World.size_alloc] at hby
  have hR1 := hR.below hal
  have hy : w.heap.size + 2 = ((w.alloc (.cells #[.pointer (some ⟨g, 0, none⟩)] 82)).alloc (.cells #[.int .i64 0, .int .i64 0] 23)).heap.size := by simp [World.size_alloc]
  obtain ⟨Y, hY⟩ : ∃ Y, Y = ((w.alloc (.cells #[.pointer (some ⟨g, 0, none⟩)] 82)).alloc (.cells #[.int .i64 0, .int .i64 0] 23)) := ⟨_, rfl⟩
  rw [← hY] at hal hbx hby hR1 hy
  have HY := Lib.hid hY
  have HAL := Lib.hid hal
  have HF2 : Hid (∀ V, Chg g (some (w.heap.size + 1)) Y V → V.cell? ⟨w.heap.size, 0, none⟩ = some (.pointer (some ⟨g, 0, none⟩)) ∧ w.heap.size < V.heap.size) := Lib.hid fun V hC => by
    have h := hR1.keepRow hC hbx (by omega) (fun cs t f e => by injection e with _ e2 _; subst e2; decide)
    exact ⟨(cell_of_row V w.heap.size 0 _ _ (0, 0) h).trans rfl, (Array.getElem?_eq_some_iff.1 h).1⟩
  have hr0 := hR1.below (Below.refl _ Y).drew
  have hz0 : Y.drew.heap[w.heap.size + 1]? = some (.cells #[.int .i64 0, .int .i64 0] 23 (0, 0)) := hby
  have HR0 := Lib.hid hr0
  have HZ0 := Lib.hid hz0
  have hgl := hR.blk
  have HGL := Lib.hid (Array.getElem?_eq_some_iff.1 hgl).1
  clear hgl hR hR1 hal hbx hby hr0 hz0 hY hy
  go_enter Try.func59, Try.ntmps59
  go_upto_region 1 with fail
  rw [← HY.out]
  refine wp_region_held_drew (S := (fun V => Chg g (some (w.heap.size + 1)) Y V)) (by kernel_rfl) (by exact (Chg.of_below (Below.refl _ Y).drew)) (fun hHeld => ?_)
  refine wpAnyH_take (i := 0) (oi := { dst := some 3, op := _, type := _, pos := _, after := _, guard := _ }) (v := ?_) rfl (by kernel_rfl) (by kernel_rfl) (by kernel_rfl) (fun _ _ _ h => h) (Or.inl ⟨by rfl, ?_⟩) hHeld ?_
  rotate_left
  · (intro w hSw; obtain ⟨p0, pl⟩ := HF2.out _ (hSw); go_simp <;> with_reducible rfl)
  try simp only [Act.put, List.setIfInBounds_toArray, List.set_cons_zero, List.set_cons_succ]
  refine wpAnyH_take (i := 2) (oi := { dst := some 5, op := _, type := _, pos := _, after := _, guard := _ }) (v := ?_) rfl (by kernel_rfl) (by kernel_rfl) (by kernel_rfl) (fun _ _ _ h => h) (Or.inl ⟨by rfl, ?_⟩) hHeld ?_
  rotate_left
  · (intro w hSw; obtain ⟨p0, pl⟩ := HF2.out _ (hSw); go_simp <;> with_reducible rfl)
  try simp only [Act.put, List.setIfInBounds_toArray, List.set_cons_zero, List.set_cons_succ]
  refine wpAnyH_ready (rs := [1]) (by kernel_rfl) (by simp) ?_
  refine AllReadyH.cons (o := { dst := some 4, op := _, type := _, pos := _, after := _, guard := _ }) rfl (fun K hK => ?_) AllReadyH.nil
  go_simp
  have HE1 := Lib.hid e1
  refine (rnumberW g _ _ B er _ HR0.out).mono ?_
  rw [show rdM ⟨B, er⟩ = (x1, s1) from HE1.out]
  rintro e y1 ⟨rfl, hc1, A1, c1, hr1⟩
  have hKeep : Chg g (some (w.heap.size + 1)) Y y1 := hHeld.trans hc1.rowR (.inl rfl)
  have hC1 := hKeep
  have hz1 := (HR0.out).keepR hc1 (HZ0.out) (fun cs t f e => by injection e with _ e2 _; subst e2; decide)
  clear hc1
  go_wp2_with fail
  refine hK.out _ _ (by (try dsimp only); exact hKeep) (fun hHeld => ?_)
  clear hK K hKeep
  try simp only [Act.put, List.setIfInBounds_toArray, List.set_cons_zero, List.set_cons_succ]
  refine wpAnyH_ready (rs := [3]) (by kernel_rfl) (by simp) ?_
  refine AllReadyH.cons (o := { dst := some 6, op := _, type := _, pos := _, after := _, guard := _ }) rfl (fun K hK => ?_) AllReadyH.nil
  go_simp
  have HE2 := Lib.hid e2
  refine (rnumberW g _ _ s1.B s1.err _ hr1).mono ?_
  rw [show rdM ⟨s1.B, s1.err⟩ = (x2, s2) from HE2.out]
  rintro e y2 ⟨rfl, hc2, A2, c2, hr2⟩
  have hKeep : Chg g (some (w.heap.size + 1)) Y y2 := hHeld.trans hc2.rowR (.inl rfl)
  have hC2 := hKeep
  have hz2 := (hr1).keepR hc2 (hz1) (fun cs t f e => by injection e with _ e2 _; subst e2; decide)
  clear hc2
  go_wp2_with fail
  refine hK.out _ _ (by (try dsimp only); exact hKeep) (fun hHeld => ?_)
  clear hK K hKeep
  try simp only [Act.put, List.setIfInBounds_toArray, List.set_cons_zero, List.set_cons_succ]
  refine wpAnyH_take (i := 4) (oi := { dst := some 7, op := _, type := _, pos := _, after := _, guard := _ }) (v := ?_) rfl (by kernel_rfl) (by kernel_rfl) (by kernel_rfl) (fun _ _ _ h => h) (Or.inl ⟨by rfl, ?_⟩) hHeld ?_
  rotate_left
  · (intro w hSw; obtain ⟨p0, pl⟩ := HF2.out _ (hSw); go_simp <;> with_reducible rfl)
  try simp only [Act.put, List.setIfInBounds_toArray, List.set_cons_zero, List.set_cons_succ]
  refine wpAnyH_ready (rs := [5]) (by kernel_rfl) (by simp) ?_
  refine AllReadyH.cons (o := { dst := none, op := _, type := _, pos := _, after := _, guard := _ }) rfl (fun K hK => ?_) AllReadyH.nil
  have hHd := hHeld
  obtain ⟨p0, pl⟩ := HF2.out _ (hHd)
  have hlt : w.heap.size + 1 < y2.heap.size := (Array.getElem?_eq_some_iff.1 hz2).1
  have k0 : y2.cell? ⟨w.heap.size + 1, 0, none⟩ = some (.int .i64 0) := (cell_of_row y2 (w.heap.size + 1) 0 _ _ (0, 0) hz2).trans rfl
  have f0 : y2.frozen? ⟨w.heap.size + 1, 0, none⟩ = false := by simp [World.frozen?, hz2]
  have k1 : y2.cell? ⟨w.heap.size + 1, 1, none⟩ = some (.int .i64 0) := (cell_of_row y2 (w.heap.size + 1) 1 _ _ (0, 0) hz2).trans rfl
  have f1 : y2.frozen? ⟨w.heap.size + 1, 1, none⟩ = false := by simp [World.frozen?, hz2]
  have hKeep : Chg g (some (w.heap.size + 1)) Y (((y2).setCell ⟨w.heap.size + 1, 0, none⟩ (.int .i64 x1)).setCell ⟨w.heap.size + 1, 1, none⟩ (.int .i64 x2)) := ((hC2.setRow (p := ⟨w.heap.size + 1, 0, none⟩) rfl (.int .i64 x1)).setRow (p := ⟨w.heap.size + 1, 1, none⟩) rfl (.int .i64 x2))
  skip
  go_simp
  refine hK.out _ _ (by (try dsimp only); exact hKeep) (fun hHeld => ?_)
  clear hK K hKeep
  try simp only [Act.put, List.setIfInBounds_toArray, List.set_cons_zero, List.set_cons_succ]
  refine wpAnyH_done (by kernel_rfl) ?_ _
  go_wp2_with fail
  have kf0 : (((y2).setCell ⟨w.heap.size + 1, 0, none⟩ (.int .i64 x1)).setCell ⟨w.heap.size + 1, 1, none⟩ (.int .i64 x2)).cell? ⟨w.heap.size + 1, 0, none⟩ = some (.int .i64 x1) := by simp [World.cell?_setCell_other, World.cell?_setCell_same, k0, k1]
  have kf1 : (((y2).setCell ⟨w.heap.size + 1, 0, none⟩ (.int .i64 x1)).setCell ⟨w.heap.size + 1, 1, none⟩ (.int .i64 x2)).cell? ⟨w.heap.size + 1, 1, none⟩ = some (.int .i64 x2) := by simp [World.cell?_setCell_other, World.cell?_setCell_same, k0, k1]
  refine bodyPost_ret (v := .agg #[.int .i64 x1, .int .i64 x2]) ?_ rfl ⟨rfl, hHeld.fall HAL.out (by omega), A2, c2, hr2.belowW (W := w.heap.size + 1) ?_ ?_⟩
  · simp [results, Try.results59, go_sem, kf0, kf1]
  · exact (((Below.refl (w.heap.size + 1) y2).setCell (Nat.le_refl _) _).setCell (Nat.le_refl _) _)
  · have := HGL.out; omega
set_option maxHeartbeats 8000000 in
set_option maxRecDepth 100000 in
theorem rlotW (g : Nat) (A : Option Addr) (c : Nat) (B : List Nat) (er : Int) (w : World) (hR : Rdr w g A c B er) {x1 x2 x3 : Int} {s1 s2 s3 : Rs} (e1 : rdM ⟨B, er⟩ = (x1, s1)) (e2 : rdM s1 = (x2, s2)) (e3 : rdM s2 = (x3, s3)) :
    Calls Try.prog 63 #[.agg #[.pointer (some ⟨g, 0, none⟩)]] w fun e w' => e = .returned (.agg #[.int .i64 x1, .int .i64 x2, .int .i64 x3]) ∧ Chg g none w w' ∧ ∃ A' c', Rdr w' g A' c' s3.B s3.err := by
  have hal := since_alloc (since_alloc (Below.refl _ w) (.cells #[.pointer (some ⟨g, 0, none⟩)] 82)) (.cells #[.int .i64 0, .int .i64 0, .int .i64 0] 105)
  have hbx := (since_alloc (Below.refl _ (w.alloc (.cells #[.pointer (some ⟨g, 0, none⟩)] 82))) (.cells #[.int .i64 0, .int .i64 0, .int .i64 0] 105)).block w.heap.size (by rw [World.size_alloc]; omega)
  have hbx := hbx.trans (heap_alloc_new w (.cells #[.pointer (some ⟨g, 0, none⟩)] 82))
  have hby := heap_alloc_new (w.alloc (.cells #[.pointer (some ⟨g, 0, none⟩)] 82)) (.cells #[.int .i64 0, .int .i64 0, .int .i64 0] 105)
  rw [World.size_alloc] at hby
  have hR1 := hR.below hal
  have hy : w.heap.size + 2 = ((w.alloc (.cells #[.pointer (some ⟨g, 0, none⟩)] 82)).alloc (.cells #[.int .i64 0, .int .i64 0, .int .i64 0] 105)).heap.size := by simp [World.size_alloc]
  obtain ⟨Y, hY⟩ : ∃ Y, Y = ((w.alloc (.cells #[.pointer (some ⟨g, 0, none⟩)] 82)).alloc (.cells #[.int .i64 0, .int .i64 0, .int .i64 0] 105)) := ⟨_, rfl⟩
  rw [← hY] at hal hbx hby hR1 hy
  have HY := Lib.hid hY
  have HAL := Lib.hid hal
  have HF2 : Hid (∀ V, Chg g (some (w.heap.size + 1)) Y V → V.cell? ⟨w.heap.size, 0, none⟩ = some (.pointer (some ⟨g, 0, none⟩)) ∧ w.heap.size < V.heap.size) := Lib.hid fun V hC => by
    have h := hR1.keepRow hC hbx (by omega) (fun cs t f e => by injection e with _ e2 _; subst e2; decide)
    exact ⟨(cell_of_row V w.heap.size 0 _ _ (0, 0) h).trans rfl, (Array.getElem?_eq_some_iff.1 h).1⟩
  have hr0 := hR1.below (Below.refl _ Y).drew
  have hz0 : Y.drew.heap[w.heap.size + 1]? = some (.cells #[.int .i64 0, .int .i64 0, .int .i64 0] 105 (0, 0)) := hby
  have HR0 := Lib.hid hr0
  have HZ0 := Lib.hid hz0
  have hgl := hR.blk
  have HGL := Lib.hid (Array.getElem?_eq_some_iff.1 hgl).1
  clear hgl hR hR1 hal hbx hby hr0 hz0 hY hy
  go_enter Try.func63, Try.ntmps63
  go_upto_region 1 with fail
  rw [← HY.out]
  refine wp_region_held_drew (S := (fun V => Chg g (some (w.heap.size + 1)) Y V)) (by kernel_rfl) (by exact (Chg.of_below (Below.refl _ Y).drew)) (fun hHeld => ?_)
  refine wpAnyH_take (i := 0) (oi := { dst := some 3, op := _, type := _, pos := _, after := _, guard := _ }) (v := ?_) rfl (by kernel_rfl) (by kernel_rfl) (by kernel_rfl) (fun _ _ _ h => h) (Or.inl ⟨by rfl, ?_⟩) hHeld ?_
  rotate_left
  · (intro w hSw; obtain ⟨p0, pl⟩ := HF2.out _ (hSw); go_simp <;> with_reducible rfl)
  try simp only [Act.put, List.setIfInBounds_toArray, List.set_cons_zero, List.set_cons_succ]
  refine wpAnyH_take (i := 2) (oi := { dst := some 5, op := _, type := _, pos := _, after := _, guard := _ }) (v := ?_) rfl (by kernel_rfl) (by kernel_rfl) (by kernel_rfl) (fun _ _ _ h => h) (Or.inl ⟨by rfl, ?_⟩) hHeld ?_
  rotate_left
  · (intro w hSw; obtain ⟨p0, pl⟩ := HF2.out _ (hSw); go_simp <;> with_reducible rfl)
  try simp only [Act.put, List.setIfInBounds_toArray, List.set_cons_zero, List.set_cons_succ]
  refine wpAnyH_take (i := 4) (oi := { dst := some 7, op := _, type := _, pos := _, after := _, guard := _ }) (v := ?_) rfl (by kernel_rfl) (by kernel_rfl) (by kernel_rfl) (fun _ _ _ h => h) (Or.inl ⟨by rfl, ?_⟩) hHeld ?_
  rotate_left
  · (intro w hSw; obtain ⟨p0, pl⟩ := HF2.out _ (hSw); go_simp <;> with_reducible rfl)
  try simp only [Act.put, List.setIfInBounds_toArray, List.set_cons_zero, List.set_cons_succ]
  refine wpAnyH_ready (rs := [1]) (by kernel_rfl) (by simp) ?_
  refine AllReadyH.cons (o := { dst := some 4, op := _, type := _, pos := _, after := _, guard := _ }) rfl (fun K hK => ?_) AllReadyH.nil
  go_simp
  have HE1 := Lib.hid e1
  refine (rnumberW g _ _ B er _ HR0.out).mono ?_
  rw [show rdM ⟨B, er⟩ = (x1, s1) from HE1.out]
  rintro e y1 ⟨rfl, hc1, A1, c1, hr1⟩
  have hKeep : Chg g (some (w.heap.size + 1)) Y y1 := hHeld.trans hc1.rowR (.inl rfl)
  have hC1 := hKeep
  have hz1 := (HR0.out).keepR hc1 (HZ0.out) (fun cs t f e => by injection e with _ e2 _; subst e2; decide)
  clear hc1
  go_wp2_with fail
  refine hK.out _ _ (by (try dsimp only); exact hKeep) (fun hHeld => ?_)
  clear hK K hKeep
  try simp only [Act.put, List.setIfInBounds_toArray, List.set_cons_zero, List.set_cons_succ]
  refine wpAnyH_ready (rs := [3]) (by kernel_rfl) (by simp) ?_
  refine AllReadyH.cons (o := { dst := some 6, op := _, type := _, pos := _, after := _, guard := _ }) rfl (fun K hK => ?_) AllReadyH.nil
  go_simp
  have HE2 := Lib.hid e2
  refine (rnumberW g _ _ s1.B s1.err _ hr1).mono ?_
  rw [show rdM ⟨s1.B, s1.err⟩ = (x2, s2) from HE2.out]
  rintro e y2 ⟨rfl, hc2, A2, c2, hr2⟩
  have hKeep : Chg g (some (w.heap.size + 1)) Y y2 := hHeld.trans hc2.rowR (.inl rfl)
  have hC2 := hKeep
  have hz2 := (hr1).keepR hc2 (hz1) (fun cs t f e => by injection e with _ e2 _; subst e2; decide)
  clear hc2
  go_wp2_with fail
  refine hK.out _ _ (by (try dsimp only); exact hKeep) (fun hHeld => ?_)
  clear hK K hKeep
  try simp only [Act.put, List.setIfInBounds_toArray, List.set_cons_zero, List.set_cons_succ]
  refine wpAnyH_ready (rs := [5]) (by kernel_rfl) (by simp) ?_
  refine AllReadyH.cons (o := { dst := some 8, op := _, type := _, pos := _, after := _, guard := _ }) rfl (fun K hK => ?_) AllReadyH.nil
  go_simp
  have HE3 := Lib.hid e3
  refine (rlongW g _ _ s2.B s2.err _ hr2).mono ?_
  rw [show rdM ⟨s2.B, s2.err⟩ = (x3, s3) from HE3.out]
  rintro e y3 ⟨rfl, hc3, A3, c3, hr3⟩
  have hKeep : Chg g (some (w.heap.size + 1)) Y y3 := hHeld.trans hc3.rowR (.inl rfl)
  have hC3 := hKeep
  have hz3 := (hr2).keepR hc3 (hz2) (fun cs t f e => by injection e with _ e2 _; subst e2; decide)
  clear hc3
  go_wp2_with fail
  refine hK.out _ _ (by (try dsimp only); exact hKeep) (fun hHeld => ?_)
  clear hK K hKeep
  try simp only [Act.put, List.setIfInBounds_toArray, List.set_cons_zero, List.set_cons_succ]
  refine wpAnyH_take (i := 6) (oi := { dst := some 9, op := _, type := _, pos := _, after := _, guard := _ }) (v := ?_) rfl (by kernel_rfl) (by kernel_rfl) (by kernel_rfl) (fun _ _ _ h => h) (Or.inl ⟨by rfl, ?_⟩) hHeld ?_
  rotate_left
  · (intro w hSw; obtain ⟨p0, pl⟩ := HF2.out _ (hSw); go_simp <;> with_reducible rfl)
  try simp only [Act.put, List.setIfInBounds_toArray, List.set_cons_zero, List.set_cons_succ]
  refine wpAnyH_ready (rs := [7]) (by kernel_rfl) (by simp) ?_
  refine AllReadyH.cons (o := { dst := none, op := _, type := _, pos := _, after := _, guard := _ }) rfl (fun K hK => ?_) AllReadyH.nil
  have hHd := hHeld
  obtain ⟨p0, pl⟩ := HF2.out _ (hHd)
  have hlt : w.heap.size + 1 < y3.heap.size := (Array.getElem?_eq_some_iff.1 hz3).1
  have k0 : y3.cell? ⟨w.heap.size + 1, 0, none⟩ = some (.int .i64 0) := (cell_of_row y3 (w.heap.size + 1) 0 _ _ (0, 0) hz3).trans rfl
  have f0 : y3.frozen? ⟨w.heap.size + 1, 0, none⟩ = false := by simp [World.frozen?, hz3]
  have k1 : y3.cell? ⟨w.heap.size + 1, 1, none⟩ = some (.int .i64 0) := (cell_of_row y3 (w.heap.size + 1) 1 _ _ (0, 0) hz3).trans rfl
  have f1 : y3.frozen? ⟨w.heap.size + 1, 1, none⟩ = false := by simp [World.frozen?, hz3]
  have k2 : y3.cell? ⟨w.heap.size + 1, 2, none⟩ = some (.int .i64 0) := (cell_of_row y3 (w.heap.size + 1) 2 _ _ (0, 0) hz3).trans rfl
  have f2 : y3.frozen? ⟨w.heap.size + 1, 2, none⟩ = false := by simp [World.frozen?, hz3]
  have hKeep : Chg g (some (w.heap.size + 1)) Y ((((y3).setCell ⟨w.heap.size + 1, 0, none⟩ (.int .i64 x1)).setCell ⟨w.heap.size + 1, 1, none⟩ (.int .i64 x2)).setCell ⟨w.heap.size + 1, 2, none⟩ (.int .i64 x3)) := (((hC3.setRow (p := ⟨w.heap.size + 1, 0, none⟩) rfl (.int .i64 x1)).setRow (p := ⟨w.heap.size + 1, 1, none⟩) rfl (.int .i64 x2)).setRow (p := ⟨w.heap.size + 1, 2, none⟩) rfl (.int .i64 x3))
  skip
  go_simp
  refine hK.out _ _ (by (try dsimp only); exact hKeep) (fun hHeld => ?_)
  clear hK K hKeep
  try simp only [Act.put, List.setIfInBounds_toArray, List.set_cons_zero, List.set_cons_succ]
  refine wpAnyH_done (by kernel_rfl) ?_ _
  go_wp2_with fail
  have kf0 : ((((y3).setCell ⟨w.heap.size + 1, 0, none⟩ (.int .i64 x1)).setCell ⟨w.heap.size + 1, 1, none⟩ (.int .i64 x2)).setCell ⟨w.heap.size + 1, 2, none⟩ (.int .i64 x3)).cell? ⟨w.heap.size + 1, 0, none⟩ = some (.int .i64 x1) := by simp [World.cell?_setCell_other, World.cell?_setCell_same, k0, k1, k2]
  have kf1 : ((((y3).setCell ⟨w.heap.size + 1, 0, none⟩ (.int .i64 x1)).setCell ⟨w.heap.size + 1, 1, none⟩ (.int .i64 x2)).setCell ⟨w.heap.size + 1, 2, none⟩ (.int .i64 x3)).cell? ⟨w.heap.size + 1, 1, none⟩ = some (.int .i64 x2) := by simp [World.cell?_setCell_other, World.cell?_setCell_same, k0, k1, k2]
  have kf2 : ((((y3).setCell ⟨w.heap.size + 1, 0, none⟩ (.int .i64 x1)).setCell ⟨w.heap.size + 1, 1, none⟩ (.int .i64 x2)).setCell ⟨w.heap.size + 1, 2, none⟩ (.int .i64 x3)).cell? ⟨w.heap.size + 1, 2, none⟩ = some (.int .i64 x3) := by simp [World.cell?_setCell_other, World.cell?_setCell_same, k0, k1, k2]
  refine bodyPost_ret (v := .agg #[.int .i64 x1, .int .i64 x2, .int .i64 x3]) ?_ rfl ⟨rfl, hHeld.fall HAL.out (by omega), A3, c3, hr3.belowW (W := w.heap.size + 1) ?_ ?_⟩
  · simp [results, Try.results63, go_sem, kf0, kf1, kf2]
  · exact ((((Below.refl (w.heap.size + 1) y3).setCell (Nat.le_refl _) _).setCell (Nat.le_refl _) _).setCell (Nat.le_refl _) _)
  · have := HGL.out; omega
end Go.Proofs.Ytpmnjojednbnpaa
end
