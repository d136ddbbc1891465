import Derived.Test.YtpmnjojednbnpaaCr15
import Derived.Test.YtpmnjojednbnpaaCr01
section
namespace Go.Proofs.Ytpmnjojednbnpaa
open Go.ChangeShapes Go.WideShapes Go.ChangeAt Go.RowKit
set_option linter.unusedVariables false
set_option linter.unusedSimpArgs false

set_option maxHeartbeats 8000000 in
set_option maxRecDepth 100000 in
theorem rretW (g rb : Nat) (A : Option Addr) (c : Nat) (B : List Nat) (er : Int) (w : World) (hR : Rdr w g A c B er) (hx : w.heap[rb]? = some (.cells #[.pointer (some ⟨g, 0, none⟩)] 82 (0, 0))) {x1 x2 x3 : Int} {lots : List Lo} {s1 s2 s3 s4 : Rs} (e1 : rdM ⟨B, er⟩ = (x1, s1)) (e2 : rdM s1 = (x2, s2)) (e3 : rdM s2 = (x3, s3)) (e4 : rdLs 4096 rdLo s3 = (lots, s4)) :
    Calls Try.prog 61 #[.pointer (some ⟨rb, 0, none⟩)] w fun e w' => ∃ (NL : List Lo) (AN : Option Addr) (cN : Nat), e = .returned (.agg #[.int .i64 x1, .int .i64 x2, .int .i64 x3, .slice AN NL.length cN]) ∧ (s4.err = 0 → NL = lots) ∧ w'.ownsRow w.heap.size 105 3 (.slice AN NL.length cN) NL.length (rc Lo.cells NL) ∧ Chg g none w w' ∧ NL.length ≤ 5000 ∧ ∃ A' c', Rdr w' g A' c' s4.B s4.err := by
  have hal := since_alloc (Below.refl _ w) (.cells #[.int .i64 0, .int .i64 0, .int .i64 0, .slice none 0 0] 97)
  have hrl : rb < w.heap.size := (Array.getElem?_eq_some_iff.1 hx).1
  have hbx := (hal.block rb hrl).trans hx
  have hby := heap_alloc_new w (.cells #[.int .i64 0, .int .i64 0, .int .i64 0, .slice none 0 0] 97)
  have hR1 := hR.below hal
  obtain ⟨Y, hY⟩ : ∃ Y, Y = w.alloc (.cells #[.int .i64 0, .int .i64 0, .int .i64 0, .slice none 0 0] 97) := ⟨_, rfl⟩
  rw [← hY] at hal hbx hby hR1
  have HY := Lib.hid hY
  have HAL := Lib.hid hal
  have HF2 : Hid (∀ V, Chg g (some w.heap.size) Y V → V.cell? ⟨rb, 0, none⟩ = some (.pointer (some ⟨g, 0, none⟩)) ∧ rb < V.heap.size) := Lib.hid fun V hC => by
    have h := hR1.keepRow hC hbx (by omega) (fun cs t f e => by injection e with _ e2 _; subst e2; decide)
    exact ⟨(cell_of_row V rb 0 _ _ (0, 0) h).trans rfl, (Array.getElem?_eq_some_iff.1 h).1⟩
  have HR0 := Lib.hid (hR1.below (Below.refl _ Y).drew)
  have hz0 : Y.drew.heap[w.heap.size]? = some (.cells #[.int .i64 0, .int .i64 0, .int .i64 0, .slice none 0 0] 97 (0, 0)) := hby
  have HZ0 := Lib.hid hz0
  have hgl := hR.blk
  have HGL := Lib.hid (Array.getElem?_eq_some_iff.1 hgl).1
  have HYS : Hid (w.heap.size ≤ Y.heap.size) := Lib.hid hal.size
  have HE1 := Lib.hid e1
  have HE2 := Lib.hid e2
  have HE3 := Lib.hid e3
  have HE4 := Lib.hid e4
  clear hgl hR hR1 hal hbx hby hz0 hY hx hrl e1 e2 e3 e4
  go_enter Try.func61, Try.ntmps61
  go_upto_region 1 with fail
  rw [← HY.out]
  refine wp_region_held_drew (S := (fun V => Chg g (some w.heap.size) Y V)) (by kernel_rfl) (by exact (Chg.of_below (Below.refl _ Y).drew)) (fun hHeld => ?_)
  refine wpAnyH_take (i := 0) (oi := { dst := some 2, op := _, type := _, pos := _, after := _, guard := _ }) (v := ?_) rfl (by kernel_rfl) (by kernel_rfl) (by kernel_rfl) (fun _ _ _ h => h) (Or.inl ⟨by rfl, ?_⟩) hHeld ?_
  rotate_left
  · (intro w hSw; obtain ⟨p0, pl⟩ := HF2.out _ (hSw); go_simp <;> with_reducible rfl)
  try simp only [Act.put, List.setIfInBounds_toArray, List.set_cons_zero, List.set_cons_succ]
  refine wpAnyH_take (i := 2) (oi := { dst := some 4, op := _, type := _, pos := _, after := _, guard := _ }) (v := ?_) rfl (by kernel_rfl) (by kernel_rfl) (by kernel_rfl) (fun _ _ _ h => h) (Or.inl ⟨by rfl, ?_⟩) hHeld ?_
  rotate_left
  · (intro w hSw; obtain ⟨p0, pl⟩ := HF2.out _ (hSw); go_simp <;> with_reducible rfl)
  try simp only [Act.put, List.setIfInBounds_toArray, List.set_cons_zero, List.set_cons_succ]
  refine wpAnyH_take (i := 4) (oi := { dst := some 6, op := _, type := _, pos := _, after := _, guard := _ }) (v := ?_) rfl (by kernel_rfl) (by kernel_rfl) (by kernel_rfl) (fun _ _ _ h => h) (Or.inl ⟨by rfl, ?_⟩) hHeld ?_
  rotate_left
  · (intro w hSw; obtain ⟨p0, pl⟩ := HF2.out _ (hSw); go_simp <;> with_reducible rfl)
  try simp only [Act.put, List.setIfInBounds_toArray, List.set_cons_zero, List.set_cons_succ]
  refine wpAnyH_take (i := 5) (oi := { dst := some 7, op := _, type := _, pos := _, after := _, guard := _ }) (v := ?_) rfl (by kernel_rfl) (by kernel_rfl) (by kernel_rfl) (fun _ _ _ h => h) (Or.inl ⟨by rfl, ?_⟩) hHeld ?_
  rotate_left
  · (intro w hSw; obtain ⟨p0, pl⟩ := HF2.out _ (hSw); go_simp <;> with_reducible rfl)
  try simp only [Act.put, List.setIfInBounds_toArray, List.set_cons_zero, List.set_cons_succ]
  refine wpAnyH_take (i := 6) (oi := { dst := some 8, op := _, type := _, pos := _, after := _, guard := _ }) (v := ?_) rfl (by kernel_rfl) (by kernel_rfl) (by kernel_rfl) (fun _ _ _ h => h) (Or.inl ⟨by rfl, ?_⟩) hHeld ?_
  rotate_left
  · (intro w hSw; obtain ⟨p0, pl⟩ := HF2.out _ (hSw); go_simp <;> with_reducible rfl)
  try simp only [Act.put, List.setIfInBounds_toArray, List.set_cons_zero, List.set_cons_succ]
  refine wpAnyH_ready (rs := [1]) (by kernel_rfl) (by simp) ?_
  refine AllReadyH.cons (o := { dst := some 3, op := _, type := _, pos := _, after := _, guard := _ }) rfl (fun K hK => ?_) AllReadyH.nil
  go_simp
  refine (runitW g _ _ B er _ HR0.out HE1.out HE2.out).mono ?_
  rintro e y2 ⟨rfl, hc2, A2, c2, hr2⟩
  have hKeep : Chg g (some w.heap.size) Y y2 := hHeld.trans hc2.rowR (.inl rfl)
  have hC2 := hKeep
  have hz2 := (HR0.out).keepR hc2 (HZ0.out) (fun cs t f e => by injection e with _ e2 _; subst e2; decide)
  clear hc2
  go_wp2_with fail
  refine hK.out _ _ (by (try dsimp only); exact hKeep) (fun hHeld => ?_)
  clear hK K hKeep
  try simp only [Act.put, List.setIfInBounds_toArray, List.set_cons_zero, List.set_cons_succ]
  refine wpAnyH_ready (rs := [3]) (by kernel_rfl) (by simp) ?_
  refine AllReadyH.cons (o := { dst := some 5, op := _, type := _, pos := _, after := _, guard := _ }) rfl (fun K hK => ?_) AllReadyH.nil
  go_simp
  refine (rlongW g _ _ s2.B s2.err _ hr2).mono ?_
  rw [show rdM ⟨s2.B, s2.err⟩ = (x3, s3) from HE3.out]
  rintro e y3 ⟨rfl, hc3, A3, c3, hr3⟩
  have hKeep : Chg g (some w.heap.size) Y y3 := hHeld.trans hc3.rowR (.inl rfl)
  have hC3 := hKeep
  have hz3 := (hr2).keepR hc3 (hz2) (fun cs t f e => by injection e with _ e2 _; subst e2; decide)
  clear hc3
  go_wp2_with fail
  refine hK.out _ _ (by (try dsimp only); exact hKeep) (fun hHeld => ?_)
  clear hK K hKeep
  try simp only [Act.put, List.setIfInBounds_toArray, List.set_cons_zero, List.set_cons_succ]
  refine wpAnyH_ready (rs := [7]) (by kernel_rfl) (by simp) ?_
  refine AllReadyH.cons (o := { dst := some 9, op := _, type := _, pos := _, after := _, guard := _ }) rfl (fun K hK => ?_) AllReadyH.nil
  go_simp
  have hsz3 := (Array.getElem?_eq_some_iff.1 hz3).1
  have HSZ3 := Lib.hid hsz3
  clear hsz3
  refine (rlistL g _ _ s3.B s3.err 4096 _ hr3 (by decide) (by decide) HE4.out).mono ?_
  rintro e y4 ⟨NL, AN, cN, rfl, hN4, hown4, hc4, hNL, A4, c4, hr4⟩
  have HN4 := Lib.hid hN4
  have HNL := Lib.hid hNL
  have HOWN4 := Lib.hid hown4
  clear hN4 hNL hown4
  have hKeep : Chg g (some w.heap.size) Y y4 := hHeld.trans hc4.rowR (.inl rfl)
  have hC4 := hKeep
  have hz4 := (hr3).keepR hc4 (hz3) (fun cs t f e => by injection e with _ e2 _; subst e2; decide)
  clear hc4
  go_wp2_with fail
  refine hK.out _ _ (by (try dsimp only); exact hKeep) (fun hHeld => ?_)
  clear hK K hKeep
  try simp only [Act.put, List.setIfInBounds_toArray, List.set_cons_zero, List.set_cons_succ]
  refine wpAnyH_take (i := 8) (oi := { dst := some 10, op := _, type := _, pos := _, after := _, guard := _ }) (v := ?_) rfl (by kernel_rfl) (by kernel_rfl) (by kernel_rfl) (fun _ _ _ h => h) (Or.inl ⟨by rfl, ?_⟩) hHeld ?_
  rotate_left
  · (intro w hSw; obtain ⟨p0, pl⟩ := HF2.out _ (hSw); go_simp <;> with_reducible rfl)
  try simp only [Act.put, List.setIfInBounds_toArray, List.set_cons_zero, List.set_cons_succ]
  refine wpAnyH_ready (rs := [9]) (by kernel_rfl) (by simp) ?_
  refine AllReadyH.cons (o := { dst := none, op := _, type := _, pos := _, after := _, guard := _ }) rfl (fun K hK => ?_) AllReadyH.nil
  have hHd := hHeld
  obtain ⟨p0, pl⟩ := HF2.out _ (hHd)
  have hlt : w.heap.size < y4.heap.size := (Array.getElem?_eq_some_iff.1 hz4).1
  have k0 : y4.cell? ⟨w.heap.size, 0, none⟩ = some (.int .i64 0) := (cell_of_row y4 w.heap.size 0 _ _ (0, 0) hz4).trans rfl
  have f0 : y4.frozen? ⟨w.heap.size, 0, none⟩ = false := by simp [World.frozen?, hz4]
  have k1 : y4.cell? ⟨w.heap.size, 1, none⟩ = some (.int .i64 0) := (cell_of_row y4 w.heap.size 1 _ _ (0, 0) hz4).trans rfl
  have f1 : y4.frozen? ⟨w.heap.size, 1, none⟩ = false := by simp [World.frozen?, hz4]
  have k2 : y4.cell? ⟨w.heap.size, 2, none⟩ = some (.int .i64 0) := (cell_of_row y4 w.heap.size 2 _ _ (0, 0) hz4).trans rfl
  have f2 : y4.frozen? ⟨w.heap.size, 2, none⟩ = false := by simp [World.frozen?, hz4]
  have k3 : y4.cell? ⟨w.heap.size, 3, none⟩ = some (.slice none 0 0) := (cell_of_row y4 w.heap.size 3 _ _ (0, 0) hz4).trans rfl
  have f3 : y4.frozen? ⟨w.heap.size, 3, none⟩ = false := by simp [World.frozen?, hz4]
  have hKeep : Chg g (some w.heap.size) Y (((((y4).setCell ⟨w.heap.size, 0, none⟩ (.int .i64 x1)).setCell ⟨w.heap.size, 1, none⟩ (.int .i64 x2)).setCell ⟨w.heap.size, 2, none⟩ (.int .i64 x3)).setCell ⟨w.heap.size, 3, none⟩ (.slice AN NL.length cN)) := ((((hC4.setRow (p := ⟨w.heap.size, 0, none⟩) rfl (.int .i64 x1)).setRow (p := ⟨w.heap.size, 1, none⟩) rfl (.int .i64 x2)).setRow (p := ⟨w.heap.size, 2, none⟩) rfl (.int .i64 x3)).setRow (p := ⟨w.heap.size, 3, none⟩) rfl (.slice AN NL.length cN))
  skip
  go_simp
  refine hK.out _ _ (by (try dsimp only); exact hKeep) (fun hHeld => ?_)
  clear hK K hKeep
  try simp only [Act.put, List.setIfInBounds_toArray, List.set_cons_zero, List.set_cons_succ]
  refine wpAnyH_done (by kernel_rfl) ?_ _
  go_wp2_with fail
  have kf0 : (((((y4).setCell ⟨w.heap.size, 0, none⟩ (.int .i64 x1)).setCell ⟨w.heap.size, 1, none⟩ (.int .i64 x2)).setCell ⟨w.heap.size, 2, none⟩ (.int .i64 x3)).setCell ⟨w.heap.size, 3, none⟩ (.slice AN NL.length cN)).cell? ⟨w.heap.size, 0, none⟩ = some (.int .i64 x1) := by simp [World.cell?_setCell_other, World.cell?_setCell_same, k0, k1, k2, k3]
  have kf1 : (((((y4).setCell ⟨w.heap.size, 0, none⟩ (.int .i64 x1)).setCell ⟨w.heap.size, 1, none⟩ (.int .i64 x2)).setCell ⟨w.heap.size, 2, none⟩ (.int .i64 x3)).setCell ⟨w.heap.size, 3, none⟩ (.slice AN NL.length cN)).cell? ⟨w.heap.size, 1, none⟩ = some (.int .i64 x2) := by simp [World.cell?_setCell_other, World.cell?_setCell_same, k0, k1, k2, k3]
  have kf2 : (((((y4).setCell ⟨w.heap.size, 0, none⟩ (.int .i64 x1)).setCell ⟨w.heap.size, 1, none⟩ (.int .i64 x2)).setCell ⟨w.heap.size, 2, none⟩ (.int .i64 x3)).setCell ⟨w.heap.size, 3, none⟩ (.slice AN NL.length cN)).cell? ⟨w.heap.size, 2, none⟩ = some (.int .i64 x3) := by simp [World.cell?_setCell_other, World.cell?_setCell_same, k0, k1, k2, k3]
  have kf3 : (((((y4).setCell ⟨w.heap.size, 0, none⟩ (.int .i64 x1)).setCell ⟨w.heap.size, 1, none⟩ (.int .i64 x2)).setCell ⟨w.heap.size, 2, none⟩ (.int .i64 x3)).setCell ⟨w.heap.size, 3, none⟩ (.slice AN NL.length cN)).cell? ⟨w.heap.size, 3, none⟩ = some (.slice AN NL.length cN) := by simp [World.cell?_setCell_other, World.cell?_setCell_same, k0, k1, k2, k3]
  refine bodyPost_ret (v := .agg #[.int .i64 x1, .int .i64 x2, .int .i64 x3, .slice AN NL.length cN]) ?_ rfl ⟨NL, AN, cN, rfl, HN4.out, ?_, hHeld.fall HAL.out (Nat.le_refl _), HNL.out, A4, c4, hr4.belowW (W := w.heap.size) ?_ HGL.out⟩
  · simp [results, Try.results61, go_sem, kf0, kf1, kf2, kf3]
  · have h3 := HSZ3.out
    have h4 := HGL.out
    exact own_base8 (own_chg HOWN4.out (((((Chg.refl g (some w.heap.size) y4).setRow (p := ⟨w.heap.size, 0, none⟩) rfl (.int .i64 x1)).setRow (p := ⟨w.heap.size, 1, none⟩) rfl (.int .i64 x2)).setRow (p := ⟨w.heap.size, 2, none⟩) rfl (.int .i64 x3)).setRow (p := ⟨w.heap.size, 3, none⟩) rfl (.slice AN NL.length cN)) (fun e => by have := (HOWN4.out.lt _ e).1; omega) (fun b hb e => by have := (HOWN4.out.lt _ hb).1; injection e with e; omega)) (Nat.le_of_lt h3)
  · exact (((((Below.refl w.heap.size y4).setCell (Nat.le_refl _) _).setCell (Nat.le_refl _) _).setCell (Nat.le_refl _) _).setCell (Nat.le_refl _) _)
theorem rretO (rb g : Nat) (A : Option Addr) (c : Nat) (B : List Nat) (er : Int) (w : World) (hR : Rdr w g A c B er) (hx : w.heap[rb]? = some (.cells #[.pointer (some ⟨g, 0, none⟩)] 82 (0, 0))) {a b q : Int} {lots : List Lo} {s' : Rs} (e : rdRq ⟨B, er⟩ = (⟨a, b, q, lots⟩, s')) :
    Calls Try.prog 61 #[.pointer (some ⟨rb, 0, none⟩)] w fun e w' => ∃ (NL : List Lo) (AN : Option Addr) (cN : Nat), e = .returned (.agg #[.int .i64 a, .int .i64 b, .int .i64 q, .slice AN NL.length cN]) ∧ (s'.err = 0 → NL = lots) ∧ w'.ownsRow w.heap.size 105 3 (.slice AN NL.length cN) NL.length (rc Lo.cells NL) ∧ Chg g none w w' ∧ NL.length ≤ 5000 ∧ ∃ A' c', Rdr w' g A' c' s'.B s'.err := by
  obtain ⟨x1, s1, h1⟩ : ∃ x s, rdM ⟨B, er⟩ = (x, s) := ⟨_, _, rfl⟩
  obtain ⟨x2, s2, h2⟩ : ∃ x s, rdM s1 = (x, s) := ⟨_, _, rfl⟩
  obtain ⟨x3, s3, h3⟩ : ∃ x s, rdM s2 = (x, s) := ⟨_, _, rfl⟩
  obtain ⟨l4, s4, h4⟩ : ∃ x s, rdLs 4096 rdLo s3 = (x, s) := ⟨_, _, rfl⟩
  simp only [rdRq, rdU, rd2, upRq, h1, h2, h3, h4, Prod.mk.injEq, Rtn.mk.injEq] at e
  obtain ⟨⟨rfl, rfl, rfl, rfl⟩, rfl⟩ := e
  exact rretW g rb A c B er w hR hx h1 h2 h3 h4
end Go.Proofs.Ytpmnjojednbnpaa
end
section
namespace Go.Proofs.Ytpmnjojednbnpaa
open Go.ChangeShapes Go.WideShapes Go.ChangeAt Go.RowKit
set_option linter.unusedVariables false
set_option linter.unusedSimpArgs false

theorem own_kept_types {w w' : World} {B B' e e' s s' : Nat} {v v' : Value} {n n' : Nat} {xs ys : List Value} (hne : e ≠ e') (h : w.ownsRow B e s v n xs) (ho : w.ownsRow B' e' s' v' n' ys) (hg : w.grownBy w' v'.ownBlock) : w'.ownsRow B e s v n xs := by
  refine h.kept hg ?_
  rcases h.2 with ⟨rfl, _⟩ | ⟨g, cap, cur, rfl, _, hh, _⟩
  · exact .inl rfl
  · right
    rcases ho.2 with ⟨rfl, _⟩ | ⟨g', cap', cur', rfl, _, hh', _⟩
    · simp [Value.ownBlock]
    · simp only [Value.ownBlock, ne_eq, Option.some.injEq]
      intro e
      subst e
      rw [hh] at hh'
      injection hh' with hh'
      injection hh' with _ e
      exact absurd e hne
end Go.Proofs.Ytpmnjojednbnpaa
end
section
namespace Go.Proofs.Ytpmnjojednbnpaa
open Go.ChangeShapes Go.WideShapes Go.ChangeAt Go.RowKit
set_option linter.unusedVariables false
set_option linter.unusedSimpArgs false

theorem ERn34 : Elem Try.prog 48 97 4 48 := Elem.mk' (z := .agg #[.int .i64 0, .int .i64 0, .int .i64 0, .slice none 0 0]) (by kernel_rfl) (by kernel_rfl) (by decide) (by decide)
def OL (w : World) (W : Nat) (l : List Rn) : Prop := ∀ x ∈ l, w.ownsRow W 105 3 (.slice x.A x.lots.length x.c) x.lots.length (rc Lo.cells x.lots)
section
variable {w w' : World} {W g : Nat} {l : List Rn}
theorem OL.below (h : OL w W l) (hb : Below w.heap.size w w') : OL w' W l := fun x hx => own_below (h x hx) hb
theorem OL.chg (h : OL w W l) (hC : Chg g none w w') (hg : g < W) : OL w' W l := fun x hx => own_chg (h x hx) hC (fun e => by have := (h x hx).lt _ e; omega) (fun b _ e => by cases e)
theorem OL.base {W2 : Nat} (h : OL w W l) (hb : W2 ≤ W) : OL w W2 l := fun x hx => own_base8 (h x hx) hb
theorem OL.app {B n : Nat} {v : Value} {ys : List Value} (h : OL w W l) (ho : w.ownsRow B 97 4 v n ys) (hg : w.grownBy w' v.ownBlock) : OL w' W l := fun x hx => own_kept_types (by decide) (h x hx) ho hg
theorem OL.snoc {x : Rn} (h : OL w W l) (hx : w.ownsRow W 105 3 (.slice x.A x.lots.length x.c) x.lots.length (rc Lo.cells x.lots)) : OL w W (l ++ [x]) := fun y hy => by
  rcases List.mem_append.1 hy with hy | hy
  · exact h y hy
  · rw [List.mem_singleton.1 hy]; exact hx
end
set_option maxHeartbeats 16000000 in
set_option maxRecDepth 100000 in
theorem rlistR (rb g : Nat) (A : Option Addr) (c : Nat) (B : List Nat) (er mx : Int) (w : World) (hR : Rdr w g A c B er) (hxb : w.heap[rb]? = some (.cells #[.pointer (some ⟨g, 0, none⟩)] 82 (0, 0))) (hm0 : 0 ≤ mx) (hm : mx ≤ 5000) {l2 : List Rtn} {s2 : Rs} (h12 : rdLs mx rdRq ⟨B, er⟩ = (l2, s2)) :
    Calls Try.prog 60 #[.agg #[.pointer (some ⟨g, 0, none⟩)], .int .i64 mx, .func (.func 61) #[] #[.pointer (some ⟨rb, 0, none⟩)]] w fun e w' => ∃ (N : List Rn) (A' : Option Addr) (c' : Nat), e = .returned (.slice A' N.length c') ∧ (s2.err = 0 → N.map Rn.pl = l2) ∧ w'.ownsRow w.heap.size 97 4 (.slice A' N.length c') N.length (rc Rn.cells N) ∧ OL w' w.heap.size N ∧ Chg g none w w' ∧ N.length ≤ 5000 ∧ (∀ x ∈ N, x.lots.length ≤ 5000) ∧ ∃ A2 c2, Rdr w' g A2 c2 s2.B s2.err := by
  obtain ⟨n, s1, h1⟩ : ∃ n s1, rdI 0 mx ⟨B, er⟩ = (n, s1) := ⟨_, _, rfl⟩
  have h2 : rdO rdRq n.toNat s1 = (l2, s2) := by
    rw [← h12]; unfold rdLs; rw [h1]
  clear h12
  have hb := since_alloc (Below.refl _ w) (.cells #[.pointer (some ⟨g, 0, none⟩)] 82)
  have hR1 := hR.below hb
  have hbx := heap_alloc_new w (.cells #[.pointer (some ⟨g, 0, none⟩)] 82)
  have HI := Lib.hid (rint4_any g A c B er 0 mx (w.alloc (.cells #[.pointer (some ⟨g, 0, none⟩)] 82)) hR1)
  rw [h1] at HI
  have hn : 0 ≤ n ∧ n ≤ mx := by
    have := rdI_within (lo := 0) (hi := mx) ⟨B, er⟩ (by decide) hm0
    rw [h1] at this
    exact this
  have HNS := Lib.hid h2
  obtain ⟨m, hmn⟩ : ∃ m : Nat, n = (m : Int) := ⟨n.toNat, by omega⟩
  subst hmn
  have hml : m ≤ 5000 := by omega
  have HR1 := Lib.hid hR1
  have HX1 := Lib.hid hbx
  have HB := Lib.hid hb
  have HXB := Lib.hid ((hb.block rb (Array.getElem?_eq_some_iff.1 hxb).1).trans hxb)
  obtain ⟨WB, hWB⟩ : ∃ WB, w.heap.size = WB := ⟨_, rfl⟩
  have HWB := Lib.hid hWB
  rw [hWB] at HX1 ⊢
  have hszb : WB ≤ w.heap.size := by omega
  have HSZ : Hid (WB + 1 ≤ (w.alloc (.cells #[.pointer (some ⟨g, 0, none⟩)] 82)).heap.size) := Lib.hid (by rw [World.size_alloc]; omega)
  have HGL : Hid (g < WB) := Lib.hid (by rw [← hWB]; exact hR.lt)
  have HBL : Hid (rb < WB) := Lib.hid (by rw [← hWB]; exact (Array.getElem?_eq_some_iff.1 hxb).1)
  clear hR hR1 hb hbx h1 h2 hWB hszb hxb
  go_enter Try.func60, Try.ntmps60
  go_wp2_with fail
  refine HI.out.mono ?_
  rintro e w2 ⟨rfl, hC2, A2, c2, hR2⟩
  have hx2 := HR1.out.keepR hC2 HX1.out (fun cs t f e => by injection e with _ e2 _; subst e2; decide)
  have HXB2 := Lib.hid (HR1.out.keepR hC2 HXB.out (fun cs t f e => by injection e with _ e2 _; subst e2; decide))
  have hC2w : Chg g none w w2 := (Chg.of_below HB.out).trans hC2 (.inl rfl)
  rw [HWB.out]
  have HR2 := Lib.hid hR2
  have HX2 := Lib.hid hx2
  have HC2 := Lib.hid hC2w
  clear HI hC2 hR2 hx2 hC2w HX1 HR1 HB HXB HSZ
  go_wp2_with fail
  go_loopw [8, 9, 15] (fun ov xv iv wr => ∃ (k : Nat) (RL : List Rn) (A3 : Option Addr) (c3 : Nat) (A4 : Option Addr) (c4 : Nat), k ≤ m ∧ iv = .int .i64 (k : Int) ∧ ov = .slice A3 RL.length c3 ∧ RL.map Rn.pl = (rdO rdRq k s1).1 ∧ wr.ownsRow (WB + 1) 97 4 (.slice A3 RL.length c3) RL.length (rc Rn.cells RL) ∧ OL wr (WB + 1) RL ∧ Rdr wr g A4 c4 (rdO rdRq k s1).2.B (rdO rdRq k s1).2.err ∧ Chg g none w wr ∧ wr.heap[WB]? = some (.cells #[.pointer (some ⟨g, 0, none⟩)] 82 (0, 0)) ∧ wr.heap[rb]? = some (.cells #[.pointer (some ⟨g, 0, none⟩)] 82 (0, 0)) ∧ ∀ x ∈ RL, x.lots.length ≤ 5000) (fun _ _ iv _ => m - (intOf iv).toNat)
  case atStart => exact ⟨0, [], none, 0, A2, c2, by omega, rfl, rfl, rfl, own_nil _ _ _, (fun x hx => by cases hx), HR2.out, HC2.out, HX2.out, HXB2.out, (fun x hx => by cases hx)⟩
  case round =>
    clear A2 c2 HR2 HX2 HC2 HXB2
    obtain ⟨k, RL, A3, c3, A4, c4, hk, rfl, rfl, hmap, hown, hOL, hR, hC, hx, hxb, hll⟩ := hrel
    by_cases hkm : k < m
    · have hk1 : (k : Int) < (m : Int) := by omega
      have hk0 : (0 : Int) ≤ (k : Int) := by omega
      obtain ⟨x, s3, hxs⟩ : ∃ x s3, rdRq (rdO rdRq k s1).2 = (x, s3) := ⟨_, _, rfl⟩
      have hs := rdO_succ (f := rdRq) k s1
      rw [hxs] at hs
      obtain ⟨xa, xb, xq, xl⟩ := x
      have hxs2 : rdRq ⟨(rdO rdRq k s1).2.B, (rdO rdRq k s1).2.err⟩ = (⟨xa, xb, xq, xl⟩, s3) := hxs
      have HLO := Lib.hid (rretO rb g A4 c4 (rdO rdRq k s1).2.B (rdO rdRq k s1).2.err wr hR hxb hxs2)
      have hlen : RL.length = k := by
        have h1 := congrArg List.length hmap
        rw [List.length_map, rdO_len] at h1
        exact h1
      have HS := Lib.hid hs
      have HMAP := Lib.hid hmap
      have HLEN := Lib.hid hlen
      have hN1 : RL.length ≤ 5000 := by omega
      clear hlen
      have HOWN := Lib.hid hown
      have HOL := Lib.hid hOL
      have HLL := Lib.hid hll
      have HR := Lib.hid hR
      have HC := Lib.hid hC
      have HX := Lib.hid hx
      have HXB := Lib.hid hxb
      have HSZK : Hid (WB + 1 ≤ wr.heap.size) := Lib.hid (Array.getElem?_eq_some_iff.1 hx).1
      clear hs hxs hxs2 hmap hown hOL hll hR hC hx hxb
      have HNE : Hid (∀ cs t f, (Obj.cells #[.pointer (some ⟨g, 0, none⟩)] 82 (0, 0)) = .cells cs t f → t ≠ 129) := Lib.hid fun cs t f e => by injection e with _ e2 _; subst e2; decide
      go_wp2_with (first | (go_at_call 61; refine HLO.out.mono ?_; rintro e w5 ⟨NL, AN, cN, rfl, hNL, hNown, hC5, hNl, A5, c5, hR5⟩; have hx5 := HR.out.keepR hC5 HX.out HNE.out; have hxb5 := Lib.hid (HR.out.keepR hC5 HXB.out HNE.out); have p0 : w5.cell? ⟨WB, 0, none⟩ = some (.pointer (some ⟨g, 0, none⟩)) := (cell_of_row w5 WB 0 _ _ (0, 0) hx5).trans rfl; have hwl : WB < w5.heap.size := (Array.getElem?_eq_some_iff.1 hx5).1; have hal5 := since_alloc (Below.refl _ w5) (.cells #[.int .i64 xa, .int .i64 xb, .int .i64 xq, .slice AN NL.length cN] 97); have HX5 := Lib.hid hx5; have HC5 := Lib.hid hC5; have HAL5 := Lib.hid hal5; have HNB := Lib.hid (heap_alloc_new w5 (.cells #[.int .i64 xa, .int .i64 xb, .int .i64 xq, .slice AN NL.length cN] 97)); have HR5 := Lib.hid hR5; have HNL := Lib.hid hNL; have HNO := Lib.hid hNown; have HNl := Lib.hid hNl; have HER := Lib.hid (rerr_any g A5 c5 s3.B s3.err (w5.alloc (.cells #[.int .i64 xa, .int .i64 xb, .int .i64 xq, .slice AN NL.length cN] 97)) (hR5.below hal5)); clear hal5 hx5 hC5 hR5 hNL hNown hNl) | fail)
      refine HER.out.mono ?_
      rintro e w6 ⟨rfl, hb6⟩
      have hnb := (hb6.block w5.heap.size (by rw [World.size_alloc]; omega)).trans HNB.out
      have hb6 := HAL5.out.trans (hb6.mono (by rw [World.size_alloc]; omega))
      have q0 : w6.cell? ⟨w5.heap.size, 0, none⟩ = some (.int .i64 xa) := (cell_of_row w6 w5.heap.size 0 _ _ (0, 0) hnb).trans rfl
      have q1 : w6.cell? ⟨w5.heap.size, 1, none⟩ = some (.int .i64 xb) := (cell_of_row w6 w5.heap.size 1 _ _ (0, 0) hnb).trans rfl
      have q2 : w6.cell? ⟨w5.heap.size, 2, none⟩ = some (.int .i64 xq) := (cell_of_row w6 w5.heap.size 2 _ _ (0, 0) hnb).trans rfl
      have q3 : w6.cell? ⟨w5.heap.size, 3, none⟩ = some (.slice AN NL.length cN) := (cell_of_row w6 w5.heap.size 3 _ _ (0, 0) hnb).trans rfl
      have hnl := (Array.getElem?_eq_some_iff.1 hnb).1
      have hR6 := HR5.out.below hb6
      have hC6 := HC.out.trans (HC5.out.trans (Chg.of_below hb6) (.inl rfl)) (.inl rfl)
      have hx6 := (hb6.block WB (Nat.lt_of_lt_of_le hwl (Nat.le_refl _))).trans HX5.out
      have HXB6 := Lib.hid ((hb6.block rb (Array.getElem?_eq_some_iff.1 hxb5.out).1).trans hxb5.out)
      have hown6 := own_below (own_chg HOWN.out HC5.out (fun e => by have := HOWN.out.lt _ e; have := HGL.out; omega) (fun b _ e => by cases e)) hb6
      have hOL6 := (HOL.out.chg HC5.out (Nat.lt_succ_of_lt HGL.out)).below hb6
      have hNO6 := own_base8 (own_below HNO.out hb6) HSZK.out
      clear p0 hwl hb6 hnb
      by_cases he : s3.err = 0
      · have he1 : (s3.err != 0) = false := by simp [he]
        have hNe := HNL.out he
        subst hNe
        have HR6 := Lib.hid hR6
        have HC6 := Lib.hid hC6
        have HX6 := Lib.hid hx6
        have hsz6 : WB + 1 ≤ w6.heap.size := (Array.getElem?_eq_some_iff.1 hx6).1
        have HE := Lib.hid he
        have hown7 := hown6.alloc (.cells #[.int .i64 xa, .int .i64 xb, .int .i64 xq, .slice AN NL.length cN] 97)
        have HOL7 := Lib.hid (hOL6.below (since_alloc (Below.refl _ w6) (.cells #[.int .i64 xa, .int .i64 xb, .int .i64 xq, .slice AN NL.length cN] 97)))
        have HNO7 := Lib.hid (hNO6.alloc (.cells #[.int .i64 xa, .int .i64 xb, .int .i64 xq, .slice AN NL.length cN] 97))
        have HO7 := Lib.hid hown7
        clear hR6 hC6 hx6 he hOL6 hNO6 hown6
        go_wp2_with (first
          | (at_builtin; refine wpList_app rfl (.tmp 23) (.tmp 25) rfl ERn34 rfl rfl hown7 (m := 1) (news := [.int .i64 xa, .int .i64 xb, .int .i64 xq, .slice AN NL.length cN]) rfl (Sl.new_ _ _ _) (fun u hu => by simp only [List.mem_cons, List.not_mem_nil, or_false] at hu; rcases hu with rfl | rfl | rfl | rfl <;> rfl) (by unfold maxLen; omega) (by omega) (by simp only [World.size_alloc]; omega) ?_; intro A7 c7 w7 own7 hg7 hb7)
          | fail)
        have hlt7 : g < w6.heap.size := HR6.out.lt
        have hW7 := since_alloc (Below.refl _ w6) (.cells #[.int .i64 xa, .int .i64 xb, .int .i64 xq, .slice AN NL.length cN] 97)
        have hR7 : Rdr w7 g A5 c5 s3.B s3.err := (HR6.out.below hW7).belowW hb7 (Nat.lt_succ_of_lt HGL.out)
        have hB67 : Below (WB + 1) w6 w7 := (hW7.mono hsz6).trans hb7
        have hC7 : Chg g none w w7 := HC6.out.thenB hB67 (by have := HWB.out; omega)
        have hx7 := (hB67.block WB (Nat.lt_succ_self _)).trans HX6.out
        have hs := HS.out
        have hlk := HLEN.out
        have hOL8 := (HOL7.out.app HO7.out hg7).snoc (x := ⟨xa, xb, xq, AN, cN, NL⟩) (own_kept_types (by decide) HNO7.out HO7.out hg7)
        have hl7 : (RL ++ [(⟨xa, xb, xq, AN, cN, NL⟩ : Rn)]).length = RL.length + 1 := by rw [List.length_append]; rfl
        have hll8 : ∀ x ∈ RL ++ [(⟨xa, xb, xq, AN, cN, NL⟩ : Rn)], x.lots.length ≤ 5000 := fun x hx => by
          rcases List.mem_append.1 hx with hx | hx
          · exact HLL.out x hx
          · rw [List.mem_singleton.1 hx]; exact HNl.out
        go_roundw
        case rel =>
          refine ⟨k + 1, RL ++ [⟨xa, xb, xq, AN, cN, NL⟩], A7, c7, A5, c5, by omega, by go_num, by rw [hl7], ?_, ?_, hOL8, ?_, hC7, hx7, (hB67.block rb (Nat.lt_succ_of_lt HBL.out)).trans HXB6.out, hll8⟩
          · rw [hs.1, List.map_append, HMAP.out]; rfl
          · rw [hl7, rc_snoc34]
            exact own7
          · rw [hs.2]; exact hR7
        case measure => simp [intOf]; omega
      · have he1 : (s3.err != 0) = true := by simpa using he
        have hst : s2 = s3 := by
          have h1 := HNS.out
          have h2 : (rdO rdRq m s1).2 = s2 := by
            have : (m : Int).toNat = m := by omega
            rw [this] at h1
            rw [h1]
          rw [← h2, rdO_end canRq.stuck (show k + 1 ≤ m by omega) s1 (by rw [HS.out.2]; exact he)]
          exact HS.out.2
        have HST := Lib.hid hst
        have HHE := Lib.hid he
        clear hown6 hOL6 hNO6 hx6 he hst
        go_wp2_with fail
        go_ret
        refine ⟨[], none, 0, rfl, fun h => absurd h (by rw [HST.out]; exact HHE.out), own_nil _ _ _, (fun x hx => by cases hx), hC6, by simp, (fun x hx => by cases hx), A5, c5, by rw [HST.out]; exact hR6⟩
    · obtain rfl : k = m := by omega
      have h1 := HNS.out
      have htn : (k : Int).toNat = k := by omega
      rw [htn] at h1
      rw [h1] at hmap hR
      have hlen : RL.length ≤ 5000 := by
        have h3 := congrArg List.length hmap
        have h4 := rdO_len (f := rdRq) k s1
        rw [h1] at h4
        rw [List.length_map] at h3
        simp only at h3 h4
        omega
      have HLEN := Lib.hid hlen
      have HMAP := Lib.hid hmap
      clear hlen h1 hx hxb hmap
      go_wp2_with fail
      go_ret
      exact ⟨RL, A3, c3, rfl, fun _ => HMAP.out, own_base8 hown (Nat.le_succ _), hOL.base (Nat.le_succ _), hC, HLEN.out, hll, A4, c4, hR⟩
end Go.Proofs.Ytpmnjojednbnpaa
end
