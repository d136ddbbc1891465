import Derived.Deep.CutBlock
import Derived.Deep.CutRange
import Derived.Deep.DeepCutAuto
import Derived.Test.YtpmnjojednbnpaaCr01
import Derived.Test.YtpmnjojednbnpaaCr16
import Derived.Test.YtpmnjojednbnpaaCr17
section
namespace Go.Proofs.Ytpmnjojednbnpaa
open Go.ChangeShapes Go.WideShapes Go.ChangeAt Go.RowKit
set_option linter.unusedVariables false
set_option linter.unusedSimpArgs false

theorem own_box34 {w : World} {base e size n b t : Nat} {v : Value} {xs : List Value} {cs : Array Value} {fz : Nat × Nat} (h : w.ownsRow base e size v n xs) (hb : w.heap[b]? = some (.cells cs t fz)) (hne : e ≠ t) (o : Nat) (u : Value) : (w.setCell ⟨b, o, none⟩ u).ownsRow base e size v n xs :=
  own_chg h (Chg.set (g := b) (row := none) o u) (own_type h hb hne) (fun b _ e => by cases e)
theorem own_at34 {w : World} {base e size n g : Nat} {v : Value} {xs : List Value} {w' : World} (h : w.ownsRow base e size v n xs) (hC : Chg g none w w') (hg : g < base) : w'.ownsRow base e size v n xs :=
  own_chg h hC (fun e => by have := (h.lt _ e).1; omega) (fun b _ e => by cases e)
theorem OL.box {w : World} {W b t : Nat} {l : List Rn} {cs : Array Value} {fz : Nat × Nat} (h : OL w W l) (hb : w.heap[b]? = some (.cells cs t fz)) (hne : 105 ≠ t) (o : Nat) (u : Value) : OL (w.setCell ⟨b, o, none⟩ u) W l := fun x hx => own_box34 (h x hx) hb hne o u
theorem setb34 {w : World} {b t : Nat} {cs : Array Value} (i : Nat) (v : Value) (h : w.heap[b]? = some (.cells cs t (0, 0))) : (w.setCell ⟨b, i, none⟩ v).heap[b]? = some (.cells (cs.set! i v) t (0, 0)) := by
  rw [setCell_eq_setRow w b i _ t (0, 0) _ h]
  exact setRow_heap w b _ _ t (0, 0) h
def RRes34 (w' : World) (e : Ending) (ok : Bool) (x : Rep4) : Prop :=
  if ok = true then ∃ (A1 : Option Addr) (c1 : Nat) (A2 : Option Addr) (c2 : Nat) (A3 : Option Addr) (c3 : Nat) (RL : List Rn), e = .returned (.tuple #[.agg #[.int .i64 x.1, .slice A1 x.2.1.length c1, .slice A2 x.2.2.1.length c2, .slice A3 RL.length c3], .int .i64 0]) ∧ RL.map Rn.pl = x.2.2.2 ∧ Sl w' A1 (ints .i64 x.2.1) ∧ Sl w' A2 (rc Db.cells x.2.2.1) ∧ Sl w' A3 (rc Rn.cells RL) ∧ ∀ y ∈ RL, Sl w' y.A (rc Lo.cells y.lots)
  else e = .returned (.tuple #[.agg #[.int .i64 0, .slice none 0 0, .slice none 0 0, .slice none 0 0], .int .i64 3])
def okR (s : Rs) : Bool := decide (endF s = 0)
theorem can_stuckE {α : Type} {f : Rs → α × Rs} {ef : α → List Int} {okf : α → Prop} (hf : Can f ef okf) {s s' : Rs} {x : α} (h : f s = (x, s')) (he : s'.err = 0) : s.err = 0 := by
  rcases Classical.em (s.err = 0) with h0 | h0
  · exact h0
  · have := hf.stuck s h0
    rw [h] at this
    simp only at this
    rw [this] at he
    exact he
theorem endF_err {s : Rs} (h : endF s = 0) : s.err = 0 ∧ s.B = [] := by
  unfold endF at h
  split at h
  · rename_i h1; exact absurd h h1
  · rename_i h1
    split at h
    · rename_i h2; exact ⟨by simpa using h1, h2⟩
    · exact absurd h (by decide)
set_option maxHeartbeats 32000000 in
set_option maxRecDepth 100000 in
theorem decrep34 (A : Option Addr) (cap : Nat) (l : List Nat) (w : World) (hl : l.length ≤ 1000000) (ho : Oct l) (hs : Sl w A (by8 l)) :
    Calls Try.prog 21 #[.slice A l.length cap] w fun e w' => RRes34 w' e (okR (rdRep ⟨l, 0⟩).2) (rdRep ⟨l, 0⟩).1 ∧ Below w.heap.size w w' := by
  have hb0 := since_alloc (Below.refl _ w) (.cells #[.int .i64 0, .slice none 0 0, .slice none 0 0, .slice none 0 0] 50)
  have hx0 := heap_alloc_new w (.cells #[.int .i64 0, .slice none 0 0, .slice none 0 0, .slice none 0 0] 50)
  obtain ⟨er, s1, e1⟩ : ∃ x s, rdM ⟨l, 0⟩ = (x, s) := ⟨_, _, rfl⟩
  obtain ⟨nums, s2, e2⟩ : ∃ x s, rdLs 4096 rdM s1 = (x, s) := ⟨_, _, rfl⟩
  obtain ⟨debs, s3, e3⟩ : ∃ x s, rdLs 4096 rdDb s2 = (x, s) := ⟨_, _, rfl⟩
  obtain ⟨rets, s4, e4⟩ : ∃ x s, rdLs 4096 rdRq s3 = (x, s) := ⟨_, _, rfl⟩
  have hD : rdRep ⟨l, 0⟩ = ((er, nums, debs, rets), s4) := by simp only [rdRep, rd2, e1, e2, e3, e4]
  rw [hD]
  have HE3 : Hid (s4.err = 0 → s3.err = 0) := Lib.hid fun h => can_stuckE (canRq.list (mx := 4096) (by decide) (by decide)) e4 h
  have HE2 : Hid (s4.err = 0 → s2.err = 0) := Lib.hid fun h => can_stuckE (canDb.list (mx := 4096) (by decide) (by decide)) e3 (HE3.out h)
  have HN1 := Lib.hid (fun g AR cR V (h : Rdr V g AR cR l 0) => rnumberW g AR cR l 0 V h)
  rw [e1] at HN1
  have HN2 := Lib.hid (fun g AR cR V (h : Rdr V g AR cR s1.B s1.err) => rlistM g AR cR s1.B s1.err 4096 V h (by decide) (by decide) e2)
  have HN3 := Lib.hid (fun rb g AR cR V (h : Rdr V g AR cR s2.B s2.err) hx => rlistD rb g AR cR s2.B s2.err 4096 V h hx (by decide) (by decide) e3)
  have HN4 := Lib.hid (fun rb g AR cR V (h : Rdr V g AR cR s3.B s3.err) hx => rlistR rb g AR cR s3.B s3.err 4096 V h hx (by decide) (by decide) e4)
  clear hD e1 e2 e3 e4
  obtain ⟨q0, hq0⟩ : ∃ q0, w.heap.size = q0 := ⟨_, rfl⟩
  have HQ0 := Lib.hid hq0
  have HOP := Lib.hid (wopenW A cap l (w.alloc (.cells #[.int .i64 0, .slice none 0 0, .slice none 0 0, .slice none 0 0] 50)) (by omega) ho (hs.below hb0))
  rw [hq0] at hx0 hb0 ⊢
  have HX0 := Lib.hid hx0
  have HB0 := Lib.hid hb0
  have HSZ0 : Hid ((w.alloc (.cells #[.int .i64 0, .slice none 0 0, .slice none 0 0, .slice none 0 0] 50)).heap.size = q0 + 1) := Lib.hid (by rw [World.size_alloc, hq0])
  clear hs hq0 hx0 hb0
  go_enter Try.func21, Try.ntmps21
  go_wp2_with fail
  refine HOP.out.mono ?_
  rintro e v1 ⟨g, rfl, hg, hb1, AR, cR, hR⟩
  rw [HSZ0.out] at hg hb1
  rw [HQ0.out]
  have hx1 := (hb1.block q0 (Nat.lt_succ_self _)).trans HX0.out
  have hB1 : Below q0 w v1 := HB0.out.trans (hb1.mono (Nat.le_succ _))
  generalize w.alloc (.cells #[.int .i64 0, .slice none 0 0, .slice none 0 0, .slice none 0 0] 50) = W0 at *
  clear HOP HX0 HB0 HSZ0 hb1
  have hrb := heap_alloc_new v1 (.cells #[.pointer (some ⟨g, 0, none⟩)] 82)
  have hal := since_alloc (Below.refl _ v1) (.cells #[.pointer (some ⟨g, 0, none⟩)] 82)
  have hysz : (v1.alloc (.cells #[.pointer (some ⟨g, 0, none⟩)] 82)).heap.size = v1.heap.size + 1 := World.size_alloc _ _
  obtain ⟨rb, hrbe⟩ : ∃ rb, v1.heap.size = rb := ⟨_, rfl⟩
  have hgr : g < rb := by rw [← hrbe]; exact hR.lt
  have HRB := Lib.hid hrbe
  rw [hrbe] at hrb hysz
  have hR := hR.below hal
  have hx1 := (hal.block q0 (Array.getElem?_eq_some_iff.1 hx1).1).trans hx1
  have hB1 := hB1.trans (hal.mono (by rw [hrbe]; omega))
  obtain ⟨Y, hY⟩ : ∃ Y, v1.alloc (.cells #[.pointer (some ⟨g, 0, none⟩)] 82) = Y := ⟨_, rfl⟩
  have HY := Lib.hid hY
  rw [hY] at hrb hR hx1 hB1 hysz
  have HYS := Lib.hid hysz
  clear hal hY hrbe hysz
  go_upto_region 2 with fail
  rw [HRB.out, HY.out]
  have HF2 : Hid (∀ V, Chg g none Y V → V.cell? ⟨rb, 0, none⟩ = some (.pointer (some ⟨g, 0, none⟩)) ∧ rb < V.heap.size) := Lib.hid fun V hC => by
    have h := hR.keepR hC hrb (fun cs t f e => by injection e with _ e2 _; subst e2; decide)
    exact ⟨by rw [cell_of_row V rb 0 _ _ (0, 0) h]; rfl, (Array.getElem?_eq_some_iff.1 h).1⟩
  have HRV : Hid (∀ V, V = Y.drew ∨ V = Y.drew.alloc (.cells #[.int .i64 0, .slice none 0 0, .slice none 0 0, .slice none 0 0] 50) → Rdr V g AR cR l 0) := Lib.hid fun V h => by
    rcases h with rfl | rfl
    · exact hR.below (Below.refl _ Y).drew
    · exact (hR.below (Below.refl _ Y).drew).below (since_alloc (Below.refl _ _) _)
  have HGB : Hid (∀ b, Y.heap.size ≤ b → g < b ∧ rb < b) := Lib.hid fun b h => by have := HYS.out; omega
  have HR0 := Lib.hid hR
  have HX1 := Lib.hid hx1
  have HRBX := Lib.hid hrb
  have HB1 := Lib.hid hB1
  clear hR hx1 hrb hB1
  go_cut [5] (fun s5 wx => ∃ (b : Nat) (NL : List Int) (AN : Option Addr) (cN : Nat) (A6 : Option Addr) (c6 : Nat), s5 = .pointer (some ⟨b, 0, none⟩) ∧ rb < b ∧ (s2.err = 0 → NL = nums) ∧ NL.length ≤ 5000 ∧ wx.ownsRow (rb + 1) 2 1 (.slice AN NL.length cN) NL.length (rc nC NL) ∧ Chg g none Y wx ∧ wx.heap[b]? = some (.cells #[.int .i64 er, .slice AN NL.length cN, .slice none 0 0, .slice none 0 0] 50 (0, 0)) ∧ Rdr wx g A6 c6 s2.B s2.err)
  case first =>
    refine wp_region_held_drew (S := (fun V => Chg g none Y V)) (by kernel_rfl) (by exact (Chg.of_below (Below.refl _ Y).drew)) (fun hHeld => ?_)
    refine wpAnyH_take (i := 0) (oi := { dst := some 8, op := _, type := _, pos := _, after := _, guard := _ }) (v := ?_) rfl (by kernel_rfl) (by kernel_rfl) (by kernel_rfl) (fun _ _ _ h => h) (Or.inl ⟨by rfl, ?_⟩) hHeld ?_
    rotate_left
    · (intro w hSw; obtain ⟨p0, pl⟩ := HF2.out _ (hSw); go_simp <;> with_reducible rfl)
    try simp only [Act.put, List.setIfInBounds_toArray, List.set_cons_zero, List.set_cons_succ]
    refine wpAnyH_take (i := 2) (oi := { dst := some 10, op := _, type := _, pos := _, after := _, guard := _ }) (v := ?_) rfl (by kernel_rfl) (by kernel_rfl) (by kernel_rfl) (fun _ _ _ h => h) (Or.inl ⟨by rfl, ?_⟩) hHeld ?_
    rotate_left
    · (intro w hSw; obtain ⟨p0, pl⟩ := HF2.out _ (hSw); go_simp <;> with_reducible rfl)
    try simp only [Act.put, List.setIfInBounds_toArray, List.set_cons_zero, List.set_cons_succ]
    refine wpAnyH_take (i := 3) (oi := { dst := some 11, op := _, type := _, pos := _, after := _, guard := _ }) (v := ?_) rfl (by kernel_rfl) (by kernel_rfl) (by kernel_rfl) (fun _ _ _ h => h) (Or.inl ⟨by rfl, ?_⟩) hHeld ?_
    rotate_left
    · (intro w hSw; obtain ⟨p0, pl⟩ := HF2.out _ (hSw); go_simp <;> with_reducible rfl)
    try simp only [Act.put, List.setIfInBounds_toArray, List.set_cons_zero, List.set_cons_succ]
    refine wpAnyH_take (i := 4) (oi := { dst := some 12, op := _, type := _, pos := _, after := _, guard := _ }) (v := ?_) rfl (by kernel_rfl) (by kernel_rfl) (by kernel_rfl) (fun _ _ _ h => h) (Or.inl ⟨by rfl, ?_⟩) hHeld ?_
    rotate_left
    · (intro w hSw; obtain ⟨p0, pl⟩ := HF2.out _ (hSw); go_simp <;> with_reducible rfl)
    try simp only [Act.put, List.setIfInBounds_toArray, List.set_cons_zero, List.set_cons_succ]
    refine wpAnyH_ready (rs := [1, 7]) (by kernel_rfl) (by simp) ?_
    refine AllReadyH.cons (o := { dst := some 9, op := _, type := _, pos := _, after := _, guard := _ }) rfl (fun K hK => ?_) (AllReadyH.cons (o := { dst := some 5, op := _, type := _, pos := _, after := _, guard := _ }) rfl (fun K hK => ?_) AllReadyH.nil)
    · go_simp
      refine (HN1.out _ _ _ _ (HRV.out _ (by first | exact .inl rfl | exact .inr rfl))).mono ?_
      rintro e y1 ⟨rfl, hc1, A5, c5, hr1⟩
      have hKeep : Chg g none Y y1 := hHeld.trans hc1 (.inl rfl)
      have hCy1 := hKeep
      clear hc1
      go_wp2_with fail
      refine hK.out _ _ (by (try dsimp only); exact hKeep) (fun hHeld => ?_)
      clear hK K hKeep
      try simp only [Act.put, List.setIfInBounds_toArray, List.set_cons_zero, List.set_cons_succ]
      refine wpAnyH_ready (rs := [5, 7]) (by kernel_rfl) (by simp) ?_
      refine AllReadyH.cons (o := { dst := some 13, op := _, type := _, pos := _, after := _, guard := _ }) rfl (fun K hK => ?_) (AllReadyH.cons (o := { dst := some 5, op := _, type := _, pos := _, after := _, guard := _ }) rfl (fun K hK => ?_) AllReadyH.nil)
      · go_simp
        have HSZV := Lib.hid hHeld.size
        refine (HN2.out _ _ _ _ hr1).mono ?_
        rintro e y2 ⟨NL, AN, cN, rfl, hnl, hown, hc2, hle, A6, c6, hr2⟩
        have hKeep : Chg g none Y y2 := hHeld.trans hc2 (.inl rfl)
        have hCy2 := hKeep
        have HNL := Lib.hid hnl
        have HLE := Lib.hid hle
        have HOW2 := Lib.hid (own_base8 (b2 := rb + 1) hown (by have := HYS.out; have := HSZV.out; omega))
        clear hnl hle hown
        clear hc2
        go_wp2_with fail
        refine hK.out _ _ (by (try dsimp only); exact hKeep) (fun hHeld => ?_)
        clear hK K hKeep
        try simp only [Act.put, List.setIfInBounds_toArray, List.set_cons_zero, List.set_cons_succ]
        refine wpAnyH_take (i := 6) (oi := { dst := some 14, op := _, type := _, pos := _, after := _, guard := _ }) (v := ?_) rfl (by kernel_rfl) (by kernel_rfl) (by kernel_rfl) (fun _ _ _ h => h) (Or.inl ⟨by rfl, ?_⟩) hHeld ?_
        rotate_left
        · (intro w hSw; obtain ⟨p0, pl⟩ := HF2.out _ (hSw); go_simp <;> with_reducible rfl)
        try simp only [Act.put, List.setIfInBounds_toArray, List.set_cons_zero, List.set_cons_succ]
        refine wpAnyH_ready (rs := [7]) (by kernel_rfl) (by simp) ?_
        refine AllReadyH.cons (o := { dst := some 5, op := _, type := _, pos := _, after := _, guard := _ }) rfl (fun K hK => ?_) AllReadyH.nil
        have hHd := hHeld
        obtain ⟨p0, pl⟩ := HF2.out _ (hHd)
        have hKeep := hHeld.trans (Chg.of_below (since_alloc (Below.refl _ _) (.cells #[.int .i64 0, .slice none 0 0, .slice none 0 0, .slice none 0 0] 50))) (.inl rfl)
        skip
        go_simp
        refine hK.out _ _ (by (try dsimp only); exact hKeep) (fun hHeld => ?_)
        clear hK K hKeep
        try simp only [Act.put, List.setIfInBounds_toArray, List.set_cons_zero, List.set_cons_succ]
        refine wpAnyH_ready (rs := [8]) (by kernel_rfl) (by simp) ?_
        refine AllReadyH.cons (o := { dst := none, op := _, type := _, pos := _, after := _, guard := _ }) rfl (fun K hK => ?_) AllReadyH.nil
        have hHd := hHeld
        obtain ⟨p0, pl⟩ := HF2.out _ (hHd)
        have hKeep : Chg g none Y (y2.alloc (.cells #[.int .i64 er, .slice AN NL.length cN, .slice none 0 0, .slice none 0 0] 50)) := hCy2.trans (Chg.of_below (since_alloc (Below.refl _ y2) _)) (.inl rfl)
        have hcbF : (y2.alloc (.cells #[.int .i64 er, .slice AN NL.length cN, .slice none 0 0, .slice none 0 0] 50)).heap[y2.heap.size]? = some (.cells #[.int .i64 er, .slice AN NL.length cN, .slice none 0 0, .slice none 0 0] 50 (0, 0)) := heap_alloc_new y2 _
        have hrF := hr2.below (since_alloc (Below.refl _ y2) (.cells #[.int .i64 er, .slice AN NL.length cN, .slice none 0 0, .slice none 0 0] 50))
        have hbF := (HGB.out _ hCy2.size).2
        have hoF := HOW2.out.alloc (.cells #[.int .i64 er, .slice AN NL.length cN, .slice none 0 0, .slice none 0 0] 50)
        skip
        go_simp
        refine hK.out _ _ (by (try dsimp only); exact hKeep) (fun hHeld => ?_)
        clear hK K hKeep
        try simp only [Act.put, List.setIfInBounds_toArray, List.set_cons_zero, List.set_cons_succ]
        refine wpAnyH_done (by kernel_rfl) ?_ _
        go_wp2_with fail
        go_meet
        case rel => exact ⟨_, NL, AN, cN, _, _, rfl, hbF, HNL.out, HLE.out, hoF, hHeld, hcbF, hrF⟩
      · have hHd := hHeld
        obtain ⟨p0, pl⟩ := HF2.out _ (hHd)
        have hKeep := hHeld.trans (Chg.of_below (since_alloc (Below.refl _ _) (.cells #[.int .i64 0, .slice none 0 0, .slice none 0 0, .slice none 0 0] 50))) (.inl rfl)
        have hzb1 := heap_alloc_new y1 (.cells #[.int .i64 0, .slice none 0 0, .slice none 0 0, .slice none 0 0] 50)
        have hr1 := hr1.below (since_alloc (Below.refl _ y1) (.cells #[.int .i64 0, .slice none 0 0, .slice none 0 0, .slice none 0 0] 50))
        have hbge : Y.heap.size ≤ y1.heap.size := hCy1.size
        skip
        go_simp
        refine hK.out _ _ (by (try dsimp only); exact hKeep) (fun hHeld => ?_)
        clear hK K hKeep
        try simp only [Act.put, List.setIfInBounds_toArray, List.set_cons_zero, List.set_cons_succ]
        refine wpAnyH_ready (rs := [5]) (by kernel_rfl) (by simp) ?_
        refine AllReadyH.cons (o := { dst := some 13, op := _, type := _, pos := _, after := _, guard := _ }) rfl (fun K hK => ?_) AllReadyH.nil
        go_simp
        have HSZV := Lib.hid hHeld.size
        refine (HN2.out _ _ _ _ hr1).mono ?_
        rintro e y2 ⟨NL, AN, cN, rfl, hnl, hown, hc2, hle, A6, c6, hr2⟩
        have hKeep : Chg g none Y y2 := hHeld.trans hc2 (.inl rfl)
        have hCy2 := hKeep
        have HNL := Lib.hid hnl
        have HLE := Lib.hid hle
        have HOW2 := Lib.hid (own_base8 (b2 := rb + 1) hown (by have := HYS.out; have := HSZV.out; omega))
        clear hnl hle hown
        have hzb2 := hr1.keepR hc2 hzb1 (fun cs t f e => by injection e with _ e2 _; subst e2; decide)
        clear hc2
        go_wp2_with fail
        refine hK.out _ _ (by (try dsimp only); exact hKeep) (fun hHeld => ?_)
        clear hK K hKeep
        try simp only [Act.put, List.setIfInBounds_toArray, List.set_cons_zero, List.set_cons_succ]
        refine wpAnyH_take (i := 6) (oi := { dst := some 14, op := _, type := _, pos := _, after := _, guard := _ }) (v := ?_) rfl (by kernel_rfl) (by kernel_rfl) (by kernel_rfl) (fun _ _ _ h => h) (Or.inl ⟨by rfl, ?_⟩) hHeld ?_
        rotate_left
        · (intro w hSw; obtain ⟨p0, pl⟩ := HF2.out _ (hSw); go_simp <;> with_reducible rfl)
        try simp only [Act.put, List.setIfInBounds_toArray, List.set_cons_zero, List.set_cons_succ]
        refine wpAnyH_ready (rs := [8]) (by kernel_rfl) (by simp) ?_
        refine AllReadyH.cons (o := { dst := none, op := _, type := _, pos := _, after := _, guard := _ }) rfl (fun K hK => ?_) AllReadyH.nil
        have hHd := hHeld
        obtain ⟨p0, pl⟩ := HF2.out _ (hHd)
        obtain ⟨hgb, hrbb⟩ := HGB.out _ hbge
        have k0 : y2.cell? ⟨y1.heap.size, 0, none⟩ = some (.int .i64 0) := (cell_of_row y2 (y1.heap.size) 0 _ _ (0, 0) hzb2).trans rfl
        have f0 : y2.frozen? ⟨y1.heap.size, 0, none⟩ = false := by simp [World.frozen?, hzb2]
        have k1 : y2.cell? ⟨y1.heap.size, 1, none⟩ = some (.slice none 0 0) := (cell_of_row y2 (y1.heap.size) 1 _ _ (0, 0) hzb2).trans rfl
        have f1 : y2.frozen? ⟨y1.heap.size, 1, none⟩ = false := by simp [World.frozen?, hzb2]
        have k2 : y2.cell? ⟨y1.heap.size, 2, none⟩ = some (.slice none 0 0) := (cell_of_row y2 (y1.heap.size) 2 _ _ (0, 0) hzb2).trans rfl
        have f2 : y2.frozen? ⟨y1.heap.size, 2, none⟩ = false := by simp [World.frozen?, hzb2]
        have k3 : y2.cell? ⟨y1.heap.size, 3, none⟩ = some (.slice none 0 0) := (cell_of_row y2 (y1.heap.size) 3 _ _ (0, 0) hzb2).trans rfl
        have f3 : y2.frozen? ⟨y1.heap.size, 3, none⟩ = false := by simp [World.frozen?, hzb2]
        have hz2_0 := setb34 0 (.int .i64 er) hzb2
        have ho2_0 := own_box34 (HOW2.out) hzb2 (by decide) 0 (.int .i64 er)
        have hz2_1 := setb34 1 (.slice AN NL.length cN) hz2_0
        have ho2_1 := own_box34 (ho2_0) hz2_0 (by decide) 1 (.slice AN NL.length cN)
        have hz2_2 := setb34 2 (.slice none 0 0) hz2_1
        have ho2_2 := own_box34 (ho2_1) hz2_1 (by decide) 2 (.slice none 0 0)
        have hz2_3 := setb34 3 (.slice none 0 0) hz2_2
        have ho2_3 := own_box34 (ho2_2) hz2_2 (by decide) 3 (.slice none 0 0)
        have hblt : y1.heap.size < y2.heap.size := (Array.getElem?_eq_some_iff.1 hzb2).1
        have hKeep : Chg g none Y ((((y2.setCell ⟨y1.heap.size, 0, none⟩ (.int .i64 er)).setCell ⟨y1.heap.size, 1, none⟩ (.slice AN NL.length cN)).setCell ⟨y1.heap.size, 2, none⟩ (.slice none 0 0)).setCell ⟨y1.heap.size, 3, none⟩ (.slice none 0 0)) := ((((hCy2.setNew (p := ⟨y1.heap.size, 0, none⟩) hbge (.int .i64 er)).setNew (p := ⟨y1.heap.size, 1, none⟩) hbge (.slice AN NL.length cN)).setNew (p := ⟨y1.heap.size, 2, none⟩) hbge (.slice none 0 0)).setNew (p := ⟨y1.heap.size, 3, none⟩) hbge (.slice none 0 0))
        have hcbF : ((((y2.setCell ⟨y1.heap.size, 0, none⟩ (.int .i64 er)).setCell ⟨y1.heap.size, 1, none⟩ (.slice AN NL.length cN)).setCell ⟨y1.heap.size, 2, none⟩ (.slice none 0 0)).setCell ⟨y1.heap.size, 3, none⟩ (.slice none 0 0)).heap[y1.heap.size]? = some (.cells #[.int .i64 er, .slice AN NL.length cN, .slice none 0 0, .slice none 0 0] 50 (0, 0)) := hz2_3
        have hrF : Rdr ((((y2.setCell ⟨y1.heap.size, 0, none⟩ (.int .i64 er)).setCell ⟨y1.heap.size, 1, none⟩ (.slice AN NL.length cN)).setCell ⟨y1.heap.size, 2, none⟩ (.slice none 0 0)).setCell ⟨y1.heap.size, 3, none⟩ (.slice none 0 0)) g A6 c6 s2.B s2.err := hr2.belowW (Below.setB (Below.setB (Below.setB (Below.setB (Below.refl (y1.heap.size) y2) (q := ⟨y1.heap.size, 0, none⟩) (Nat.le_refl _) (.int .i64 er)) (q := ⟨y1.heap.size, 1, none⟩) (Nat.le_refl _) (.slice AN NL.length cN)) (q := ⟨y1.heap.size, 2, none⟩) (Nat.le_refl _) (.slice none 0 0)) (q := ⟨y1.heap.size, 3, none⟩) (Nat.le_refl _) (.slice none 0 0)) hgb
        have hbF : rb < y1.heap.size := hrbb
        have hoF := ho2_3
        clear hz2_0 hz2_1 hz2_2 ho2_0 ho2_1 ho2_2
        skip
        go_simp
        refine hK.out _ _ (by (try dsimp only); exact hKeep) (fun hHeld => ?_)
        clear hK K hKeep
        try simp only [Act.put, List.setIfInBounds_toArray, List.set_cons_zero, List.set_cons_succ]
        refine wpAnyH_done (by kernel_rfl) ?_ _
        go_wp2_with fail
        go_meet
        case rel => exact ⟨_, NL, AN, cN, _, _, rfl, hbF, HNL.out, HLE.out, hoF, hHeld, hcbF, hrF⟩
    · have hHd := hHeld
      obtain ⟨p0, pl⟩ := HF2.out _ (hHd)
      have hKeep := hHeld.trans (Chg.of_below (since_alloc (Below.refl _ _) (.cells #[.int .i64 0, .slice none 0 0, .slice none 0 0, .slice none 0 0] 50))) (.inl rfl)
      have hzb : (Y.drew.alloc (.cells #[.int .i64 0, .slice none 0 0, .slice none 0 0, .slice none 0 0] 50)).heap[Y.heap.size]? = some (.cells #[.int .i64 0, .slice none 0 0, .slice none 0 0, .slice none 0 0] 50 (0, 0)) := heap_alloc_new Y.drew (.cells #[.int .i64 0, .slice none 0 0, .slice none 0 0, .slice none 0 0] 50)
      have hbge : Y.heap.size ≤ Y.heap.size := Nat.le_refl _
      skip
      go_simp
      refine hK.out _ _ (by (try dsimp only); exact hKeep) (fun hHeld => ?_)
      clear hK K hKeep
      try simp only [Act.put, List.setIfInBounds_toArray, List.set_cons_zero, List.set_cons_succ]
      refine wpAnyH_ready (rs := [1]) (by kernel_rfl) (by simp) ?_
      refine AllReadyH.cons (o := { dst := some 9, op := _, type := _, pos := _, after := _, guard := _ }) rfl (fun K hK => ?_) AllReadyH.nil
      go_simp
      refine (HN1.out _ _ _ _ (HRV.out _ (by first | exact .inl rfl | exact .inr rfl))).mono ?_
      rintro e y1 ⟨rfl, hc1, A5, c5, hr1⟩
      have hKeep : Chg g none Y y1 := hHeld.trans hc1 (.inl rfl)
      have hCy1 := hKeep
      have hzb1 := (HRV.out _ (by first | exact .inl rfl | exact .inr rfl)).keepR hc1 hzb (fun cs t f e => by injection e with _ e2 _; subst e2; decide)
      clear hc1
      go_wp2_with fail
      refine hK.out _ _ (by (try dsimp only); exact hKeep) (fun hHeld => ?_)
      clear hK K hKeep
      try simp only [Act.put, List.setIfInBounds_toArray, List.set_cons_zero, List.set_cons_succ]
      refine wpAnyH_ready (rs := [5]) (by kernel_rfl) (by simp) ?_
      refine AllReadyH.cons (o := { dst := some 13, op := _, type := _, pos := _, after := _, guard := _ }) rfl (fun K hK => ?_) AllReadyH.nil
      go_simp
      have HSZV := Lib.hid hHeld.size
      refine (HN2.out _ _ _ _ hr1).mono ?_
      rintro e y2 ⟨NL, AN, cN, rfl, hnl, hown, hc2, hle, A6, c6, hr2⟩
      have hKeep : Chg g none Y y2 := hHeld.trans hc2 (.inl rfl)
      have hCy2 := hKeep
      have HNL := Lib.hid hnl
      have HLE := Lib.hid hle
      have HOW2 := Lib.hid (own_base8 (b2 := rb + 1) hown (by have := HYS.out; have := HSZV.out; omega))
      clear hnl hle hown
      have hzb2 := hr1.keepR hc2 hzb1 (fun cs t f e => by injection e with _ e2 _; subst e2; decide)
      clear hc2
      go_wp2_with fail
      refine hK.out _ _ (by (try dsimp only); exact hKeep) (fun hHeld => ?_)
      clear hK K hKeep
      try simp only [Act.put, List.setIfInBounds_toArray, List.set_cons_zero, List.set_cons_succ]
      refine wpAnyH_take (i := 6) (oi := { dst := some 14, op := _, type := _, pos := _, after := _, guard := _ }) (v := ?_) rfl (by kernel_rfl) (by kernel_rfl) (by kernel_rfl) (fun _ _ _ h => h) (Or.inl ⟨by rfl, ?_⟩) hHeld ?_
      rotate_left
      · (intro w hSw; obtain ⟨p0, pl⟩ := HF2.out _ (hSw); go_simp <;> with_reducible rfl)
      try simp only [Act.put, List.setIfInBounds_toArray, List.set_cons_zero, List.set_cons_succ]
      refine wpAnyH_ready (rs := [8]) (by kernel_rfl) (by simp) ?_
      refine AllReadyH.cons (o := { dst := none, op := _, type := _, pos := _, after := _, guard := _ }) rfl (fun K hK => ?_) AllReadyH.nil
      have hHd := hHeld
      obtain ⟨p0, pl⟩ := HF2.out _ (hHd)
      obtain ⟨hgb, hrbb⟩ := HGB.out _ hbge
      have k0 : y2.cell? ⟨Y.heap.size, 0, none⟩ = some (.int .i64 0) := (cell_of_row y2 (Y.heap.size) 0 _ _ (0, 0) hzb2).trans rfl
      have f0 : y2.frozen? ⟨Y.heap.size, 0, none⟩ = false := by simp [World.frozen?, hzb2]
      have k1 : y2.cell? ⟨Y.heap.size, 1, none⟩ = some (.slice none 0 0) := (cell_of_row y2 (Y.heap.size) 1 _ _ (0, 0) hzb2).trans rfl
      have f1 : y2.frozen? ⟨Y.heap.size, 1, none⟩ = false := by simp [World.frozen?, hzb2]
      have k2 : y2.cell? ⟨Y.heap.size, 2, none⟩ = some (.slice none 0 0) := (cell_of_row y2 (Y.heap.size) 2 _ _ (0, 0) hzb2).trans rfl
      have f2 : y2.frozen? ⟨Y.heap.size, 2, none⟩ = false := by simp [World.frozen?, hzb2]
      have k3 : y2.cell? ⟨Y.heap.size, 3, none⟩ = some (.slice none 0 0) := (cell_of_row y2 (Y.heap.size) 3 _ _ (0, 0) hzb2).trans rfl
      have f3 : y2.frozen? ⟨Y.heap.size, 3, none⟩ = false := by simp [World.frozen?, hzb2]
      have hz2_0 := setb34 0 (.int .i64 er) hzb2
      have ho2_0 := own_box34 (HOW2.out) hzb2 (by decide) 0 (.int .i64 er)
      have hz2_1 := setb34 1 (.slice AN NL.length cN) hz2_0
      have ho2_1 := own_box34 (ho2_0) hz2_0 (by decide) 1 (.slice AN NL.length cN)
      have hz2_2 := setb34 2 (.slice none 0 0) hz2_1
      have ho2_2 := own_box34 (ho2_1) hz2_1 (by decide) 2 (.slice none 0 0)
      have hz2_3 := setb34 3 (.slice none 0 0) hz2_2
      have ho2_3 := own_box34 (ho2_2) hz2_2 (by decide) 3 (.slice none 0 0)
      have hblt : Y.heap.size < y2.heap.size := (Array.getElem?_eq_some_iff.1 hzb2).1
      have hKeep : Chg g none Y ((((y2.setCell ⟨Y.heap.size, 0, none⟩ (.int .i64 er)).setCell ⟨Y.heap.size, 1, none⟩ (.slice AN NL.length cN)).setCell ⟨Y.heap.size, 2, none⟩ (.slice none 0 0)).setCell ⟨Y.heap.size, 3, none⟩ (.slice none 0 0)) := ((((hCy2.setNew (p := ⟨Y.heap.size, 0, none⟩) hbge (.int .i64 er)).setNew (p := ⟨Y.heap.size, 1, none⟩) hbge (.slice AN NL.length cN)).setNew (p := ⟨Y.heap.size, 2, none⟩) hbge (.slice none 0 0)).setNew (p := ⟨Y.heap.size, 3, none⟩) hbge (.slice none 0 0))
      have hcbF : ((((y2.setCell ⟨Y.heap.size, 0, none⟩ (.int .i64 er)).setCell ⟨Y.heap.size, 1, none⟩ (.slice AN NL.length cN)).setCell ⟨Y.heap.size, 2, none⟩ (.slice none 0 0)).setCell ⟨Y.heap.size, 3, none⟩ (.slice none 0 0)).heap[Y.heap.size]? = some (.cells #[.int .i64 er, .slice AN NL.length cN, .slice none 0 0, .slice none 0 0] 50 (0, 0)) := hz2_3
      have hrF : Rdr ((((y2.setCell ⟨Y.heap.size, 0, none⟩ (.int .i64 er)).setCell ⟨Y.heap.size, 1, none⟩ (.slice AN NL.length cN)).setCell ⟨Y.heap.size, 2, none⟩ (.slice none 0 0)).setCell ⟨Y.heap.size, 3, none⟩ (.slice none 0 0)) g A6 c6 s2.B s2.err := hr2.belowW (Below.setB (Below.setB (Below.setB (Below.setB (Below.refl (Y.heap.size) y2) (q := ⟨Y.heap.size, 0, none⟩) (Nat.le_refl _) (.int .i64 er)) (q := ⟨Y.heap.size, 1, none⟩) (Nat.le_refl _) (.slice AN NL.length cN)) (q := ⟨Y.heap.size, 2, none⟩) (Nat.le_refl _) (.slice none 0 0)) (q := ⟨Y.heap.size, 3, none⟩) (Nat.le_refl _) (.slice none 0 0)) hgb
      have hbF : rb < Y.heap.size := hrbb
      have hoF := ho2_3
      clear hz2_0 hz2_1 hz2_2 ho2_0 ho2_1 ho2_2
      skip
      go_simp
      refine hK.out _ _ (by (try dsimp only); exact hKeep) (fun hHeld => ?_)
      clear hK K hKeep
      try simp only [Act.put, List.setIfInBounds_toArray, List.set_cons_zero, List.set_cons_succ]
      refine wpAnyH_done (by kernel_rfl) ?_ _
      go_wp2_with fail
      go_meet
      case rel => exact ⟨_, NL, AN, cN, _, _, rfl, hbF, HNL.out, HLE.out, hoF, hHeld, hcbF, hrF⟩
  case rest =>
    clear HRV HF2 HN1 HN2 HGB
    obtain ⟨b, NL, AN, cN, AR2, cR2, rfl, hrbb, hNL, hNl, hown, hCc, hbx, hr⟩ := hcut
    have hqg : q0 < g := hg
    have hxc : wc.heap[q0]? = some (.cells #[.int .i64 0, .slice none 0 0, .slice none 0 0, .slice none 0 0] 50 (0, 0)) := by
      rw [hCc.block q0 (Array.getElem?_eq_some_iff.1 HX1.out).1 (by omega) (fun e => by cases e)]; exact HX1.out
    have hrc : wc.heap[rb]? = some (.cells #[.pointer (some ⟨g, 0, none⟩)] 82 (0, 0)) := HR0.out.keepR hCc HRBX.out (fun cs t f e => by injection e with _ e2 _; subst e2; decide)
    have hBc : Below q0 w wc := HB1.out.trans (hCc.below (Nat.le_of_lt (Array.getElem?_eq_some_iff.1 HX1.out).1) (by omega) (fun b e => by cases e))
    clear HB1 HX1 HRBX HR0 hCc
    have p0 : wc.cell? ⟨rb, 0, none⟩ = some (.pointer (some ⟨g, 0, none⟩)) := (cell_of_row wc rb 0 _ _ (0, 0) hrc).trans rfl
    have lr : rb < wc.heap.size := (Array.getElem?_eq_some_iff.1 hrc).1
    have HNL := Lib.hid hNL
    have HNl := Lib.hid hNl
    have HOW := Lib.hid hown
    have HBX := Lib.hid hbx
    have HXC := Lib.hid hxc
    have HRC := Lib.hid hrc
    have HRD := Lib.hid hr
    have HBC := Lib.hid hBc
    have HRBB := Lib.hid hrbb
    have HQG := Lib.hid hqg
    clear hNL hNl hown hbx hxc hrc hr hBc
    have H3 := Lib.hid (HN3.out rb g AR2 cR2 wc HRD.out HRC.out)
    clear HN3
    go_wp2_with fail
    refine H3.out.mono ?_
    rintro e v3 ⟨ND, AD, cD, rfl, hND, hownD, hC3, hNDl, A3, c3, hr3⟩
    have hb3 := HRD.out.keepR hC3 HBX.out (fun cs t f e => by injection e with _ e2 _; subst e2; decide)
    have hrb3 := HRD.out.keepR hC3 HRC.out (fun cs t f e => by injection e with _ e2 _; subst e2; decide)
    have hq3 := HRD.out.keepR hC3 HXC.out (fun cs t f e => by injection e with _ e2 _; subst e2; decide)
    have hon3 := own_at34 HOW.out hC3 (by have := HRBB.out; omega)
    have hod3 : v3.ownsRow (rb + 1) 94 5 (.slice AD ND.length cD) ND.length (rc Db.cells ND) := own_base8 hownD lr
    have hB3 := HBC.out.trans (hC3.below (Nat.le_trans (Nat.le_of_lt (by have := HQG.out; omega)) (Nat.le_of_lt lr)) (Nat.le_of_lt HQG.out) (fun b e => by cases e))
    have k2 : v3.cell? ⟨b, 2, none⟩ = some (.slice none 0 0) := (cell_of_row v3 b 2 _ _ (0, 0) hb3).trans rfl
    have f2 : v3.frozen? ⟨b, 2, none⟩ = false := by simp [World.frozen?, hb3]
    have lb3 : b < v3.heap.size := (Array.getElem?_eq_some_iff.1 hb3).1
    have HND := Lib.hid hND
    have HNDl := Lib.hid hNDl
    have hbs : Below b v3 (v3.setCell ⟨b, 2, none⟩ (.slice AD ND.length cD)) := (Below.refl b v3).setCell (Nat.le_refl _) _
    have hr4 := hr3.belowW hbs (by have := HRBB.out; omega)
    have hrb4 := (hbs.block rb HRBB.out).trans hrb3
    have hq4 := (hbs.block q0 (by have := HQG.out; have := HRBB.out; omega)).trans hq3
    have hb4 := setb34 2 (.slice AD ND.length cD) hb3
    have hon4 := own_box34 hon3 hb3 (by decide) 2 (.slice AD ND.length cD)
    have hod4 := own_box34 hod3 hb3 (by decide) 2 (.slice AD ND.length cD)
    have hB4 := hB3.trans (hbs.mono (by have := HQG.out; have := HRBB.out; omega))
    have lr4 : rb + 1 ≤ v3.heap.size := (Array.getElem?_eq_some_iff.1 hrb3).1
    clear H3 HOW HBX HRC HXC HRD HBC hND hNDl hownD hC3 hr3 hrb3 hq3 hon3 hod3 hB3 hbs p0 lr
    have H4 := Lib.hid (HN4.out rb g A3 c3 _ hr4 hrb4)
    have HR4 := Lib.hid hr4
    have HB4 := Lib.hid hb4
    have HQ4 := Lib.hid hq4
    have HRB4 := Lib.hid hrb4
    have HON4 := Lib.hid hon4
    have HOD4 := Lib.hid hod4
    have HBB4 := Lib.hid hB4
    have p0 : (v3.setCell ⟨b, 2, none⟩ (.slice AD ND.length cD)).cell? ⟨rb, 0, none⟩ = some (.pointer (some ⟨g, 0, none⟩)) := (cell_of_row _ rb 0 _ _ (0, 0) hrb4).trans rfl
    have lr4' : rb < v3.heap.size := lr4
    clear hr4 hb4 hq4 hrb4 hon4 hod4 hB4 HN4 hb3
    go_wp2_with fail
    refine H4.out.mono ?_
    rintro e v5 ⟨NR, AR, cR, rfl, hNR, hownR, hOL, hC5, hNRl, hNRx, A5, c5, hr5⟩
    have hb5 := HR4.out.keepR hC5 HB4.out (fun cs t f e => by injection e with _ e2 _; subst e2; decide)
    have hrb5 := HR4.out.keepR hC5 HRB4.out (fun cs t f e => by injection e with _ e2 _; subst e2; decide)
    have hq5 := HR4.out.keepR hC5 HQ4.out (fun cs t f e => by injection e with _ e2 _; subst e2; decide)
    have hon5 := own_at34 HON4.out hC5 (by have := HRBB.out; omega)
    have hod5 := own_at34 HOD4.out hC5 (by have := HRBB.out; omega)
    have hszs : (v3.setCell ⟨b, 2, none⟩ (.slice AD ND.length cD)).heap.size = v3.heap.size := by simp
    have hor5 : v5.ownsRow (rb + 1) 97 4 (.slice AR NR.length cR) NR.length (rc Rn.cells NR) := own_base8 hownR (by rw [hszs]; exact lr4)
    have hol5 : OL v5 (rb + 1) NR := hOL.base (by rw [hszs]; exact lr4)
    have hB5 := HBB4.out.trans (hC5.below (by rw [hszs]; have := HQG.out; omega) (Nat.le_of_lt HQG.out) (fun b e => by cases e))
    have k3 : v5.cell? ⟨b, 3, none⟩ = some (.slice none 0 0) := (cell_of_row v5 b 3 _ _ (0, 0) hb5).trans rfl
    have f3 : v5.frozen? ⟨b, 3, none⟩ = false := by simp [World.frozen?, hb5]
    have lb5 : b < v5.heap.size := (Array.getElem?_eq_some_iff.1 hb5).1
    have HNR := Lib.hid hNR
    have HNRl := Lib.hid hNRl
    have hbs : Below b v5 (v5.setCell ⟨b, 3, none⟩ (.slice AR NR.length cR)) := (Below.refl b v5).setCell (Nat.le_refl _) _
    have hr6 := hr5.belowW hbs (by have := HRBB.out; omega)
    have hrb6 := (hbs.block rb HRBB.out).trans hrb5
    have hq6 := (hbs.block q0 (by have := HQG.out; have := HRBB.out; omega)).trans hq5
    have hb6 := setb34 3 (.slice AR NR.length cR) hb5
    have hb6 : (v5.setCell ⟨b, 3, none⟩ (.slice AR NR.length cR)).heap[b]? = some (.cells #[.int .i64 er, .slice AN NL.length cN, .slice AD ND.length cD, .slice AR NR.length cR] 50 (0, 0)) := hb6
    have hon6 := own_box34 hon5 hb5 (by decide) 3 (.slice AR NR.length cR)
    have hod6 := own_box34 hod5 hb5 (by decide) 3 (.slice AR NR.length cR)
    have hor6 := own_box34 hor5 hb5 (by decide) 3 (.slice AR NR.length cR)
    have hol6 := hol5.box hb5 (by decide) 3 (.slice AR NR.length cR)
    have hB6 := hB5.trans (hbs.mono (by have := HQG.out; have := HRBB.out; omega))
    have HEN := Lib.hid (rend_any g A5 c5 s4.B s4.err _ hr6)
    have p0 : (v5.setCell ⟨b, 3, none⟩ (.slice AR NR.length cR)).cell? ⟨rb, 0, none⟩ = some (.pointer (some ⟨g, 0, none⟩)) := (cell_of_row _ rb 0 _ _ (0, 0) hrb6).trans rfl
    have lr6 : rb < v5.heap.size := (Array.getElem?_eq_some_iff.1 hrb5).1
    have HB6 := Lib.hid hb6
    have HQ6 := Lib.hid hq6
    have HON := Lib.hid hon6
    have HOD := Lib.hid hod6
    have HOR := Lib.hid hor6
    have HOL := Lib.hid hol6
    have HBB6 := Lib.hid hB6
    clear H4 HR4 HB4 HQ4 HRB4 HON4 HOD4 HBB4 hNR hownR hOL hC5 hNRl hNRx hr5 hrb5 hq5 hon5 hod5 hszs hor5 hol5 hB5 hbs hr6 hrb6 hq6 hb6 hon6 hod6 hor6 hol6 hB6 hb5 k2 f2 lb3 lr4 lr4'
    go_wp2_with fail
    refine HEN.out.mono ?_
    rintro e v7 ⟨rfl, hb7⟩
    obtain ⟨R, hRe⟩ : ∃ R : Int, endF ⟨s4.B, s4.err⟩ = R := ⟨_, rfl⟩
    have HRE : Hid (endF s4 = R) := Lib.hid hRe
    rw [hRe]
    have hbx := (hb7.block b (Array.getElem?_eq_some_iff.1 HB6.out).1).trans HB6.out
    have hqx := (hb7.block q0 (Array.getElem?_eq_some_iff.1 HQ6.out).1).trans HQ6.out
    have hon := own_below HON.out hb7
    have hod := own_below HOD.out hb7
    have hor := own_below HOR.out hb7
    have hol := HOL.out.below hb7
    have hBq : Below q0 w v7 := HBB6.out.trans (hb7.mono (Nat.le_of_lt (Array.getElem?_eq_some_iff.1 HQ6.out).1))
    have hql := (Array.getElem?_eq_some_iff.1 hqx).1
    have hbl := (Array.getElem?_eq_some_iff.1 hbx).1
    have kb0 : v7.cell? ⟨b, 0, none⟩ = some (.int .i64 er) := (cell_of_row v7 b 0 _ _ (0, 0) hbx).trans rfl
    have kq0 : v7.cell? ⟨q0, 0, none⟩ = some (.int .i64 0) := (cell_of_row v7 q0 0 _ _ (0, 0) hqx).trans rfl
    have fq0 : v7.frozen? ⟨q0, 0, none⟩ = false := by simp [World.frozen?, hqx]
    have kb1 : v7.cell? ⟨b, 1, none⟩ = some (.slice AN NL.length cN) := (cell_of_row v7 b 1 _ _ (0, 0) hbx).trans rfl
    have kq1 : v7.cell? ⟨q0, 1, none⟩ = some (.slice none 0 0) := (cell_of_row v7 q0 1 _ _ (0, 0) hqx).trans rfl
    have fq1 : v7.frozen? ⟨q0, 1, none⟩ = false := by simp [World.frozen?, hqx]
    have kb2 : v7.cell? ⟨b, 2, none⟩ = some (.slice AD ND.length cD) := (cell_of_row v7 b 2 _ _ (0, 0) hbx).trans rfl
    have kq2 : v7.cell? ⟨q0, 2, none⟩ = some (.slice none 0 0) := (cell_of_row v7 q0 2 _ _ (0, 0) hqx).trans rfl
    have fq2 : v7.frozen? ⟨q0, 2, none⟩ = false := by simp [World.frozen?, hqx]
    have kb3 : v7.cell? ⟨b, 3, none⟩ = some (.slice AR NR.length cR) := (cell_of_row v7 b 3 _ _ (0, 0) hbx).trans rfl
    have kq3 : v7.cell? ⟨q0, 3, none⟩ = some (.slice none 0 0) := (cell_of_row v7 q0 3 _ _ (0, 0) hqx).trans rfl
    have fq3 : v7.frozen? ⟨q0, 3, none⟩ = false := by simp [World.frozen?, hqx]
    have HON7 := Lib.hid hon
    have HOD7 := Lib.hid hod
    have HOR7 := Lib.hid hor
    have HOL7 := Lib.hid hol
    have HBQ := Lib.hid hBq
    have hcs := @cell_set
    have HQR : Hid (q0 < rb + 1) := Lib.hid (by have := HQG.out; omega)
    clear hbx hqx hon hod hor hol hBq hb7 hRe HB6 HQ6 HON HOD HOR HOL HBB6 HEN p0 k3 f3 lb5 lr6
    by_cases hR0 : R = 0
    · subst hR0
      go_wp2_with fail
      refine bodyPost_ret (v := .tuple #[.agg #[.int .i64 er, .slice AN NL.length cN, .slice AD ND.length cD, .slice AR NR.length cR], .int .i64 0]) ?_ rfl ⟨?_, ?_⟩
      · simp [results, Try.results21, go_sem, kq0, kq1, kq2, kq3, hcs]
      · have hok := endF_err HRE.out
        have hok1 : okR s4 = true := by unfold okR; rw [HRE.out]; rfl
        have h1 := HNL.out (HE2.out hok.1)
        have h2 := HND.out (HE3.out hok.1)
        have h3 := HNR.out hok.1
        unfold RRes34
        rw [if_pos hok1, ← h1, ← h2]
        have hCF : Chg q0 none v7 ((((v7.setCell ⟨q0, 0, none⟩ (.int .i64 er)).setCell ⟨q0, 1, none⟩ (.slice AN NL.length cN)).setCell ⟨q0, 2, none⟩ (.slice AD ND.length cD)).setCell ⟨q0, 3, none⟩ (.slice AR NR.length cR)) := (((((Chg.refl q0 none v7).trans (Chg.set (g := q0) (row := none) 0 (.int .i64 er)) (.inl rfl)).trans (Chg.set (g := q0) (row := none) 1 (.slice AN NL.length cN)) (.inl rfl)).trans (Chg.set (g := q0) (row := none) 2 (.slice AD ND.length cD)) (.inl rfl)).trans (Chg.set (g := q0) (row := none) 3 (.slice AR NR.length cR)) (.inl rfl))
        refine ⟨AN, cN, AD, cD, AR, cR, NR, rfl, h3, ?_, ?_, ?_, fun y hy => ?_⟩
        · rw [← rc_nC]; exact Sl.of_own (own_at34 HON7.out hCF HQR.out)
        · exact Sl.of_own (own_at34 HOD7.out hCF HQR.out)
        · exact Sl.of_own (own_at34 HOR7.out hCF HQR.out)
        · exact Sl.of_own (own_at34 (HOL7.out y hy) hCF HQR.out)
      · exact ((((HBQ.out.setCell (Nat.le_refl _) _).setCell (Nat.le_refl _) _).setCell (Nat.le_refl _) _).setCell (Nat.le_refl _) _)
    · have hR1 : (R != 0) = true := by simpa using hR0
      have HR0' := Lib.hid hR0
      clear hR0
      go_wp2_with fail
      refine bodyPost_ret (v := .tuple #[.agg #[.int .i64 0, .slice none 0 0, .slice none 0 0, .slice none 0 0], .int .i64 3]) ?_ rfl ⟨?_, ?_⟩
      · simp [results, Try.results21, go_sem, kq0, kq1, kq2, kq3, hcs]
      · have hok1 : ¬ okR s4 = true := by unfold okR; rw [HRE.out]; simpa using HR0'.out
        unfold RRes34
        rw [if_neg hok1]
      · exact ((((HBQ.out.setCell (Nat.le_refl _) _).setCell (Nat.le_refl _) _).setCell (Nat.le_refl _) _).setCell (Nat.le_refl _) _)
end Go.Proofs.Ytpmnjojednbnpaa
end
