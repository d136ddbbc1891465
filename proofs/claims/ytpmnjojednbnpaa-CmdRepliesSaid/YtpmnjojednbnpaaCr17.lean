import Derived.Deep.CutBlock
import Derived.Deep.CutRange
import Derived.Deep.DeepCutAuto
import Derived.Test.YtpmnjojednbnpaaCr08
section
namespace Go.Proofs.Ytpmnjojednbnpaa
open Go.ChangeShapes Go.WideShapes Go.ChangeAt Go.RowKit
set_option linter.unusedVariables false
set_option linter.unusedSimpArgs false

theorem Chg.toR {g b : Nat} {w w' : World} (h : Chg g none w w') : Chg g (some b) w w' := ⟨h.os, h.tape, h.output, h.size, fun k hk hg _ => h.block k hk hg (fun e => by cases e)⟩
theorem Chg.toB {g b : Nat} {w w' : World} (h : Chg b none w w') : Chg g (some b) w w' := ⟨h.os, h.tape, h.output, h.size, fun k hk _ hb => h.block k hk (fun e => hb (by rw [e])) (fun e => by cases e)⟩
theorem Chg.kp {g b : Nat} {w w' : World} (h : Chg g (some b) w w') {k : Nat} {o : Obj} (hk : w.heap[k]? = some o) (hg : k ≠ g) (hb : k ≠ b) : w'.heap[k]? = some o := by
  rw [h.block k (Array.getElem?_eq_some_iff.1 hk).1 hg (fun e => hb (by injection e))]
  exact hk
theorem Chg.iterAt {g IT k : Nat} {row : Option Nat} {w w' : World} (h : Chg g row w w') (hge : w.heap.size ≤ IT) (s : ByteArray) : Chg g row w (w'.iterAt IT s k) :=
  ⟨h.os, h.tape, h.output, by rw [Lib.iterAt_size]; exact h.size, fun j hj h1 h2 => (Lib.iterAt_other _ _ _ _ _ (by omega)).trans (h.block j hj h1 h2)⟩
theorem Rdr.iterAt {w : World} {g IT k : Nat} {A : Option Addr} {c : Nat} {B : List Nat} {er : Int} {s : ByteArray} (h : Rdr w g A c B er) (hI : w.heap[IT]? = some (.stringIter s k)) (k2 : Nat) : Rdr (w.iterAt IT s k2) g A c B er := by
  refine ⟨by rw [Lib.iterAt_other _ _ _ _ _ (fun e => by subst e; rw [h.blk] at hI; cases hI)]; exact h.blk, h.sl.iterAt hI k2, h.cap, h.cm, h.lies, h.oct⟩
theorem own_iterAt34 {w : World} {b e size n IT k : Nat} {v : Value} {xs : List Value} {s : ByteArray} (h : w.ownsRow b e size v n xs) (hI : w.heap[IT]? = some (.stringIter s k)) (k2 : Nat) : (w.iterAt IT s k2).ownsRow b e size v n xs := by
  refine ⟨h.1, ?_⟩
  rcases h.2 with h | ⟨g, cap, cur, hv, h1, hg, rest⟩
  · exact .inl h
  · exact .inr ⟨g, cap, cur, hv, h1, (Lib.iterAt_other _ _ _ _ _ (fun e => by subst e; rw [hg] at hI; cases hI)).trans hg, rest⟩
theorem Chg.setNew {g : Nat} {row : Option Nat} {w w' : World} (h : Chg g row w w') {p : Addr} (hp : w.heap.size ≤ p.block) (v : Value) : Chg g row w (w'.setCell p v) :=
  ⟨h.os, h.tape, h.output, by simpa using h.size, fun k hk h1 h2 => by rw [Below.heap_setCell _ _ _ _ (by omega)]; exact h.block k hk h1 h2⟩
theorem Below.setB {B : Nat} {a w : World} (h : Below B a w) {q : Addr} (hq : B ≤ q.block) (v : Value) : Below B a (w.setCell q v) := h.setCell hq v
theorem rdF_step {L : List Nat} {k : Nat} (h : k < L.length) (d : Dc) : rdF (L.drop k) d = rdF (L.drop (k + 1)) (rdF1 L[k] d) := by
  rw [List.drop_eq_getElem_cons h]; rfl
theorem rdS_step {l : List (Nat × Int)} {j : Nat} (h : j < l.length) (z : List Int) (s : Rs) : rdS (l.drop j) z s = rdS (l.drop (j + 1)) (z.set l[j].1 (rdM s).1) (rdM s).2 := by
  rw [List.drop_eq_getElem_cons h]; rfl
def DRes34 (W : Nat) (w' : World) (e : Ending) (ok : Bool) (z nums : List Int) : Prop :=
  if ok = true then ∃ A c, e = .returned (.tuple #[.agg (cbox z (.slice A nums.length c)), .int .i64 0]) ∧ w'.ownsRow W 2 1 (.slice A nums.length c) nums.length (ints .i64 nums)
  else e = .returned (.tuple #[.agg #[.int .i64 0, .int .i64 0, .int .i64 0, .int .i64 0, .int .i64 0, .int .i64 0, .int .i64 0, .int .i64 0, .int .i64 0, .int .i64 0, .int .i64 0, .int .i64 0, .int .i64 0, .slice none 0 0], .int .i64 3])
def okD (d : Dc) : Bool := decide (endF d.s = 0) && okZ d.z d.nums.length
set_option maxHeartbeats 16000000 in
set_option maxRecDepth 100000 in
theorem decode34 (A : Option Addr) (cap : Nat) (l : List Nat) (w : World) (hl : l.length ≤ 10000) (ho : Oct l) (hs : Sl w A (by8 l)) :
    Calls Try.prog 16 #[.slice A l.length cap] w fun e w' => DRes34 w.heap.size w' e (okD (decC l)) (decC l).z (decC l).nums ∧ Below w.heap.size w w' := by
  have hb0 := since_alloc (Below.refl _ w) (.cells #[.int .i64 0, .int .i64 0, .int .i64 0, .int .i64 0, .int .i64 0, .int .i64 0, .int .i64 0, .int .i64 0, .int .i64 0, .int .i64 0, .int .i64 0, .int .i64 0, .int .i64 0, .slice none 0 0] 26)
  have hx0 := heap_alloc_new w (.cells #[.int .i64 0, .int .i64 0, .int .i64 0, .int .i64 0, .int .i64 0, .int .i64 0, .int .i64 0, .int .i64 0, .int .i64 0, .int .i64 0, .int .i64 0, .int .i64 0, .int .i64 0, .slice none 0 0] 26)
  obtain ⟨D, hDD⟩ : ∃ D, decC l = D := ⟨_, rfl⟩
  rw [hDD]
  have HDD := Lib.hid hDD
  clear hDD
  obtain ⟨q0, hq0⟩ : ∃ q0, w.heap.size = q0 := ⟨_, rfl⟩
  have HQ0 := Lib.hid hq0
  have HOP := Lib.hid (wopenW A cap l (w.alloc (.cells #[.int .i64 0, .int .i64 0, .int .i64 0, .int .i64 0, .int .i64 0, .int .i64 0, .int .i64 0, .int .i64 0, .int .i64 0, .int .i64 0, .int .i64 0, .int .i64 0, .int .i64 0, .slice none 0 0] 26)) (by omega) ho (hs.below hb0))
  rw [hq0] at hx0 hb0 ⊢
  have HX0 := Lib.hid hx0
  have HB0 := Lib.hid hb0
  have HSZ0 : Hid ((w.alloc (.cells #[.int .i64 0, .int .i64 0, .int .i64 0, .int .i64 0, .int .i64 0, .int .i64 0, .int .i64 0, .int .i64 0, .int .i64 0, .int .i64 0, .int .i64 0, .int .i64 0, .int .i64 0, .slice none 0 0] 26)).heap.size = q0 + 1) := Lib.hid (by rw [World.size_alloc, hq0])
  clear hs hq0 hx0 hb0
  go_enter Try.func16, Try.ntmps16
  go_wp2_with fail
  refine HOP.out.mono ?_
  rintro e v1 ⟨g, rfl, hg, hb1, AR, cR, hR⟩
  rw [HSZ0.out] at hg hb1
  rw [HQ0.out]
  have hx1 := (hb1.block q0 (Nat.lt_succ_self _)).trans HX0.out
  have hB1 : Below q0 w v1 := HB0.out.trans (hb1.mono (Nat.le_succ _))
  generalize w.alloc (.cells #[.int .i64 0, .int .i64 0, .int .i64 0, .int .i64 0, .int .i64 0, .int .i64 0, .int .i64 0, .int .i64 0, .int .i64 0, .int .i64 0, .int .i64 0, .int .i64 0, .int .i64 0, .slice none 0 0] 26) = W0 at *
  clear HOP HX0 HB0 HSZ0 hb1
  have hrb := heap_alloc_new v1 (.cells #[.pointer (some ⟨g, 0, none⟩)] 82)
  have hal := since_alloc (Below.refl _ v1) (.cells #[.pointer (some ⟨g, 0, none⟩)] 82)
  obtain ⟨rb, hrbe⟩ : ∃ rb, v1.heap.size = rb := ⟨_, rfl⟩
  have hgr : g < rb := by rw [← hrbe]; exact hR.lt
  have HRB := Lib.hid hrbe
  rw [hrbe] at hrb
  have hR := hR.below hal
  have hx1 := (hal.block q0 (Array.getElem?_eq_some_iff.1 hx1).1).trans hx1
  have hB1 := hB1.trans (hal.mono (by rw [hrbe]; omega))
  obtain ⟨Y, hY⟩ : ∃ Y, v1.alloc (.cells #[.pointer (some ⟨g, 0, none⟩)] 82) = Y := ⟨_, rfl⟩
  have HY := Lib.hid hY
  rw [hY] at hrb hR hx1 hB1
  clear hal hY hrbe
  go_upto_region 2 with fail
  rw [HRB.out, HY.out]
  have hrbs : rb < Y.heap.size := (Array.getElem?_eq_some_iff.1 hrb).1
  have HF2 : Hid (∀ V, Chg g none Y V → V.cell? ⟨rb, 0, none⟩ = some (.pointer (some ⟨g, 0, none⟩)) ∧ rb < V.heap.size) := Lib.hid fun V hC => by
    have h := hR.keepR hC hrb (fun cs t f e => by injection e with _ e2 _; subst e2; decide)
    exact ⟨by rw [cell_of_row V rb 0 _ _ (0, 0) h]; rfl, (Array.getElem?_eq_some_iff.1 h).1⟩
  have HRV : Hid (∀ V, V = Y.drew ∨ V = Y.drew.alloc (.cells #[.int .i64 0, .int .i64 0, .int .i64 0, .int .i64 0, .int .i64 0, .int .i64 0, .int .i64 0, .int .i64 0, .int .i64 0, .int .i64 0, .int .i64 0, .int .i64 0, .int .i64 0, .slice none 0 0] 26) → Rdr V g AR cR l 0) := Lib.hid fun V h => by
    rcases h with rfl | rfl
    · exact hR.below (Below.refl _ Y).drew
    · exact (hR.below (Below.refl _ Y).drew).below (since_alloc (Below.refl _ _) _)
  obtain ⟨op, s1, e1⟩ : ∃ op s1, rdM ⟨l, 0⟩ = (op, s1) := ⟨_, _, rfl⟩
  obtain ⟨by_, s2, e2⟩ : ∃ a s2, rdM ⟨s1.B, s1.err⟩ = (a, s2) := ⟨_, _, rfl⟩
  have HN1 := Lib.hid (fun AR cR V (h : Rdr V g AR cR l 0) => rnumberW g AR cR l 0 V h)
  have HN2 := Lib.hid (fun AR cR V (h : Rdr V g AR cR s1.B s1.err) => rnumberW g AR cR s1.B s1.err V h)
  rw [e1] at HN1
  rw [e2] at HN2
  have HGB : Hid (∀ b, Y.heap.size ≤ b → g < b) := Lib.hid fun b h => by omega
  have HDC : Hid (D = rdF (fldL op) ⟨[op, by_, 0, 0, 0, 0, 0, 0, 0, 0, 0, 0, 0], [], s2⟩) := Lib.hid (by
    have e2' : rdM s1 = (by_, s2) := e2
    rw [← HDD.out]
    unfold decC
    rw [e1]
    simp only
    rw [e2'])
  have HS1 := Lib.hid e1
  clear e1 e2
  go_cut [5] (fun s5 wx => ∃ (b : Nat) (A6 : Option Addr) (c6 : Nat), s5 = .pointer (some ⟨b, 0, none⟩) ∧ rb < b ∧ Chg g none Y wx ∧ CB wx b [op, by_, 0, 0, 0, 0, 0, 0, 0, 0, 0, 0, 0] (.slice none 0 0) ∧ Rdr wx g A6 c6 s2.B s2.err)
  case first =>
    refine wp_region_held_drew (S := (fun V => Chg g none Y V)) (by kernel_rfl) (by exact (Chg.of_below (Below.refl _ Y).drew)) (fun hHeld => ?_)
    refine wpAnyH_take (i := 0) (oi := { dst := some 12, op := _, type := _, pos := _, after := _, guard := _ }) (v := ?_) rfl (by kernel_rfl) (by kernel_rfl) (by kernel_rfl) (fun _ _ _ h => h) (Or.inl ⟨by rfl, ?_⟩) hHeld ?_
    rotate_left
    · (intro w hSw; obtain ⟨p0, pl⟩ := HF2.out _ (hSw); go_simp <;> with_reducible rfl)
    try simp only [Act.put, List.setIfInBounds_toArray, List.set_cons_zero, List.set_cons_succ]
    refine wpAnyH_take (i := 2) (oi := { dst := some 14, op := _, type := _, pos := _, after := _, guard := _ }) (v := ?_) rfl (by kernel_rfl) (by kernel_rfl) (by kernel_rfl) (fun _ _ _ h => h) (Or.inl ⟨by rfl, ?_⟩) hHeld ?_
    rotate_left
    · (intro w hSw; obtain ⟨p0, pl⟩ := HF2.out _ (hSw); go_simp <;> with_reducible rfl)
    try simp only [Act.put, List.setIfInBounds_toArray, List.set_cons_zero, List.set_cons_succ]
    refine wpAnyH_ready (rs := [1, 5]) (by kernel_rfl) (by simp) ?_
    refine AllReadyH.cons (o := { dst := some 13, op := _, type := _, pos := _, after := _, guard := _ }) rfl (fun K hK => ?_) (AllReadyH.cons (o := { dst := some 5, op := _, type := _, pos := _, after := _, guard := _ }) rfl (fun K hK => ?_) AllReadyH.nil)
    · go_simp
      refine (HN1.out _ _ _ (HRV.out _ (by first | exact .inl rfl | exact .inr rfl))).mono ?_
      rintro e y1 ⟨rfl, hc1, A5, c5, hr1⟩
      have hKeep : Chg g none Y y1 := hHeld.trans hc1 (.inl rfl)
      have hCy1 := hKeep
      clear hc1
      go_wp2_with fail
      refine hK.out _ _ (by (try dsimp only); exact hKeep) (fun hHeld => ?_)
      clear hK K hKeep
      try simp only [Act.put, List.setIfInBounds_toArray, List.set_cons_zero, List.set_cons_succ]
      refine wpAnyH_ready (rs := [3, 5]) (by kernel_rfl) (by simp) ?_
      refine AllReadyH.cons (o := { dst := some 15, op := _, type := _, pos := _, after := _, guard := _ }) rfl (fun K hK => ?_) (AllReadyH.cons (o := { dst := some 5, op := _, type := _, pos := _, after := _, guard := _ }) rfl (fun K hK => ?_) AllReadyH.nil)
      · go_simp
        refine (HN2.out _ _ _ hr1).mono ?_
        rintro e y2 ⟨rfl, hc2, A6, c6, hr2⟩
        have hKeep : Chg g none Y y2 := hHeld.trans hc2 (.inl rfl)
        have hCy2 := hKeep
        clear hc2
        go_wp2_with fail
        refine hK.out _ _ (by (try dsimp only); exact hKeep) (fun hHeld => ?_)
        clear hK K hKeep
        try simp only [Act.put, List.setIfInBounds_toArray, List.set_cons_zero, List.set_cons_succ]
        refine wpAnyH_take (i := 4) (oi := { dst := some 16, op := _, type := _, pos := _, after := _, guard := _ }) (v := ?_) rfl (by kernel_rfl) (by kernel_rfl) (by kernel_rfl) (fun _ _ _ h => h) (Or.inl ⟨by rfl, ?_⟩) hHeld ?_
        rotate_left
        · (intro w hSw; obtain ⟨p0, pl⟩ := HF2.out _ (hSw); go_simp <;> with_reducible rfl)
        try simp only [Act.put, List.setIfInBounds_toArray, List.set_cons_zero, List.set_cons_succ]
        refine wpAnyH_ready (rs := [5]) (by kernel_rfl) (by simp) ?_
        refine AllReadyH.cons (o := { dst := some 5, op := _, type := _, pos := _, after := _, guard := _ }) rfl (fun K hK => ?_) AllReadyH.nil
        have hHd := hHeld
        obtain ⟨p0, pl⟩ := HF2.out _ (hHd)
        have hKeep := hHeld.trans (Chg.of_below (since_alloc (Below.refl _ _) (.cells #[.int .i64 0, .int .i64 0, .int .i64 0, .int .i64 0, .int .i64 0, .int .i64 0, .int .i64 0, .int .i64 0, .int .i64 0, .int .i64 0, .int .i64 0, .int .i64 0, .int .i64 0, .slice none 0 0] 26))) (.inl rfl)
        skip
        go_simp
        refine hK.out _ _ (by (try dsimp only); exact hKeep) (fun hHeld => ?_)
        clear hK K hKeep
        try simp only [Act.put, List.setIfInBounds_toArray, List.set_cons_zero, List.set_cons_succ]
        refine wpAnyH_ready (rs := [6]) (by kernel_rfl) (by simp) ?_
        refine AllReadyH.cons (o := { dst := none, op := _, type := _, pos := _, after := _, guard := _ }) rfl (fun K hK => ?_) AllReadyH.nil
        have hHd := hHeld
        obtain ⟨p0, pl⟩ := HF2.out _ (hHd)
        have hKeep : Chg g none Y (y2.alloc (.cells #[.int .i64 op, .int .i64 by_, .int .i64 0, .int .i64 0, .int .i64 0, .int .i64 0, .int .i64 0, .int .i64 0, .int .i64 0, .int .i64 0, .int .i64 0, .int .i64 0, .int .i64 0, .slice none 0 0] 26)) := hCy2.trans (Chg.of_below (since_alloc (Below.refl _ y2) _)) (.inl rfl)
        have hcbF : CB (y2.alloc (.cells #[.int .i64 op, .int .i64 by_, .int .i64 0, .int .i64 0, .int .i64 0, .int .i64 0, .int .i64 0, .int .i64 0, .int .i64 0, .int .i64 0, .int .i64 0, .int .i64 0, .int .i64 0, .slice none 0 0] 26)) y2.heap.size [op, by_, 0, 0, 0, 0, 0, 0, 0, 0, 0, 0, 0] (.slice none 0 0) := ⟨heap_alloc_new y2 _, rfl⟩
        have hrF := hr2.below (since_alloc (Below.refl _ y2) (.cells #[.int .i64 op, .int .i64 by_, .int .i64 0, .int .i64 0, .int .i64 0, .int .i64 0, .int .i64 0, .int .i64 0, .int .i64 0, .int .i64 0, .int .i64 0, .int .i64 0, .int .i64 0, .slice none 0 0] 26))
        have hbF : Y.heap.size ≤ y2.heap.size := hCy2.size
        skip
        go_simp
        refine hK.out _ _ (by (try dsimp only); exact hKeep) (fun hHeld => ?_)
        clear hK K hKeep
        try simp only [Act.put, List.setIfInBounds_toArray, List.set_cons_zero, List.set_cons_succ]
        refine wpAnyH_done (by kernel_rfl) ?_ _
        go_wp2_with fail
        go_meet
        case rel => exact ⟨_, _, _, rfl, by have := hbF; omega, hHeld, hcbF, hrF⟩
      · have hHd := hHeld
        obtain ⟨p0, pl⟩ := HF2.out _ (hHd)
        have hKeep := hHeld.trans (Chg.of_below (since_alloc (Below.refl _ _) (.cells #[.int .i64 0, .int .i64 0, .int .i64 0, .int .i64 0, .int .i64 0, .int .i64 0, .int .i64 0, .int .i64 0, .int .i64 0, .int .i64 0, .int .i64 0, .int .i64 0, .int .i64 0, .slice none 0 0] 26))) (.inl rfl)
        have hzb1 := heap_alloc_new y1 (.cells #[.int .i64 0, .int .i64 0, .int .i64 0, .int .i64 0, .int .i64 0, .int .i64 0, .int .i64 0, .int .i64 0, .int .i64 0, .int .i64 0, .int .i64 0, .int .i64 0, .int .i64 0, .slice none 0 0] 26)
        have hr1 := hr1.below (since_alloc (Below.refl _ y1) (.cells #[.int .i64 0, .int .i64 0, .int .i64 0, .int .i64 0, .int .i64 0, .int .i64 0, .int .i64 0, .int .i64 0, .int .i64 0, .int .i64 0, .int .i64 0, .int .i64 0, .int .i64 0, .slice none 0 0] 26))
        have hbge : Y.heap.size ≤ y1.heap.size := hCy1.size
        skip
        go_simp
        refine hK.out _ _ (by (try dsimp only); exact hKeep) (fun hHeld => ?_)
        clear hK K hKeep
        try simp only [Act.put, List.setIfInBounds_toArray, List.set_cons_zero, List.set_cons_succ]
        refine wpAnyH_ready (rs := [3]) (by kernel_rfl) (by simp) ?_
        refine AllReadyH.cons (o := { dst := some 15, op := _, type := _, pos := _, after := _, guard := _ }) rfl (fun K hK => ?_) AllReadyH.nil
        go_simp
        refine (HN2.out _ _ _ hr1).mono ?_
        rintro e y2 ⟨rfl, hc2, A6, c6, hr2⟩
        have hKeep : Chg g none Y y2 := hHeld.trans hc2 (.inl rfl)
        have hCy2 := hKeep
        have hzb2 := hr1.keepR hc2 hzb1 (fun cs t f e => by injection e with _ e2 _; subst e2; decide)
        clear hc2
        go_wp2_with fail
        refine hK.out _ _ (by (try dsimp only); exact hKeep) (fun hHeld => ?_)
        clear hK K hKeep
        try simp only [Act.put, List.setIfInBounds_toArray, List.set_cons_zero, List.set_cons_succ]
        refine wpAnyH_take (i := 4) (oi := { dst := some 16, op := _, type := _, pos := _, after := _, guard := _ }) (v := ?_) rfl (by kernel_rfl) (by kernel_rfl) (by kernel_rfl) (fun _ _ _ h => h) (Or.inl ⟨by rfl, ?_⟩) hHeld ?_
        rotate_left
        · (intro w hSw; obtain ⟨p0, pl⟩ := HF2.out _ (hSw); go_simp <;> with_reducible rfl)
        try simp only [Act.put, List.setIfInBounds_toArray, List.set_cons_zero, List.set_cons_succ]
        refine wpAnyH_ready (rs := [6]) (by kernel_rfl) (by simp) ?_
        refine AllReadyH.cons (o := { dst := none, op := _, type := _, pos := _, after := _, guard := _ }) rfl (fun K hK => ?_) AllReadyH.nil
        have hHd := hHeld
        obtain ⟨p0, pl⟩ := HF2.out _ (hHd)
        have hcb0 : CB y2 (y1.heap.size) [0, 0, 0, 0, 0, 0, 0, 0, 0, 0, 0, 0, 0] (.slice none 0 0) := ⟨hzb2, rfl⟩
        obtain ⟨k0, fk0⟩ := hcb0.got (o := 0) (by decide)
        obtain ⟨k1, fk1⟩ := hcb0.got (o := 1) (by decide)
        obtain ⟨k2, fk2⟩ := hcb0.got (o := 2) (by decide)
        obtain ⟨k3, fk3⟩ := hcb0.got (o := 3) (by decide)
        obtain ⟨k4, fk4⟩ := hcb0.got (o := 4) (by decide)
        obtain ⟨k5, fk5⟩ := hcb0.got (o := 5) (by decide)
        obtain ⟨k6, fk6⟩ := hcb0.got (o := 6) (by decide)
        obtain ⟨k7, fk7⟩ := hcb0.got (o := 7) (by decide)
        obtain ⟨k8, fk8⟩ := hcb0.got (o := 8) (by decide)
        obtain ⟨k9, fk9⟩ := hcb0.got (o := 9) (by decide)
        obtain ⟨k10, fk10⟩ := hcb0.got (o := 10) (by decide)
        obtain ⟨k11, fk11⟩ := hcb0.got (o := 11) (by decide)
        obtain ⟨k12, fk12⟩ := hcb0.got (o := 12) (by decide)
        obtain ⟨k13, fk13⟩ := hcb0.gotV
        have hblt := hcb0.lt
        simp only [List.getD_cons_zero, List.getD_cons_succ] at k0 k1 k2 k3 k4 k5 k6 k7 k8 k9 k10 k11 k12
        have hgb : g < y1.heap.size := HGB.out _ hbge
        have hKeep : Chg g none Y ((((((((((((((y2.setCell ⟨y1.heap.size, 0, none⟩ (.int .i64 op)).setCell ⟨y1.heap.size, 1, none⟩ (.int .i64 by_)).setCell ⟨y1.heap.size, 2, none⟩ (.int .i64 0)).setCell ⟨y1.heap.size, 3, none⟩ (.int .i64 0)).setCell ⟨y1.heap.size, 4, none⟩ (.int .i64 0)).setCell ⟨y1.heap.size, 5, none⟩ (.int .i64 0)).setCell ⟨y1.heap.size, 6, none⟩ (.int .i64 0)).setCell ⟨y1.heap.size, 7, none⟩ (.int .i64 0)).setCell ⟨y1.heap.size, 8, none⟩ (.int .i64 0)).setCell ⟨y1.heap.size, 9, none⟩ (.int .i64 0)).setCell ⟨y1.heap.size, 10, none⟩ (.int .i64 0)).setCell ⟨y1.heap.size, 11, none⟩ (.int .i64 0)).setCell ⟨y1.heap.size, 12, none⟩ (.int .i64 0)).setCell ⟨y1.heap.size, 13, none⟩ (.slice none 0 0)) := ((((((((((((((hCy2.setNew (p := ⟨y1.heap.size, 0, none⟩) hbge (.int .i64 op)).setNew (p := ⟨y1.heap.size, 1, none⟩) hbge (.int .i64 by_)).setNew (p := ⟨y1.heap.size, 2, none⟩) hbge (.int .i64 0)).setNew (p := ⟨y1.heap.size, 3, none⟩) hbge (.int .i64 0)).setNew (p := ⟨y1.heap.size, 4, none⟩) hbge (.int .i64 0)).setNew (p := ⟨y1.heap.size, 5, none⟩) hbge (.int .i64 0)).setNew (p := ⟨y1.heap.size, 6, none⟩) hbge (.int .i64 0)).setNew (p := ⟨y1.heap.size, 7, none⟩) hbge (.int .i64 0)).setNew (p := ⟨y1.heap.size, 8, none⟩) hbge (.int .i64 0)).setNew (p := ⟨y1.heap.size, 9, none⟩) hbge (.int .i64 0)).setNew (p := ⟨y1.heap.size, 10, none⟩) hbge (.int .i64 0)).setNew (p := ⟨y1.heap.size, 11, none⟩) hbge (.int .i64 0)).setNew (p := ⟨y1.heap.size, 12, none⟩) hbge (.int .i64 0)).setNew (p := ⟨y1.heap.size, 13, none⟩) hbge (.slice none 0 0))
        have hcbF : CB ((((((((((((((y2.setCell ⟨y1.heap.size, 0, none⟩ (.int .i64 op)).setCell ⟨y1.heap.size, 1, none⟩ (.int .i64 by_)).setCell ⟨y1.heap.size, 2, none⟩ (.int .i64 0)).setCell ⟨y1.heap.size, 3, none⟩ (.int .i64 0)).setCell ⟨y1.heap.size, 4, none⟩ (.int .i64 0)).setCell ⟨y1.heap.size, 5, none⟩ (.int .i64 0)).setCell ⟨y1.heap.size, 6, none⟩ (.int .i64 0)).setCell ⟨y1.heap.size, 7, none⟩ (.int .i64 0)).setCell ⟨y1.heap.size, 8, none⟩ (.int .i64 0)).setCell ⟨y1.heap.size, 9, none⟩ (.int .i64 0)).setCell ⟨y1.heap.size, 10, none⟩ (.int .i64 0)).setCell ⟨y1.heap.size, 11, none⟩ (.int .i64 0)).setCell ⟨y1.heap.size, 12, none⟩ (.int .i64 0)).setCell ⟨y1.heap.size, 13, none⟩ (.slice none 0 0)) (y1.heap.size) [op, by_, 0, 0, 0, 0, 0, 0, 0, 0, 0, 0, 0] (.slice none 0 0) := (((((((((((((hcb0.put (o := 0) (by decide) (op)).put (o := 1) (by decide) (by_)).put (o := 2) (by decide) (0)).put (o := 3) (by decide) (0)).put (o := 4) (by decide) (0)).put (o := 5) (by decide) (0)).put (o := 6) (by decide) (0)).put (o := 7) (by decide) (0)).put (o := 8) (by decide) (0)).put (o := 9) (by decide) (0)).put (o := 10) (by decide) (0)).put (o := 11) (by decide) (0)).put (o := 12) (by decide) (0)).putV (.slice none 0 0)
        have hrF : Rdr ((((((((((((((y2.setCell ⟨y1.heap.size, 0, none⟩ (.int .i64 op)).setCell ⟨y1.heap.size, 1, none⟩ (.int .i64 by_)).setCell ⟨y1.heap.size, 2, none⟩ (.int .i64 0)).setCell ⟨y1.heap.size, 3, none⟩ (.int .i64 0)).setCell ⟨y1.heap.size, 4, none⟩ (.int .i64 0)).setCell ⟨y1.heap.size, 5, none⟩ (.int .i64 0)).setCell ⟨y1.heap.size, 6, none⟩ (.int .i64 0)).setCell ⟨y1.heap.size, 7, none⟩ (.int .i64 0)).setCell ⟨y1.heap.size, 8, none⟩ (.int .i64 0)).setCell ⟨y1.heap.size, 9, none⟩ (.int .i64 0)).setCell ⟨y1.heap.size, 10, none⟩ (.int .i64 0)).setCell ⟨y1.heap.size, 11, none⟩ (.int .i64 0)).setCell ⟨y1.heap.size, 12, none⟩ (.int .i64 0)).setCell ⟨y1.heap.size, 13, none⟩ (.slice none 0 0)) g A6 c6 s2.B s2.err := hr2.belowW (Below.setB (Below.setB (Below.setB (Below.setB (Below.setB (Below.setB (Below.setB (Below.setB (Below.setB (Below.setB (Below.setB (Below.setB (Below.setB (Below.setB (Below.refl (y1.heap.size) y2) (q := ⟨y1.heap.size, 0, none⟩) (Nat.le_refl _) (.int .i64 op)) (q := ⟨y1.heap.size, 1, none⟩) (Nat.le_refl _) (.int .i64 by_)) (q := ⟨y1.heap.size, 2, none⟩) (Nat.le_refl _) (.int .i64 0)) (q := ⟨y1.heap.size, 3, none⟩) (Nat.le_refl _) (.int .i64 0)) (q := ⟨y1.heap.size, 4, none⟩) (Nat.le_refl _) (.int .i64 0)) (q := ⟨y1.heap.size, 5, none⟩) (Nat.le_refl _) (.int .i64 0)) (q := ⟨y1.heap.size, 6, none⟩) (Nat.le_refl _) (.int .i64 0)) (q := ⟨y1.heap.size, 7, none⟩) (Nat.le_refl _) (.int .i64 0)) (q := ⟨y1.heap.size, 8, none⟩) (Nat.le_refl _) (.int .i64 0)) (q := ⟨y1.heap.size, 9, none⟩) (Nat.le_refl _) (.int .i64 0)) (q := ⟨y1.heap.size, 10, none⟩) (Nat.le_refl _) (.int .i64 0)) (q := ⟨y1.heap.size, 11, none⟩) (Nat.le_refl _) (.int .i64 0)) (q := ⟨y1.heap.size, 12, none⟩) (Nat.le_refl _) (.int .i64 0)) (q := ⟨y1.heap.size, 13, none⟩) (Nat.le_refl _) (.slice none 0 0)) hgb
        have hbF : Y.heap.size ≤ y1.heap.size := hbge
        skip
        go_simp
        refine hK.out _ _ (by (try dsimp only); exact hKeep) (fun hHeld => ?_)
        clear hK K hKeep
        try simp only [Act.put, List.setIfInBounds_toArray, List.set_cons_zero, List.set_cons_succ]
        refine wpAnyH_done (by kernel_rfl) ?_ _
        go_wp2_with fail
        go_meet
        case rel => exact ⟨_, _, _, rfl, by have := hbF; omega, hHeld, hcbF, hrF⟩
    · have hHd := hHeld
      obtain ⟨p0, pl⟩ := HF2.out _ (hHd)
      have hKeep := hHeld.trans (Chg.of_below (since_alloc (Below.refl _ _) (.cells #[.int .i64 0, .int .i64 0, .int .i64 0, .int .i64 0, .int .i64 0, .int .i64 0, .int .i64 0, .int .i64 0, .int .i64 0, .int .i64 0, .int .i64 0, .int .i64 0, .int .i64 0, .slice none 0 0] 26))) (.inl rfl)
      have hzb : (Y.drew.alloc (.cells #[.int .i64 0, .int .i64 0, .int .i64 0, .int .i64 0, .int .i64 0, .int .i64 0, .int .i64 0, .int .i64 0, .int .i64 0, .int .i64 0, .int .i64 0, .int .i64 0, .int .i64 0, .slice none 0 0] 26)).heap[Y.heap.size]? = some (.cells #[.int .i64 0, .int .i64 0, .int .i64 0, .int .i64 0, .int .i64 0, .int .i64 0, .int .i64 0, .int .i64 0, .int .i64 0, .int .i64 0, .int .i64 0, .int .i64 0, .int .i64 0, .slice none 0 0] 26 (0, 0)) := heap_alloc_new Y.drew (.cells #[.int .i64 0, .int .i64 0, .int .i64 0, .int .i64 0, .int .i64 0, .int .i64 0, .int .i64 0, .int .i64 0, .int .i64 0, .int .i64 0, .int .i64 0, .int .i64 0, .int .i64 0, .slice none 0 0] 26)
      have hbge : Y.heap.size ≤ Y.heap.size := Nat.le_refl _
      skip
      go_simp
      refine hK.out _ _ (by (try dsimp only); exact hKeep) (fun hHeld => ?_)
      clear hK K hKeep
      try simp only [Act.put, List.setIfInBounds_toArray, List.set_cons_zero, List.set_cons_succ]
      refine wpAnyH_ready (rs := [1]) (by kernel_rfl) (by simp) ?_
      refine AllReadyH.cons (o := { dst := some 13, op := _, type := _, pos := _, after := _, guard := _ }) rfl (fun K hK => ?_) AllReadyH.nil
      go_simp
      refine (HN1.out _ _ _ (HRV.out _ (by first | exact .inl rfl | exact .inr rfl))).mono ?_
      rintro e y1 ⟨rfl, hc1, A5, c5, hr1⟩
      have hKeep : Chg g none Y y1 := hHeld.trans hc1 (.inl rfl)
      have hCy1 := hKeep
      have hzb1 := (HRV.out _ (by first | exact .inl rfl | exact .inr rfl)).keepR hc1 hzb (fun cs t f e => by injection e with _ e2 _; subst e2; decide)
      clear hc1
      go_wp2_with fail
      refine hK.out _ _ (by (try dsimp only); exact hKeep) (fun hHeld => ?_)
      clear hK K hKeep
      try simp only [Act.put, List.setIfInBounds_toArray, List.set_cons_zero, List.set_cons_succ]
      refine wpAnyH_ready (rs := [3]) (by kernel_rfl) (by simp) ?_
      refine AllReadyH.cons (o := { dst := some 15, op := _, type := _, pos := _, after := _, guard := _ }) rfl (fun K hK => ?_) AllReadyH.nil
      go_simp
      refine (HN2.out _ _ _ hr1).mono ?_
      rintro e y2 ⟨rfl, hc2, A6, c6, hr2⟩
      have hKeep : Chg g none Y y2 := hHeld.trans hc2 (.inl rfl)
      have hCy2 := hKeep
      have hzb2 := hr1.keepR hc2 hzb1 (fun cs t f e => by injection e with _ e2 _; subst e2; decide)
      clear hc2
      go_wp2_with fail
      refine hK.out _ _ (by (try dsimp only); exact hKeep) (fun hHeld => ?_)
      clear hK K hKeep
      try simp only [Act.put, List.setIfInBounds_toArray, List.set_cons_zero, List.set_cons_succ]
      refine wpAnyH_take (i := 4) (oi := { dst := some 16, op := _, type := _, pos := _, after := _, guard := _ }) (v := ?_) rfl (by kernel_rfl) (by kernel_rfl) (by kernel_rfl) (fun _ _ _ h => h) (Or.inl ⟨by rfl, ?_⟩) hHeld ?_
      rotate_left
      · (intro w hSw; obtain ⟨p0, pl⟩ := HF2.out _ (hSw); go_simp <;> with_reducible rfl)
      try simp only [Act.put, List.setIfInBounds_toArray, List.set_cons_zero, List.set_cons_succ]
      refine wpAnyH_ready (rs := [6]) (by kernel_rfl) (by simp) ?_
      refine AllReadyH.cons (o := { dst := none, op := _, type := _, pos := _, after := _, guard := _ }) rfl (fun K hK => ?_) AllReadyH.nil
      have hHd := hHeld
      obtain ⟨p0, pl⟩ := HF2.out _ (hHd)
      have hcb0 : CB y2 (Y.heap.size) [0, 0, 0, 0, 0, 0, 0, 0, 0, 0, 0, 0, 0] (.slice none 0 0) := ⟨hzb2, rfl⟩
      obtain ⟨k0, fk0⟩ := hcb0.got (o := 0) (by decide)
      obtain ⟨k1, fk1⟩ := hcb0.got (o := 1) (by decide)
      obtain ⟨k2, fk2⟩ := hcb0.got (o := 2) (by decide)
      obtain ⟨k3, fk3⟩ := hcb0.got (o := 3) (by decide)
      obtain ⟨k4, fk4⟩ := hcb0.got (o := 4) (by decide)
      obtain ⟨k5, fk5⟩ := hcb0.got (o := 5) (by decide)
      obtain ⟨k6, fk6⟩ := hcb0.got (o := 6) (by decide)
      obtain ⟨k7, fk7⟩ := hcb0.got (o := 7) (by decide)
      obtain ⟨k8, fk8⟩ := hcb0.got (o := 8) (by decide)
      obtain ⟨k9, fk9⟩ := hcb0.got (o := 9) (by decide)
      obtain ⟨k10, fk10⟩ := hcb0.got (o := 10) (by decide)
      obtain ⟨k11, fk11⟩ := hcb0.got (o := 11) (by decide)
      obtain ⟨k12, fk12⟩ := hcb0.got (o := 12) (by decide)
      obtain ⟨k13, fk13⟩ := hcb0.gotV
      have hblt := hcb0.lt
      simp only [List.getD_cons_zero, List.getD_cons_succ] at k0 k1 k2 k3 k4 k5 k6 k7 k8 k9 k10 k11 k12
      have hgb : g < Y.heap.size := HGB.out _ hbge
      have hKeep : Chg g none Y ((((((((((((((y2.setCell ⟨Y.heap.size, 0, none⟩ (.int .i64 op)).setCell ⟨Y.heap.size, 1, none⟩ (.int .i64 by_)).setCell ⟨Y.heap.size, 2, none⟩ (.int .i64 0)).setCell ⟨Y.heap.size, 3, none⟩ (.int .i64 0)).setCell ⟨Y.heap.size, 4, none⟩ (.int .i64 0)).setCell ⟨Y.heap.size, 5, none⟩ (.int .i64 0)).setCell ⟨Y.heap.size, 6, none⟩ (.int .i64 0)).setCell ⟨Y.heap.size, 7, none⟩ (.int .i64 0)).setCell ⟨Y.heap.size, 8, none⟩ (.int .i64 0)).setCell ⟨Y.heap.size, 9, none⟩ (.int .i64 0)).setCell ⟨Y.heap.size, 10, none⟩ (.int .i64 0)).setCell ⟨Y.heap.size, 11, none⟩ (.int .i64 0)).setCell ⟨Y.heap.size, 12, none⟩ (.int .i64 0)).setCell ⟨Y.heap.size, 13, none⟩ (.slice none 0 0)) := ((((((((((((((hCy2.setNew (p := ⟨Y.heap.size, 0, none⟩) hbge (.int .i64 op)).setNew (p := ⟨Y.heap.size, 1, none⟩) hbge (.int .i64 by_)).setNew (p := ⟨Y.heap.size, 2, none⟩) hbge (.int .i64 0)).setNew (p := ⟨Y.heap.size, 3, none⟩) hbge (.int .i64 0)).setNew (p := ⟨Y.heap.size, 4, none⟩) hbge (.int .i64 0)).setNew (p := ⟨Y.heap.size, 5, none⟩) hbge (.int .i64 0)).setNew (p := ⟨Y.heap.size, 6, none⟩) hbge (.int .i64 0)).setNew (p := ⟨Y.heap.size, 7, none⟩) hbge (.int .i64 0)).setNew (p := ⟨Y.heap.size, 8, none⟩) hbge (.int .i64 0)).setNew (p := ⟨Y.heap.size, 9, none⟩) hbge (.int .i64 0)).setNew (p := ⟨Y.heap.size, 10, none⟩) hbge (.int .i64 0)).setNew (p := ⟨Y.heap.size, 11, none⟩) hbge (.int .i64 0)).setNew (p := ⟨Y.heap.size, 12, none⟩) hbge (.int .i64 0)).setNew (p := ⟨Y.heap.size, 13, none⟩) hbge (.slice none 0 0))
      have hcbF : CB ((((((((((((((y2.setCell ⟨Y.heap.size, 0, none⟩ (.int .i64 op)).setCell ⟨Y.heap.size, 1, none⟩ (.int .i64 by_)).setCell ⟨Y.heap.size, 2, none⟩ (.int .i64 0)).setCell ⟨Y.heap.size, 3, none⟩ (.int .i64 0)).setCell ⟨Y.heap.size, 4, none⟩ (.int .i64 0)).setCell ⟨Y.heap.size, 5, none⟩ (.int .i64 0)).setCell ⟨Y.heap.size, 6, none⟩ (.int .i64 0)).setCell ⟨Y.heap.size, 7, none⟩ (.int .i64 0)).setCell ⟨Y.heap.size, 8, none⟩ (.int .i64 0)).setCell ⟨Y.heap.size, 9, none⟩ (.int .i64 0)).setCell ⟨Y.heap.size, 10, none⟩ (.int .i64 0)).setCell ⟨Y.heap.size, 11, none⟩ (.int .i64 0)).setCell ⟨Y.heap.size, 12, none⟩ (.int .i64 0)).setCell ⟨Y.heap.size, 13, none⟩ (.slice none 0 0)) (Y.heap.size) [op, by_, 0, 0, 0, 0, 0, 0, 0, 0, 0, 0, 0] (.slice none 0 0) := (((((((((((((hcb0.put (o := 0) (by decide) (op)).put (o := 1) (by decide) (by_)).put (o := 2) (by decide) (0)).put (o := 3) (by decide) (0)).put (o := 4) (by decide) (0)).put (o := 5) (by decide) (0)).put (o := 6) (by decide) (0)).put (o := 7) (by decide) (0)).put (o := 8) (by decide) (0)).put (o := 9) (by decide) (0)).put (o := 10) (by decide) (0)).put (o := 11) (by decide) (0)).put (o := 12) (by decide) (0)).putV (.slice none 0 0)
      have hrF : Rdr ((((((((((((((y2.setCell ⟨Y.heap.size, 0, none⟩ (.int .i64 op)).setCell ⟨Y.heap.size, 1, none⟩ (.int .i64 by_)).setCell ⟨Y.heap.size, 2, none⟩ (.int .i64 0)).setCell ⟨Y.heap.size, 3, none⟩ (.int .i64 0)).setCell ⟨Y.heap.size, 4, none⟩ (.int .i64 0)).setCell ⟨Y.heap.size, 5, none⟩ (.int .i64 0)).setCell ⟨Y.heap.size, 6, none⟩ (.int .i64 0)).setCell ⟨Y.heap.size, 7, none⟩ (.int .i64 0)).setCell ⟨Y.heap.size, 8, none⟩ (.int .i64 0)).setCell ⟨Y.heap.size, 9, none⟩ (.int .i64 0)).setCell ⟨Y.heap.size, 10, none⟩ (.int .i64 0)).setCell ⟨Y.heap.size, 11, none⟩ (.int .i64 0)).setCell ⟨Y.heap.size, 12, none⟩ (.int .i64 0)).setCell ⟨Y.heap.size, 13, none⟩ (.slice none 0 0)) g A6 c6 s2.B s2.err := hr2.belowW (Below.setB (Below.setB (Below.setB (Below.setB (Below.setB (Below.setB (Below.setB (Below.setB (Below.setB (Below.setB (Below.setB (Below.setB (Below.setB (Below.setB (Below.refl (Y.heap.size) y2) (q := ⟨Y.heap.size, 0, none⟩) (Nat.le_refl _) (.int .i64 op)) (q := ⟨Y.heap.size, 1, none⟩) (Nat.le_refl _) (.int .i64 by_)) (q := ⟨Y.heap.size, 2, none⟩) (Nat.le_refl _) (.int .i64 0)) (q := ⟨Y.heap.size, 3, none⟩) (Nat.le_refl _) (.int .i64 0)) (q := ⟨Y.heap.size, 4, none⟩) (Nat.le_refl _) (.int .i64 0)) (q := ⟨Y.heap.size, 5, none⟩) (Nat.le_refl _) (.int .i64 0)) (q := ⟨Y.heap.size, 6, none⟩) (Nat.le_refl _) (.int .i64 0)) (q := ⟨Y.heap.size, 7, none⟩) (Nat.le_refl _) (.int .i64 0)) (q := ⟨Y.heap.size, 8, none⟩) (Nat.le_refl _) (.int .i64 0)) (q := ⟨Y.heap.size, 9, none⟩) (Nat.le_refl _) (.int .i64 0)) (q := ⟨Y.heap.size, 10, none⟩) (Nat.le_refl _) (.int .i64 0)) (q := ⟨Y.heap.size, 11, none⟩) (Nat.le_refl _) (.int .i64 0)) (q := ⟨Y.heap.size, 12, none⟩) (Nat.le_refl _) (.int .i64 0)) (q := ⟨Y.heap.size, 13, none⟩) (Nat.le_refl _) (.slice none 0 0)) hgb
      have hbF : Y.heap.size ≤ Y.heap.size := hbge
      skip
      go_simp
      refine hK.out _ _ (by (try dsimp only); exact hKeep) (fun hHeld => ?_)
      clear hK K hKeep
      try simp only [Act.put, List.setIfInBounds_toArray, List.set_cons_zero, List.set_cons_succ]
      refine wpAnyH_done (by kernel_rfl) ?_ _
      go_wp2_with fail
      go_meet
      case rel => exact ⟨_, _, _, rfl, by have := hbF; omega, hHeld, hcbF, hrF⟩
  case rest =>
    clear HRV HF2 HN1 HN2 HGB HS1 hR
    obtain ⟨b, AR2, cR2, rfl, hrbb, hCc, hcb, hr⟩ := hcut
    have hqg : q0 < g := hg
    have hxc : wc.heap[q0]? = some (.cells #[.int .i64 0, .int .i64 0, .int .i64 0, .int .i64 0, .int .i64 0, .int .i64 0, .int .i64 0, .int .i64 0, .int .i64 0, .int .i64 0, .int .i64 0, .int .i64 0, .int .i64 0, .slice none 0 0] 26 (0, 0)) := by
      rw [hCc.block q0 (Array.getElem?_eq_some_iff.1 hx1).1 (by omega) (fun e => by cases e)]; exact hx1
    have hrc : wc.heap[rb]? = some (.cells #[.pointer (some ⟨g, 0, none⟩)] 82 (0, 0)) := by
      rw [hCc.block rb hrbs (by omega) (fun e => by cases e)]; exact hrb
    have hBc : Below q0 w wc := hB1.trans (hCc.below (by omega) (by omega) (fun b e => by cases e))
    clear hB1 hx1 hrb hrbs hCc
    obtain ⟨c0, f0⟩ := hcb.got (o := 0) (by decide)
    simp only [List.getD_cons_zero] at c0
    have hbl := hcb.lt
    have HF := Lib.hid (fun V => cfld_any op V)
    have HLOW := Lib.hid (fldL_low op)
    go_wp2_with fail
    refine (HF.out _).mono ?_
    rintro e v4 ⟨rfl, hb4⟩
    obtain ⟨L, hL⟩ : ∃ L, fldL op = L := ⟨_, rfl⟩
    rw [hL] at HLOW HDC ⊢
    have hcb4 := hcb.below hb4
    have hr4 := hr.below hb4
    have hx4 := (hb4.block q0 (Array.getElem?_eq_some_iff.1 hxc).1).trans hxc
    have hr4b := (hb4.block rb (Array.getElem?_eq_some_iff.1 hrc).1).trans hrc
    have hB4 := hBc.trans (hb4.mono (by omega))
    have hsz4 : b < v4.heap.size := hcb4.lt
    clear hb4 HF hL c0 f0 hbl hcb hr hxc hrc hBc
    obtain ⟨W1, hW1⟩ : ∃ W1, v4.heap.size = W1 := ⟨_, rfl⟩
    have HK4 : Hid (∀ V, Chg g (some b) v4 V → V.heap[rb]? = some (.cells #[.pointer (some ⟨g, 0, none⟩)] 82 (0, 0)) ∧ V.heap[q0]? = some (.cells #[.int .i64 0, .int .i64 0, .int .i64 0, .int .i64 0, .int .i64 0, .int .i64 0, .int .i64 0, .int .i64 0, .int .i64 0, .int .i64 0, .int .i64 0, .int .i64 0, .int .i64 0, .slice none 0 0] 26 (0, 0)) ∧ Below q0 w V) := Lib.hid fun V hC =>
      ⟨hC.kp hr4b (by omega) (by omega), hC.kp hx4 (by omega) (by omega), hB4.trans (hC.below (by omega) (by omega) (fun b2 e => by injection e with e; omega))⟩
    have HW1g : Hid (b < W1) := Lib.hid (by omega)
    have HIT := Lib.hid hW1
    have hI5 : (v4.iter (bs8 L) 0).heap[W1]? = some (.stringIter (bs8 L) 0) := by rw [← hW1]; exact World.iter_heap v4 _ _
    have hA5 : Below v4.heap.size v4 (v4.iter (bs8 L) 0) := since_alloc (Below.refl _ v4) _
    have hcb5 := hcb4.below hA5
    have hr5 := hr4.below hA5
    have hC5 : Chg g (some b) v4 (v4.iter (bs8 L) 0) := Chg.of_below hA5
    have HWL : Hid (v4.heap.size ≤ W1) := Lib.hid (by omega)
    have hgb : g < b := by omega
    clear hA5 hcb4 hr4 hx4 hr4b hB4 hsz4 hW1
    go_wp2_with fail
    rw [HIT.out]
    generalize v4.iter (bs8 L) 0 = W5 at *
    go_loopw [7] (fun _ wr => ∃ (k : Nat) (d : Dc) (N : List Int) (AN : Option Addr) (cN : Nat) (AR : Option Addr) (cR : Nat), k ≤ L.length ∧ wr.heap[W1]? = some (.stringIter (bs8 L) k) ∧ rdF (L.drop k) d = D ∧ (d.s.err = 0 → N = d.nums) ∧ CB wr b d.z (.slice AN N.length cN) ∧ Rdr wr g AR cR d.s.B d.s.err ∧ wr.ownsRow W1 2 1 (.slice AN N.length cN) N.length (ints .i64 N) ∧ N.length ≤ 1000 ∧ Chg g (some b) v4 wr) (fun _ wr => L.length - wr.iterPos W1)
    case atStart => exact ⟨0, ⟨[op, by_, 0, 0, 0, 0, 0, 0, 0, 0, 0, 0, 0], [], s2⟩, [], none, 0, AR2, cR2, by omega, hI5, HDC.out.symm, fun _ => rfl, hcb5, hr5, own_nil _ _ _, by simp, hC5⟩
    case round =>
      clear hI5 hcb5 hr5 hC5 AR2 cR2
      obtain ⟨k, d, N, AN, cN, AR, cR, hk, hI, hD, hNE, hcb, hr, hown, hN1, hC⟩ := hrel
      have HPOS := Lib.hid (iter_pos hI)
      by_cases hkl : k < L.length
      · have hnx := next_at L HLOW.out wr W1 k hI hkl
        obtain ⟨f, hf⟩ : ∃ f, L[k] = f := ⟨_, rfl⟩
        rw [rdF_step hkl, hf] at hD
        rw [hf] at hnx
        have hI2 := Lib.iterAt_heap wr W1 (bs8 L) k (k + 1) hI
        have hcb2 : CB (wr.iterAt W1 (bs8 L) (k + 1)) b d.z (.slice AN N.length cN) := hcb.iterAt (by have := HW1g.out; omega)
        have hr2 := hr.iterAt hI (k + 1)
        have hown2 := own_iterAt34 hown hI (k + 1)
        have hC2 := hC.iterAt (k := k + 1) HWL.out (bs8 L)
        obtain ⟨hrb2, hq2, hB2⟩ := HK4.out _ hC2
        have p0 : (wr.iterAt W1 (bs8 L) (k + 1)).cell? ⟨rb, 0, none⟩ = some (.pointer (some ⟨g, 0, none⟩)) := by rw [cell_of_row _ rb 0 _ _ (0, 0) hrb2]; rfl
        have hrbl := (Array.getElem?_eq_some_iff.1 hrb2).1
        have HSL := Lib.hid (fun V hV => slotsR_any b f V hV)
        have HD := Lib.hid hD
        have HNE := Lib.hid hNE
        clear hI hcb hr hown hC hf hD hNE hrb2 hq2 hB2
        by_cases h78 : f = 78
        · have hne : ((f : Int) == 78) = true := by rw [beq_iff_eq]; omega
          obtain ⟨n, t1, hn⟩ : ∃ n t1, rdI 0 32 d.s = (n, t1) := ⟨_, _, rfl⟩
          obtain ⟨ns, t2, hns⟩ : ∃ ns t2, rdNs n.toNat t1 = (ns, t2) := ⟨_, _, rfl⟩
          have hF1 : rdF1 f d = ⟨d.z, ns, t2⟩ := by
            unfold rdF1
            rw [if_pos h78, hn]
            simp only
            rw [hns]
          have HD2 : Hid (∀ z' s', rdS (slotL f) d.z t2 = (z', s') → rdF (L.drop (k + 1)) ⟨z', ns, s'⟩ = D) := Lib.hid fun z' s' h => by
            have h0 : slotL f = [] := by rw [h78]; rfl
            rw [h0] at h
            injection h with h1 h2
            rw [← h1, ← h2, ← hF1]
            exact HD.out
          have HLI := Lib.hid (rlist64 g AR cR d.s.B d.s.err 32 (wr.iterAt W1 (bs8 L) (k + 1)) hr2 (by decide) (by decide) (n := n) (s1 := t1) hn hns)
          obtain ⟨cv, fv⟩ := hcb2.gotV
          have HCB2 := Lib.hid hcb2
          have HR2 := Lib.hid hr2
          have HI2 := Lib.hid hI2
          have HC2 := Lib.hid hC2
          have HSZ2 : Hid (W1 ≤ (wr.iterAt W1 (bs8 L) (k + 1)).heap.size) := Lib.hid (Nat.le_of_lt (Array.getElem?_eq_some_iff.1 hI2).1)
          clear h78 hcb2 hr2 hI2 hC2 hown2 hF1 hn hns HD cv fv
          go_upto_region 7 with fail
          clear hne hnx
          generalize wr.iterAt W1 (bs8 L) (k + 1) = wi at *
          go_wp2_with (first | (refine HLI.out.mono ?_; rintro e wj ⟨N2, AN2, cN2, rfl, hNN, hownN, hCj, hN2, hN6, AR3, cR3, hrj⟩; have hcbj := CB.mk (HR2.out.keepR hCj HCB2.out.blk (fun cs t f e => by injection e with _ e2 _; subst e2; decide)) HCB2.out.len; obtain ⟨cv, fv⟩ := hcbj.gotV; have hbj := hcbj.lt; have HCBJ := Lib.hid hcbj; have HCJ := Lib.hid hCj; have HRJ := Lib.hid hrj; have HOWN := Lib.hid hownN; have HNN := Lib.hid hNN; clear hcbj hCj hrj hownN hNN) | fail)
          have hcbT := HCBJ.out.putV (.slice AN2 N2.length cN2)
          have hrT := HRJ.out.belowW (Below.setB (Below.refl b wj) (q := ⟨b, 13, none⟩) (Nat.le_refl _) (.slice AN2 N2.length cN2)) hgb
          have hIT : (wj.setCell ⟨b, 13, none⟩ (.slice AN2 N2.length cN2)).heap[W1]? = some (.stringIter (bs8 L) (k + 1)) := by
            rw [Below.heap_setCell _ _ _ _ (by show W1 ≠ b; have := HW1g.out; omega)]
            exact HR2.out.keepR HCJ.out HI2.out (fun cs t f e => by cases e)
          have hownT := own_chg (own_base8 HOWN.out HSZ2.out) (Chg.set (g := b) (row := none) 13 (.slice AN2 N2.length cN2)) (fun e => by have := (HOWN.out.lt _ e).1; have := HSZ2.out; have := HW1g.out; omega) (fun b _ e => by cases e)
          have hCT : Chg g (some b) v4 (wj.setCell ⟨b, 13, none⟩ (.slice AN2 N2.length cN2)) := HC2.out.trans (HCJ.out.toR.trans (Chg.toB (Chg.set (row := none) 13 _)) (.inl rfl)) (.inl rfl)
          have hN1T := hN2
          generalize wj.setCell ⟨b, 13, none⟩ (.slice AN2 N2.length cN2) = ws at *
          clear HCBJ HCJ HRJ HOWN HSZ2 HC2 HI2 HR2 HCB2 cv fv hbj HLI hN2 hN6 p0 hrbl
          refine (HSL.out _ hcbT.lt).mono ?_
          rintro e w3 ⟨⟨A3, cap3, rfl, hR3⟩, hb3⟩
          have hcb3 := hcbT.below hb3
          have hr3 := hrT.below hb3
          have hI3 := iter_keep hIT hb3
          have hown3 := own_below hownT hb3
          have hC3 : Chg g (some b) v4 w3 := hCT.trans (Chg.of_below hb3) (.inl rfl)
          have hW13 : W1 ≤ w3.heap.size := Nat.le_of_lt (Array.getElem?_eq_some_iff.1 hI3).1
          have HK3 : Hid (∀ V, Chg g (some b) w3 V → V.heap[W1]? = some (.stringIter (bs8 L) (k + 1)) ∧ SR V A3 b f ∧ (V.heap[rb]? = some (.cells #[.pointer (some ⟨g, 0, none⟩)] 82 (0, 0)) ∧ V.heap[q0]? = some (.cells #[.int .i64 0, .int .i64 0, .int .i64 0, .int .i64 0, .int .i64 0, .int .i64 0, .int .i64 0, .int .i64 0, .int .i64 0, .int .i64 0, .int .i64 0, .int .i64 0, .int .i64 0, .slice none 0 0] 26 (0, 0)) ∧ Below q0 w V) ∧ V.ownsRow W1 2 1 (.slice AN2 N2.length cN2) N2.length (ints .i64 N2) ∧ Chg g (some b) v4 V) := Lib.hid fun V hC => by
            have h4 := hC3.trans hC (.inl rfl)
            refine ⟨hC.kp hI3 (by have := HW1g.out; omega) (by have := HW1g.out; omega), ?_, HK4.out V h4, own_chg hown3 hC (fun e => by have := (hown3.lt _ e).1; have := HW1g.out; omega) (fun b2 e e2 => by injection e2 with e2; have := (hown3.lt _ e).1; have := HW1g.out; omega), h4⟩
            rcases hR3 with h | ⟨b2, e, h⟩
            · exact .inl h
            · refine .inr ⟨b2, e, hC.kp h (fun e => ?_) (fun e => ?_)⟩
              · subst e
                rw [hr3.blk] at h
                injection h with h
                injection h with _ h2 _
                exact absurd h2 (by decide)
              · subst e
                rw [hcb3.blk] at h
                injection h with h
                injection h with _ h2 _
                exact absurd h2 (by decide)
          have HCB3 := Lib.hid hcb3
          have HR3 := Lib.hid hr3
          clear hcbT hrT hIT hownT hCT hb3 hcb3 hr3 hI3 hown3 hC3 hW13 hR3 HSL
          go_wp2_with fail
          go_loopw [34] (fun iv wr => ∃ (j : Nat) (z5 : List Int) (s5 : Rs) (AR5 : Option Addr) (cR5 : Nat), j ≤ (slotL f).length ∧ iv = .int .i64 (j : Int) ∧ rdS ((slotL f).drop j) z5 s5 = rdS (slotL f) d.z t2 ∧ CB wr b z5 (.slice AN2 N2.length cN2) ∧ Rdr wr g AR5 cR5 s5.B s5.err ∧ Chg g (some b) w3 wr) (fun iv _ => (slotL f).length - (intOf iv).toNat)
          case atStart => exact ⟨0, d.z, t2, _, _, by omega, rfl, rfl, HCB3.out, HR3.out, Chg.refl _ _ _⟩
          case round =>
            obtain ⟨j, z5, s5, AR5, cR5, hj1, rfl, hST, hcb, hr, hC⟩ := hrel
            by_cases hj : j < (slotL f).length
            · have hjl : (j : Int) < ((slotL f).length : Int) := by omega
              have hj2 := slotL_two f
              have hj0 : (0 : Int) ≤ (j : Int) := by omega
              obtain ⟨hI, hSR, ⟨hrb3, hq3, hB3⟩, hown, hC4⟩ := HK3.out wr hC
              obtain ⟨b2, o2, rfl, c0, c1, cc⟩ := slots_at hSR.sl hj
              obtain ⟨s, hs⟩ : ∃ s, (slotL f)[j] = s := ⟨_, rfl⟩
              have hs13 : s.1 < 13 := by rw [← hs]; exact (slotL_low f _ (List.getElem_mem hj)).2
              rw [hs] at c0 c1 cc
              rw [rdS_step hj, hs] at hST
              have HST := Lib.hid hST
              obtain ⟨SZ, hSZ⟩ : ∃ SZ, wr.heap.size = SZ := ⟨_, rfl⟩
              have hbx := heap_alloc_new wr (.cells #[.pointer (sp b s), .int .i64 (sm s), .pointer (sq b s)] 71)
              have hal := since_alloc (Below.refl _ wr) (.cells #[.pointer (sp b s), .int .i64 (sm s), .pointer (sq b s)] 71)
              have hcW := hcb.below hal
              have hrW := hr.below hal
              have hrbW := (hal.block rb (Array.getElem?_eq_some_iff.1 hrb3).1).trans hrb3
              obtain ⟨WR, hWR⟩ : ∃ WR, wr.alloc (.cells #[.pointer (sp b s), .int .i64 (sm s), .pointer (sq b s)] 71) = WR := ⟨_, rfl⟩
              have hCal : Chg g (some b) wr WR := by rw [← hWR]; exact Chg.of_below hal
              rw [hWR] at hbx hcW hrW hrbW
              rw [hSZ] at hbx
              have hSZb : b < SZ := by rw [← hSZ]; exact hcb.lt
              have HC5 : Hid (∀ V, Chg g (some b) WR V → Chg g (some b) w3 V) := Lib.hid fun V h => hC.trans (hCal.trans h (.inl rfl)) (.inl rfl)
              have HF11 : Hid (∀ V, Chg g (some b) WR V → V.cell? ⟨rb, 0, none⟩ = some (.pointer (some ⟨g, 0, none⟩)) ∧ rb < V.heap.size ∧ V.cell? ⟨SZ, 0, none⟩ = some (.pointer (sp b s)) ∧ V.cell? ⟨SZ, 1, none⟩ = some (.int .i64 (sm s)) ∧ V.cell? ⟨SZ, 2, none⟩ = some (.pointer (sq b s)) ∧ SZ < V.heap.size) := Lib.hid fun V hC => by
                have h1 := hC.kp hrbW (by omega) (by omega)
                have h2 := hC.kp hbx (by omega) (by omega)
                refine ⟨?_, (Array.getElem?_eq_some_iff.1 h1).1, ?_, ?_, ?_, (Array.getElem?_eq_some_iff.1 h2).1⟩
                · rw [cell_of_row V rb _ _ _ (0, 0) h1]; rfl
                all_goals rw [cell_of_row V SZ _ _ _ (0, 0) h2]; rfl
              have HRW := Lib.hid hrW
              have HCW := Lib.hid hcW
              have HWR := Lib.hid hWR
              have HSZ := Lib.hid hSZ
              clear hs hST hbx hal hcW hrW hrbW hCal hcb hr hC hI hSR hrb3 hq3 hB3 hown hC4 hWR hSZ
              go_upto_region 11 with fail
              rw [HWR.out, HSZ.out]
              clear c0 c1 cc
              refine wp_region_held_drew (S := (fun V => Chg g (some b) WR V)) (by kernel_rfl) (by exact (Chg.of_below (Below.refl _ WR).drew)) (fun hHeld => ?_)
              refine wpAnyH_take (i := 0) (oi := { dst := some 38, op := _, type := _, pos := _, after := _, guard := _ }) (v := ?_) rfl (by kernel_rfl) (by kernel_rfl) (by kernel_rfl) (fun _ _ _ h => h) (Or.inl ⟨by rfl, ?_⟩) hHeld ?_
              rotate_left
              · (intro w hSw; obtain ⟨p0, pl, t0, t1, t2, tl⟩ := HF11.out _ (hSw); go_simp <;> with_reducible rfl)
              try simp only [Act.put, List.setIfInBounds_toArray, List.set_cons_zero, List.set_cons_succ]
              refine wpAnyH_take (i := 1) (oi := { dst := some 39, op := _, type := _, pos := _, after := _, guard := _ }) (v := ?_) rfl (by kernel_rfl) (by kernel_rfl) (by kernel_rfl) (fun _ _ _ h => h) (Or.inl ⟨by rfl, ?_⟩) hHeld ?_
              rotate_left
              · (intro w hSw; obtain ⟨p0, pl, t0, t1, t2, tl⟩ := HF11.out _ (hSw); go_simp <;> with_reducible rfl)
              try simp only [Act.put, List.setIfInBounds_toArray, List.set_cons_zero, List.set_cons_succ]
              refine wpAnyH_ready (rs := [2]) (by kernel_rfl) (by simp) ?_
              refine AllReadyH.cons (o := { dst := some 40, op := _, type := _, pos := _, after := _, guard := _ }) rfl (fun K hK => ?_) AllReadyH.nil
              go_simp
              refine (rlongW g AR5 cR5 s5.B s5.err _ (HRW.out.below (Below.refl _ WR).drew)).mono ?_
              rintro e y1 ⟨rfl, hc1, AR6, cR6, hr6⟩
              have hKeep : Chg g (some b) WR y1 := hHeld.trans hc1.toR (.inl rfl)
              have hcy := CB.mk ((HRW.out.below (Below.refl _ WR).drew).keepR hc1 (HCW.out.below (Below.refl _ WR).drew).blk (fun cs t f e => by injection e with _ e2 _; subst e2; decide)) HCW.out.len
              have hCy := hKeep
              clear hc1
              go_wp2_with fail
              refine hK.out _ _ (by (try dsimp only); exact hKeep) (fun hHeld => ?_)
              clear hK K hKeep
              try simp only [Act.put, List.setIfInBounds_toArray, List.set_cons_zero, List.set_cons_succ]
              refine wpAnyH_ready (rs := [3]) (by kernel_rfl) (by simp) ?_
              refine AllReadyH.cons (o := { dst := some 41, op := _, type := _, pos := _, after := _, guard := _ }) rfl (fun K hK => ?_) AllReadyH.nil
              go_simp
              refine (put_any b z5 _ s _ y1 hcy hs13).mono ?_
              rintro e y2 ⟨rfl, hcz, hgz⟩
              have hKeep : Chg g (some b) WR y2 := hCy.trans hgz.toB (.inl rfl)
              have hrz := hr6.belowW (hgz.below (Nat.le_of_lt hcy.lt) (Nat.le_refl b) (fun b e => by cases e)) hgb
              have hCz := hKeep
              clear hgz
              go_wp2_with fail
              refine hK.out _ _ (by (try dsimp only); exact hKeep) (fun hHeld => ?_)
              clear hK K hKeep
              try simp only [Act.put, List.setIfInBounds_toArray, List.set_cons_zero, List.set_cons_succ]
              refine wpAnyH_done (by kernel_rfl) ?_ _
              go_wp2_with fail
              go_roundw
              case rel => exact ⟨j + 1, z5.set s.1 (rdM s5).1, (rdM s5).2, AR6, cR6, by omega, by go_num, HST.out, hcz, hrz, HC5.out _ hCz⟩
              case measure => simp [intOf]; omega
            · obtain rfl : j = (slotL f).length := by omega
              rw [List.drop_length] at hST
              have hST2 : rdS (slotL f) d.z t2 = (z5, s5) := hST.symm
              have hDN := HD2.out z5 s5 hST2
              have hNN2 : s5.err = 0 → N2 = ns := fun h => HNN.out (by
                rcases Classical.em ((t2).err = 0) with h0 | h0
                · exact h0
                · have h1 := rdS_err (slotL f) d.z t2 h0
                  rw [hST2] at h1
                  exact absurd h h1)
              obtain ⟨hI, hSR, ⟨hrb3, hq3, hB3⟩, hown, hC4⟩ := HK3.out wr hC
              have hpos := iter_pos hI
              clear hST hST2 hSR hrb3 hq3 hB3 hC
              go_wp2_with fail
              go_roundw
              case rel => exact ⟨k + 1, ⟨z5, ns, s5⟩, N2, AN2, cN2, AR5, cR5, by omega, hI, hDN, hNN2, hcb, hr, hown, hN1T, hC4⟩
              case measure =>
                rw [hpos]
                have := HPOS.out
                omega
        · have hne : ((f : Int) == 78) = false := by rw [beq_eq_false_iff_ne]; omega
          have HD2 : Hid (∀ z' s', rdS (slotL f) d.z d.s = (z', s') → rdF (L.drop (k + 1)) ⟨z', d.nums, s'⟩ = D) := Lib.hid fun z' s' h => by
            have h1 := HD.out
            unfold rdF1 at h1
            rw [if_neg h78, h] at h1
            exact h1
          have HNN := HNE
          have hcbT := hcb2
          have hrT := hr2
          have hIT := hI2
          have hownT := hown2
          have hCT := hC2
          have hN1T := hN1
          clear hcb2 hr2 hI2 hown2 hC2 HD HNE h78 p0 hrbl
          go_upto_region 8 with fail
          clear hne hnx
          generalize wr.iterAt W1 (bs8 L) (k + 1) = wi at *
          go_wp2_with fail
          refine (HSL.out _ hcbT.lt).mono ?_
          rintro e w3 ⟨⟨A3, cap3, rfl, hR3⟩, hb3⟩
          have hcb3 := hcbT.below hb3
          have hr3 := hrT.below hb3
          have hI3 := iter_keep hIT hb3
          have hown3 := own_below hownT hb3
          have hC3 : Chg g (some b) v4 w3 := hCT.trans (Chg.of_below hb3) (.inl rfl)
          have hW13 : W1 ≤ w3.heap.size := Nat.le_of_lt (Array.getElem?_eq_some_iff.1 hI3).1
          have HK3 : Hid (∀ V, Chg g (some b) w3 V → V.heap[W1]? = some (.stringIter (bs8 L) (k + 1)) ∧ SR V A3 b f ∧ (V.heap[rb]? = some (.cells #[.pointer (some ⟨g, 0, none⟩)] 82 (0, 0)) ∧ V.heap[q0]? = some (.cells #[.int .i64 0, .int .i64 0, .int .i64 0, .int .i64 0, .int .i64 0, .int .i64 0, .int .i64 0, .int .i64 0, .int .i64 0, .int .i64 0, .int .i64 0, .int .i64 0, .int .i64 0, .slice none 0 0] 26 (0, 0)) ∧ Below q0 w V) ∧ V.ownsRow W1 2 1 (.slice AN N.length cN) N.length (ints .i64 N) ∧ Chg g (some b) v4 V) := Lib.hid fun V hC => by
            have h4 := hC3.trans hC (.inl rfl)
            refine ⟨hC.kp hI3 (by have := HW1g.out; omega) (by have := HW1g.out; omega), ?_, HK4.out V h4, own_chg hown3 hC (fun e => by have := (hown3.lt _ e).1; have := HW1g.out; omega) (fun b2 e e2 => by injection e2 with e2; have := (hown3.lt _ e).1; have := HW1g.out; omega), h4⟩
            rcases hR3 with h | ⟨b2, e, h⟩
            · exact .inl h
            · refine .inr ⟨b2, e, hC.kp h (fun e => ?_) (fun e => ?_)⟩
              · subst e
                rw [hr3.blk] at h
                injection h with h
                injection h with _ h2 _
                exact absurd h2 (by decide)
              · subst e
                rw [hcb3.blk] at h
                injection h with h
                injection h with _ h2 _
                exact absurd h2 (by decide)
          have HCB3 := Lib.hid hcb3
          have HR3 := Lib.hid hr3
          clear hcbT hrT hIT hownT hCT hb3 hcb3 hr3 hI3 hown3 hC3 hW13 hR3 HSL
          go_wp2_with fail
          go_loopw [34] (fun iv wr => ∃ (j : Nat) (z5 : List Int) (s5 : Rs) (AR5 : Option Addr) (cR5 : Nat), j ≤ (slotL f).length ∧ iv = .int .i64 (j : Int) ∧ rdS ((slotL f).drop j) z5 s5 = rdS (slotL f) d.z d.s ∧ CB wr b z5 (.slice AN N.length cN) ∧ Rdr wr g AR5 cR5 s5.B s5.err ∧ Chg g (some b) w3 wr) (fun iv _ => (slotL f).length - (intOf iv).toNat)
          case atStart => exact ⟨0, d.z, d.s, _, _, by omega, rfl, rfl, HCB3.out, HR3.out, Chg.refl _ _ _⟩
          case round =>
            obtain ⟨j, z5, s5, AR5, cR5, hj1, rfl, hST, hcb, hr, hC⟩ := hrel
            by_cases hj : j < (slotL f).length
            · have hjl : (j : Int) < ((slotL f).length : Int) := by omega
              have hj2 := slotL_two f
              have hj0 : (0 : Int) ≤ (j : Int) := by omega
              obtain ⟨hI, hSR, ⟨hrb3, hq3, hB3⟩, hown, hC4⟩ := HK3.out wr hC
              obtain ⟨b2, o2, rfl, c0, c1, cc⟩ := slots_at hSR.sl hj
              obtain ⟨s, hs⟩ : ∃ s, (slotL f)[j] = s := ⟨_, rfl⟩
              have hs13 : s.1 < 13 := by rw [← hs]; exact (slotL_low f _ (List.getElem_mem hj)).2
              rw [hs] at c0 c1 cc
              rw [rdS_step hj, hs] at hST
              have HST := Lib.hid hST
              obtain ⟨SZ, hSZ⟩ : ∃ SZ, wr.heap.size = SZ := ⟨_, rfl⟩
              have hbx := heap_alloc_new wr (.cells #[.pointer (sp b s), .int .i64 (sm s), .pointer (sq b s)] 71)
              have hal := since_alloc (Below.refl _ wr) (.cells #[.pointer (sp b s), .int .i64 (sm s), .pointer (sq b s)] 71)
              have hcW := hcb.below hal
              have hrW := hr.below hal
              have hrbW := (hal.block rb (Array.getElem?_eq_some_iff.1 hrb3).1).trans hrb3
              obtain ⟨WR, hWR⟩ : ∃ WR, wr.alloc (.cells #[.pointer (sp b s), .int .i64 (sm s), .pointer (sq b s)] 71) = WR := ⟨_, rfl⟩
              have hCal : Chg g (some b) wr WR := by rw [← hWR]; exact Chg.of_below hal
              rw [hWR] at hbx hcW hrW hrbW
              rw [hSZ] at hbx
              have hSZb : b < SZ := by rw [← hSZ]; exact hcb.lt
              have HC5 : Hid (∀ V, Chg g (some b) WR V → Chg g (some b) w3 V) := Lib.hid fun V h => hC.trans (hCal.trans h (.inl rfl)) (.inl rfl)
              have HF11 : Hid (∀ V, Chg g (some b) WR V → V.cell? ⟨rb, 0, none⟩ = some (.pointer (some ⟨g, 0, none⟩)) ∧ rb < V.heap.size ∧ V.cell? ⟨SZ, 0, none⟩ = some (.pointer (sp b s)) ∧ V.cell? ⟨SZ, 1, none⟩ = some (.int .i64 (sm s)) ∧ V.cell? ⟨SZ, 2, none⟩ = some (.pointer (sq b s)) ∧ SZ < V.heap.size) := Lib.hid fun V hC => by
                have h1 := hC.kp hrbW (by omega) (by omega)
                have h2 := hC.kp hbx (by omega) (by omega)
                refine ⟨?_, (Array.getElem?_eq_some_iff.1 h1).1, ?_, ?_, ?_, (Array.getElem?_eq_some_iff.1 h2).1⟩
                · rw [cell_of_row V rb _ _ _ (0, 0) h1]; rfl
                all_goals rw [cell_of_row V SZ _ _ _ (0, 0) h2]; rfl
              have HRW := Lib.hid hrW
              have HCW := Lib.hid hcW
              have HWR := Lib.hid hWR
              have HSZ := Lib.hid hSZ
              clear hs hST hbx hal hcW hrW hrbW hCal hcb hr hC hI hSR hrb3 hq3 hB3 hown hC4 hWR hSZ
              go_upto_region 11 with fail
              rw [HWR.out, HSZ.out]
              clear c0 c1 cc
              refine wp_region_held_drew (S := (fun V => Chg g (some b) WR V)) (by kernel_rfl) (by exact (Chg.of_below (Below.refl _ WR).drew)) (fun hHeld => ?_)
              refine wpAnyH_take (i := 0) (oi := { dst := some 38, op := _, type := _, pos := _, after := _, guard := _ }) (v := ?_) rfl (by kernel_rfl) (by kernel_rfl) (by kernel_rfl) (fun _ _ _ h => h) (Or.inl ⟨by rfl, ?_⟩) hHeld ?_
              rotate_left
              · (intro w hSw; obtain ⟨p0, pl, t0, t1, t2, tl⟩ := HF11.out _ (hSw); go_simp <;> with_reducible rfl)
              try simp only [Act.put, List.setIfInBounds_toArray, List.set_cons_zero, List.set_cons_succ]
              refine wpAnyH_take (i := 1) (oi := { dst := some 39, op := _, type := _, pos := _, after := _, guard := _ }) (v := ?_) rfl (by kernel_rfl) (by kernel_rfl) (by kernel_rfl) (fun _ _ _ h => h) (Or.inl ⟨by rfl, ?_⟩) hHeld ?_
              rotate_left
              · (intro w hSw; obtain ⟨p0, pl, t0, t1, t2, tl⟩ := HF11.out _ (hSw); go_simp <;> with_reducible rfl)
              try simp only [Act.put, List.setIfInBounds_toArray, List.set_cons_zero, List.set_cons_succ]
              refine wpAnyH_ready (rs := [2]) (by kernel_rfl) (by simp) ?_
              refine AllReadyH.cons (o := { dst := some 40, op := _, type := _, pos := _, after := _, guard := _ }) rfl (fun K hK => ?_) AllReadyH.nil
              go_simp
              refine (rlongW g AR5 cR5 s5.B s5.err _ (HRW.out.below (Below.refl _ WR).drew)).mono ?_
              rintro e y1 ⟨rfl, hc1, AR6, cR6, hr6⟩
              have hKeep : Chg g (some b) WR y1 := hHeld.trans hc1.toR (.inl rfl)
              have hcy := CB.mk ((HRW.out.below (Below.refl _ WR).drew).keepR hc1 (HCW.out.below (Below.refl _ WR).drew).blk (fun cs t f e => by injection e with _ e2 _; subst e2; decide)) HCW.out.len
              have hCy := hKeep
              clear hc1
              go_wp2_with fail
              refine hK.out _ _ (by (try dsimp only); exact hKeep) (fun hHeld => ?_)
              clear hK K hKeep
              try simp only [Act.put, List.setIfInBounds_toArray, List.set_cons_zero, List.set_cons_succ]
              refine wpAnyH_ready (rs := [3]) (by kernel_rfl) (by simp) ?_
              refine AllReadyH.cons (o := { dst := some 41, op := _, type := _, pos := _, after := _, guard := _ }) rfl (fun K hK => ?_) AllReadyH.nil
              go_simp
              refine (put_any b z5 _ s _ y1 hcy hs13).mono ?_
              rintro e y2 ⟨rfl, hcz, hgz⟩
              have hKeep : Chg g (some b) WR y2 := hCy.trans hgz.toB (.inl rfl)
              have hrz := hr6.belowW (hgz.below (Nat.le_of_lt hcy.lt) (Nat.le_refl b) (fun b e => by cases e)) hgb
              have hCz := hKeep
              clear hgz
              go_wp2_with fail
              refine hK.out _ _ (by (try dsimp only); exact hKeep) (fun hHeld => ?_)
              clear hK K hKeep
              try simp only [Act.put, List.setIfInBounds_toArray, List.set_cons_zero, List.set_cons_succ]
              refine wpAnyH_done (by kernel_rfl) ?_ _
              go_wp2_with fail
              go_roundw
              case rel => exact ⟨j + 1, z5.set s.1 (rdM s5).1, (rdM s5).2, AR6, cR6, by omega, by go_num, HST.out, hcz, hrz, HC5.out _ hCz⟩
              case measure => simp [intOf]; omega
            · obtain rfl : j = (slotL f).length := by omega
              rw [List.drop_length] at hST
              have hST2 : rdS (slotL f) d.z d.s = (z5, s5) := hST.symm
              have hDN := HD2.out z5 s5 hST2
              have hNN2 : s5.err = 0 → N = d.nums := fun h => HNN.out (by
                rcases Classical.em ((d.s).err = 0) with h0 | h0
                · exact h0
                · have h1 := rdS_err (slotL f) d.z d.s h0
                  rw [hST2] at h1
                  exact absurd h h1)
              obtain ⟨hI, hSR, ⟨hrb3, hq3, hB3⟩, hown, hC4⟩ := HK3.out wr hC
              have hpos := iter_pos hI
              clear hST hST2 hSR hrb3 hq3 hB3 hC
              go_wp2_with fail
              go_roundw
              case rel => exact ⟨k + 1, ⟨z5, d.nums, s5⟩, N, AN, cN, AR5, cR5, by omega, hI, hDN, hNN2, hcb, hr, hown, hN1T, hC4⟩
              case measure =>
                rw [hpos]
                have := HPOS.out
                omega
      · have hnx := next_end L wr W1 k hI hkl
        obtain rfl : k = L.length := by omega
        rw [List.drop_length] at hD
        have hD : d = D := hD
        subst hD
        obtain ⟨hrb, hq, hB⟩ := HK4.out wr hC
        have p0 : wr.cell? ⟨rb, 0, none⟩ = some (.pointer (some ⟨g, 0, none⟩)) := by rw [cell_of_row _ rb 0 _ _ (0, 0) hrb]; rfl
        have hrbl := (Array.getElem?_eq_some_iff.1 hrb).1
        have hql := (Array.getElem?_eq_some_iff.1 hq).1
        obtain ⟨E, hE⟩ : ∃ E, endF d.s = E := ⟨_, rfl⟩
        have HEN := Lib.hid (rend_any g AR cR d.s.B d.s.err wr hr)
        have hE2 : endF ⟨d.s.B, d.s.err⟩ = E := hE
        rw [hE2] at HEN
        have HQV : Hid (∀ V, Below wr.heap.size wr V → V.heap[q0]? = some (.cells #[.int .i64 0, .int .i64 0, .int .i64 0, .int .i64 0, .int .i64 0, .int .i64 0, .int .i64 0, .int .i64 0, .int .i64 0, .int .i64 0, .int .i64 0, .int .i64 0, .int .i64 0, .slice none 0 0] 26 (0, 0)) ∧ Below q0 w V) := Lib.hid fun V hV => ⟨(hV.block q0 hql).trans hq, hB.trans (hV.mono (Nat.le_of_lt hql))⟩
        have hcs := @cell_set
        by_cases hE0 : E = 0
        case neg =>
          have hok : okD d = false := by
            unfold okD
            rw [hE, decide_eq_false hE0, Bool.false_and]
          have HOK := Lib.hid hok
          have hE1 : (E != 0) = true := by simpa using hE0
          clear hE hE2 hE0 hok hI hcb hr hown hC hrb hq hB HK4 HPOS hNE
          go_wp2_with fail
          refine HEN.out.mono ?_
          rintro e v5 ⟨rfl, hb5⟩
          obtain ⟨hq5, hB5⟩ := HQV.out v5 hb5
          have hql5 := (Array.getElem?_eq_some_iff.1 hq5).1
          have kq0 : v5.cell? ⟨q0, 0, none⟩ = some (.int .i64 0) := by rw [cell_of_row v5 q0 0 _ _ (0, 0) hq5]; rfl
          have kq1 : v5.cell? ⟨q0, 1, none⟩ = some (.int .i64 0) := by rw [cell_of_row v5 q0 1 _ _ (0, 0) hq5]; rfl
          have kq2 : v5.cell? ⟨q0, 2, none⟩ = some (.int .i64 0) := by rw [cell_of_row v5 q0 2 _ _ (0, 0) hq5]; rfl
          have kq3 : v5.cell? ⟨q0, 3, none⟩ = some (.int .i64 0) := by rw [cell_of_row v5 q0 3 _ _ (0, 0) hq5]; rfl
          have kq4 : v5.cell? ⟨q0, 4, none⟩ = some (.int .i64 0) := by rw [cell_of_row v5 q0 4 _ _ (0, 0) hq5]; rfl
          have kq5 : v5.cell? ⟨q0, 5, none⟩ = some (.int .i64 0) := by rw [cell_of_row v5 q0 5 _ _ (0, 0) hq5]; rfl
          have kq6 : v5.cell? ⟨q0, 6, none⟩ = some (.int .i64 0) := by rw [cell_of_row v5 q0 6 _ _ (0, 0) hq5]; rfl
          have kq7 : v5.cell? ⟨q0, 7, none⟩ = some (.int .i64 0) := by rw [cell_of_row v5 q0 7 _ _ (0, 0) hq5]; rfl
          have kq8 : v5.cell? ⟨q0, 8, none⟩ = some (.int .i64 0) := by rw [cell_of_row v5 q0 8 _ _ (0, 0) hq5]; rfl
          have kq9 : v5.cell? ⟨q0, 9, none⟩ = some (.int .i64 0) := by rw [cell_of_row v5 q0 9 _ _ (0, 0) hq5]; rfl
          have kq10 : v5.cell? ⟨q0, 10, none⟩ = some (.int .i64 0) := by rw [cell_of_row v5 q0 10 _ _ (0, 0) hq5]; rfl
          have kq11 : v5.cell? ⟨q0, 11, none⟩ = some (.int .i64 0) := by rw [cell_of_row v5 q0 11 _ _ (0, 0) hq5]; rfl
          have kq12 : v5.cell? ⟨q0, 12, none⟩ = some (.int .i64 0) := by rw [cell_of_row v5 q0 12 _ _ (0, 0) hq5]; rfl
          have kq13 : v5.cell? ⟨q0, 13, none⟩ = some (.slice none 0 0) := by rw [cell_of_row v5 q0 13 _ _ (0, 0) hq5]; rfl
          have fq : ∀ i, v5.frozen? ⟨q0, i, none⟩ = false := fun i => by simp [World.frozen?, hq5]
          clear hq5 hb5 HQV HEN
          go_wp2_with fail
          refine bodyPost_ret (v := .tuple #[.agg #[.int .i64 0, .int .i64 0, .int .i64 0, .int .i64 0, .int .i64 0, .int .i64 0, .int .i64 0, .int .i64 0, .int .i64 0, .int .i64 0, .int .i64 0, .int .i64 0, .int .i64 0, .slice none 0 0], .int .i64 3]) ?_ rfl ⟨?_, ?_⟩
          · simp [results, Try.results16, go_sem, kq0, kq1, kq2, kq3, kq4, kq5, kq6, kq7, kq8, kq9, kq10, kq11, kq12, kq13, fq]
          · unfold DRes34; rw [HOK.out, if_neg (by decide)]
          · repeat' (first | with_reducible exact hB5 | with_reducible refine Below.setCell ?_ ?_ _)
            all_goals exact Nat.le_refl _
        subst hE0
        have herr : d.s.err = 0 := by
          unfold endF at hE
          split at hE
          · rename_i h; exact absurd hE h
          · rename_i h; simpa using h
        have hNd := hNE herr
        subst hNd
        obtain ⟨y0, y1, y2, y3, y4, y5, y6, y7, y8, y9, y10, y11, y12, hz⟩ : ∃ y0 y1 y2 y3 y4 y5 y6 y7 y8 y9 y10 y11 y12, d.z = [y0, y1, y2, y3, y4, y5, y6, y7, y8, y9, y10, y11, y12] := by
          have hlen := hcb.len
          match d.z, hlen with
          | [y0, y1, y2, y3, y4, y5, y6, y7, y8, y9, y10, y11, y12], _ => exact ⟨_, _, _, _, _, _, _, _, _, _, _, _, _, rfl⟩
        have hokD : okD d = okZ [y0, y1, y2, y3, y4, y5, y6, y7, y8, y9, y10, y11, y12] d.nums.length := by
          unfold okD
          rw [hE, decide_eq_true rfl, Bool.true_and, hz]
        rw [hz] at hcb
        have HZ := Lib.hid hz
        have HCB := Lib.hid (fun V (hV : Below wr.heap.size wr V) => hcb.below hV)
        have HOWN := Lib.hid (fun V (hV : Below wr.heap.size wr V) => own_below hown hV)
        have hqW : q0 ≤ W1 := by have := HW1g.out; omega
        obtain ⟨R, hR⟩ : ∃ R, okZ [y0, y1, y2, y3, y4, y5, y6, y7, y8, y9, y10, y11, y12] d.nums.length = R := ⟨_, rfl⟩
        rw [hR] at hokD
        have HOK := Lib.hid hokD
        have HCK := Lib.hid (fun V => checkE y0 y1 y2 y3 y4 y5 y6 y7 y8 y9 y10 y11 y12 AN d.nums.length cN V (by unfold maxLen; omega))
        rw [hR] at HCK
        clear hE hE2 herr hNE hz hcb hokD hR hI hr hown hC hrb hq hB HK4 HPOS hcs
        go_wp2_with fail
        refine HEN.out.mono ?_
        rintro e v5 ⟨rfl, hb5⟩
        have hcb5 := HCB.out v5 hb5
        obtain ⟨k0, fk0⟩ := hcb5.got (o := 0) (by decide)
        obtain ⟨k1, fk1⟩ := hcb5.got (o := 1) (by decide)
        obtain ⟨k2, fk2⟩ := hcb5.got (o := 2) (by decide)
        obtain ⟨k3, fk3⟩ := hcb5.got (o := 3) (by decide)
        obtain ⟨k4, fk4⟩ := hcb5.got (o := 4) (by decide)
        obtain ⟨k5, fk5⟩ := hcb5.got (o := 5) (by decide)
        obtain ⟨k6, fk6⟩ := hcb5.got (o := 6) (by decide)
        obtain ⟨k7, fk7⟩ := hcb5.got (o := 7) (by decide)
        obtain ⟨k8, fk8⟩ := hcb5.got (o := 8) (by decide)
        obtain ⟨k9, fk9⟩ := hcb5.got (o := 9) (by decide)
        obtain ⟨k10, fk10⟩ := hcb5.got (o := 10) (by decide)
        obtain ⟨k11, fk11⟩ := hcb5.got (o := 11) (by decide)
        obtain ⟨k12, fk12⟩ := hcb5.got (o := 12) (by decide)
        obtain ⟨k13, fk13⟩ := hcb5.gotV
        have hbl5 := hcb5.lt
        simp only [List.getD_cons_zero, List.getD_cons_succ] at k0 k1 k2 k3 k4 k5 k6 k7 k8 k9 k10 k11 k12
        clear fk0 fk1 fk2 fk3 fk4 fk5 fk6 fk7 fk8 fk9 fk10 fk11 fk12 fk13 hcb5 HEN
        go_wp2_with fail
        refine (HCK.out _).mono ?_
        rintro e v6 ⟨rfl, hb6⟩
        have hb56 := hb5.trans (hb6.mono hb5.size)
        obtain ⟨hq5, hB5⟩ := HQV.out v6 hb56
        have hcb6 := HCB.out v6 hb56
        have hown6 := HOWN.out v6 hb56
        have hcs := @cell_set
        clear k0 k1 k2 k3 k4 k5 k6 k7 k8 k9 k10 k11 k12 k13 hb5 hb6 hb56 hbl5 HQV HCB HOWN HCK
        obtain ⟨k0, fk0⟩ := hcb6.got (o := 0) (by decide)
        obtain ⟨k1, fk1⟩ := hcb6.got (o := 1) (by decide)
        obtain ⟨k2, fk2⟩ := hcb6.got (o := 2) (by decide)
        obtain ⟨k3, fk3⟩ := hcb6.got (o := 3) (by decide)
        obtain ⟨k4, fk4⟩ := hcb6.got (o := 4) (by decide)
        obtain ⟨k5, fk5⟩ := hcb6.got (o := 5) (by decide)
        obtain ⟨k6, fk6⟩ := hcb6.got (o := 6) (by decide)
        obtain ⟨k7, fk7⟩ := hcb6.got (o := 7) (by decide)
        obtain ⟨k8, fk8⟩ := hcb6.got (o := 8) (by decide)
        obtain ⟨k9, fk9⟩ := hcb6.got (o := 9) (by decide)
        obtain ⟨k10, fk10⟩ := hcb6.got (o := 10) (by decide)
        obtain ⟨k11, fk11⟩ := hcb6.got (o := 11) (by decide)
        obtain ⟨k12, fk12⟩ := hcb6.got (o := 12) (by decide)
        obtain ⟨k13, fk13⟩ := hcb6.gotV
        have hbl6 := hcb6.lt
        simp only [List.getD_cons_zero, List.getD_cons_succ] at k0 k1 k2 k3 k4 k5 k6 k7 k8 k9 k10 k11 k12
        clear fk0 fk1 fk2 fk3 fk4 fk5 fk6 fk7 fk8 fk9 fk10 fk11 fk12 fk13 hcb6
        have hql5 := (Array.getElem?_eq_some_iff.1 hq5).1
        have kq0 : v6.cell? ⟨q0, 0, none⟩ = some (.int .i64 0) := by rw [cell_of_row v6 q0 0 _ _ (0, 0) hq5]; rfl
        have kq1 : v6.cell? ⟨q0, 1, none⟩ = some (.int .i64 0) := by rw [cell_of_row v6 q0 1 _ _ (0, 0) hq5]; rfl
        have kq2 : v6.cell? ⟨q0, 2, none⟩ = some (.int .i64 0) := by rw [cell_of_row v6 q0 2 _ _ (0, 0) hq5]; rfl
        have kq3 : v6.cell? ⟨q0, 3, none⟩ = some (.int .i64 0) := by rw [cell_of_row v6 q0 3 _ _ (0, 0) hq5]; rfl
        have kq4 : v6.cell? ⟨q0, 4, none⟩ = some (.int .i64 0) := by rw [cell_of_row v6 q0 4 _ _ (0, 0) hq5]; rfl
        have kq5 : v6.cell? ⟨q0, 5, none⟩ = some (.int .i64 0) := by rw [cell_of_row v6 q0 5 _ _ (0, 0) hq5]; rfl
        have kq6 : v6.cell? ⟨q0, 6, none⟩ = some (.int .i64 0) := by rw [cell_of_row v6 q0 6 _ _ (0, 0) hq5]; rfl
        have kq7 : v6.cell? ⟨q0, 7, none⟩ = some (.int .i64 0) := by rw [cell_of_row v6 q0 7 _ _ (0, 0) hq5]; rfl
        have kq8 : v6.cell? ⟨q0, 8, none⟩ = some (.int .i64 0) := by rw [cell_of_row v6 q0 8 _ _ (0, 0) hq5]; rfl
        have kq9 : v6.cell? ⟨q0, 9, none⟩ = some (.int .i64 0) := by rw [cell_of_row v6 q0 9 _ _ (0, 0) hq5]; rfl
        have kq10 : v6.cell? ⟨q0, 10, none⟩ = some (.int .i64 0) := by rw [cell_of_row v6 q0 10 _ _ (0, 0) hq5]; rfl
        have kq11 : v6.cell? ⟨q0, 11, none⟩ = some (.int .i64 0) := by rw [cell_of_row v6 q0 11 _ _ (0, 0) hq5]; rfl
        have kq12 : v6.cell? ⟨q0, 12, none⟩ = some (.int .i64 0) := by rw [cell_of_row v6 q0 12 _ _ (0, 0) hq5]; rfl
        have kq13 : v6.cell? ⟨q0, 13, none⟩ = some (.slice none 0 0) := by rw [cell_of_row v6 q0 13 _ _ (0, 0) hq5]; rfl
        have fq : ∀ i, v6.frozen? ⟨q0, i, none⟩ = false := fun i => by simp [World.frozen?, hq5]
        have HOWN6 := Lib.hid hown6
        have HNQ : Hid ((Value.slice AN d.nums.length cN).ownBlock ≠ some q0) := Lib.hid fun e => by have := (hown6.lt _ e).1; have := HW1g.out; omega
        clear hq5 hown6
        cases R with
        | false =>
          go_wp2_with fail
          refine bodyPost_ret (v := .tuple #[.agg #[.int .i64 0, .int .i64 0, .int .i64 0, .int .i64 0, .int .i64 0, .int .i64 0, .int .i64 0, .int .i64 0, .int .i64 0, .int .i64 0, .int .i64 0, .int .i64 0, .int .i64 0, .slice none 0 0], .int .i64 3]) ?_ rfl ⟨?_, ?_⟩
          · simp [results, Try.results16, go_sem, kq0, kq1, kq2, kq3, kq4, kq5, kq6, kq7, kq8, kq9, kq10, kq11, kq12, kq13, fq]
          · unfold DRes34; rw [HOK.out, if_neg (by decide)]
          · repeat' (first | with_reducible exact hB5 | with_reducible refine Below.setCell ?_ ?_ _)
            all_goals exact Nat.le_refl _
        | true =>
          go_wp2_with fail
          refine bodyPost_ret (v := .tuple #[.agg #[.int .i64 y0, .int .i64 y1, .int .i64 y2, .int .i64 y3, .int .i64 y4, .int .i64 y5, .int .i64 y6, .int .i64 y7, .int .i64 y8, .int .i64 y9, .int .i64 y10, .int .i64 y11, .int .i64 y12, .slice AN d.nums.length cN], .int .i64 0]) ?_ rfl ⟨?_, ?_⟩
          · simp [results, Try.results16, go_sem, kq0, kq1, kq2, kq3, kq4, kq5, kq6, kq7, kq8, kq9, kq10, kq11, kq12, kq13, fq]
          · unfold DRes34
            rw [HOK.out, if_pos rfl]
            refine ⟨AN, cN, by rw [HZ.out]; rfl, ?_⟩
            exact own_base8 ((own_chg (own_chg (own_chg (own_chg (own_chg (own_chg (own_chg (own_chg (own_chg (own_chg (own_chg (own_chg (own_chg (own_chg HOWN6.out (Chg.set (g := q0) (row := none) 0 (.int .i64 y0)) HNQ.out (fun b _ e => by cases e)) (Chg.set (g := q0) (row := none) 1 (.int .i64 y1)) HNQ.out (fun b _ e => by cases e)) (Chg.set (g := q0) (row := none) 2 (.int .i64 y2)) HNQ.out (fun b _ e => by cases e)) (Chg.set (g := q0) (row := none) 3 (.int .i64 y3)) HNQ.out (fun b _ e => by cases e)) (Chg.set (g := q0) (row := none) 4 (.int .i64 y4)) HNQ.out (fun b _ e => by cases e)) (Chg.set (g := q0) (row := none) 5 (.int .i64 y5)) HNQ.out (fun b _ e => by cases e)) (Chg.set (g := q0) (row := none) 6 (.int .i64 y6)) HNQ.out (fun b _ e => by cases e)) (Chg.set (g := q0) (row := none) 7 (.int .i64 y7)) HNQ.out (fun b _ e => by cases e)) (Chg.set (g := q0) (row := none) 8 (.int .i64 y8)) HNQ.out (fun b _ e => by cases e)) (Chg.set (g := q0) (row := none) 9 (.int .i64 y9)) HNQ.out (fun b _ e => by cases e)) (Chg.set (g := q0) (row := none) 10 (.int .i64 y10)) HNQ.out (fun b _ e => by cases e)) (Chg.set (g := q0) (row := none) 11 (.int .i64 y11)) HNQ.out (fun b _ e => by cases e)) (Chg.set (g := q0) (row := none) 12 (.int .i64 y12)) HNQ.out (fun b _ e => by cases e)) (Chg.set (g := q0) (row := none) 13 (.slice AN d.nums.length cN)) HNQ.out (fun b _ e => by cases e))) hqW
          · repeat' (first | with_reducible exact hB5 | with_reducible refine Below.setCell ?_ ?_ _)
            all_goals exact Nat.le_refl _
end Go.Proofs.Ytpmnjojednbnpaa
end
