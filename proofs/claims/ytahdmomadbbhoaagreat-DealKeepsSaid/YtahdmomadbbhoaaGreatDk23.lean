import Derived.Deep.DeepCutAuto
import Derived.Deep.RegionHeld3
import Derived.Test.YtahdmomadbbhoaaGreatDk22
section
namespace Go.Proofs.YtahdmomadbbhoaaGreat
open Go.ChangeShapes Go.WideShapes Go.ChangeAt Go.RowKit
set_option linter.unusedVariables false
set_option linter.unusedSimpArgs false

def Po.Tells2 (F : Nat) (caps : Array Value) (ah : Po → Po → Bool) (B : Nat) (w : World) : Prop :=
  ∀ (a b : Po) (W : World), Below B w W → Calls Tryz.prog F (#[a.val, b.val] ++ caps) W fun e w' => e = .returned (.bool (ah a b)) ∧ Below W.heap.size W w'
theorem Po.Tells2.below {F : Nat} {caps : Array Value} {ah : Po → Po → Bool} {B : Nat} {w w1 : World} (h : Po.Tells2 F caps ah B w) (hb : Below B w w1) {C : Nat} (hC : B ≤ C) : Po.Tells2 F caps ah C w1 :=
  fun a b W hW => h a b W (hb.trans (hW.mono hC))
structure Po.Bx (w : World) (b : Nat) (g : Po) : Prop where
  lt : b < w.heap.size
  at_ : g.at w b 0
  hp : w.heap[b]? = some (.cells g.cells.toArray 97 (0, 0))
theorem Po.Bx.new (w : World) (g : Po) : Po.Bx (w.alloc (.cells g.cells.toArray 97)) w.heap.size g := by
  have h := heap_alloc_new w (.cells g.cells.toArray 97 (0, 0))
  refine ⟨by simp, Po.at_of fun j u hu => ?_, h⟩
  rw [Nat.zero_add, cell_of_row _ _ j g.cells.toArray 97 (0, 0) h]
  simpa using hu
theorem Po.Bx.below {w w' : World} {b : Nat} {g : Po} (h : Po.Bx w b g) (hb : Below w.heap.size w w') : Po.Bx w' b g :=
  ⟨Nat.lt_of_lt_of_le h.lt hb.size, Po.at_keep h.at_ fun i => hb.cell (p := ⟨b, i, none⟩) h.lt, (hb.block b h.lt).trans h.hp⟩
theorem Po.Bx.sl {w : World} {b : Nat} {g : Po} (h : Po.Bx w b g) : Sl w (some ⟨b, 0, none⟩) g.cells := by
  intro _
  refine ⟨b, 0, rfl, fun j u hu => ?_⟩
  rw [Nat.zero_add, cell_of_row _ _ j g.cells.toArray 97 (0, 0) h.hp]
  simpa using hu
theorem Po.Bx.got {w : World} {b : Nat} {g : Po} (h : Po.Bx w b g) : w.cell? ⟨b, 0, none⟩ = some (.int .i64 g.ac) ∧ w.cell? ⟨b, 1, none⟩ = some (.int .i64 g.cl) ∧ w.cell? ⟨b, 2, none⟩ = some (.slice g.lg g.lgL g.lgC) := by
  have := h.at_
  unfold Po.at at this
  simpa only [Nat.zero_add] using this
set_option maxHeartbeats 1000000 in
set_option maxRecDepth 100000 in
theorem rising_po (A : Option Addr) (cap : Nat) (l : List Po) (F : Nat) (caps : Array Value) (ah : Po → Po → Bool) (w : World) (hl : l.length ≤ 1000000) (hs : Sl w A (rc Po.cells l)) (hF : Ent Tryz.prog F) (hp : Po.Tells2 F caps ah w.heap.size w) :
    Calls Tryz.prog 73 #[.slice A l.length cap, .func (.func F) #[] caps] w fun e w' => e = .returned (.bool (risingL ah l)) ∧ Below w.heap.size w w' := by
  go_enter Tryz.func73, Tryz.ntmps73
  go_wp2_with fail
  go_loopw [5] (fun i wr => ∃ k : Nat, i = .int .i64 ((k : Int) + 1) ∧ (k ≤ l.length) ∧ (∀ j, (hj : j + 1 < l.length) → j < k → ah (l[j]'(by omega)) l[j + 1] = true) ∧ Below w.heap.size w wr) (fun i _ => l.length + 1 - (intOf i).toNat)
  case atStart => exact ⟨0, by first | rfl | go_num, by omega, fun j hj h => absurd h (by omega), Below.refl _ _⟩
  case round =>
    obtain ⟨k, rfl, hk, hno, hB⟩ := hrel
    by_cases hlt2 : k + 1 < l.length
    · have hkl : k < l.length := by omega
      obtain ⟨b, o, rfl, hbw, hg⟩ := hs.po hkl
      obtain ⟨b', o', e, hbw', hg'⟩ := hs.po hlt2
      injection e with e
      injection e with e1 e2 e3
      subst e1; subst e2
      have hg1 : l[k].at wr b (o + k * 3) := Po.at_keep (w := w) hg fun i => hB.cell (p := ⟨b, i, none⟩) hbw
      have hg2 : l[k + 1].at wr b (o + (k + 1) * 3) := Po.at_keep (w := w) hg' fun i => hB.cell (p := ⟨b, i, none⟩) hbw
      have HG1 := Lib.hid hg1
      have HG2 := Lib.hid hg2
      have hbr : b < wr.heap.size := Nat.lt_of_lt_of_le hbw hB.size
      have HK : Hid (∀ V, Below wr.heap.size wr V → l[k].at V b (o + k * 3) ∧ l[k + 1].at V b (o + (k + 1) * 3)) := Lib.hid fun V hV =>
        ⟨Po.at_keep (w := wr) HG1.out fun i => hV.cell (p := ⟨b, i, none⟩) hbr, Po.at_keep (w := wr) HG2.out fun i => hV.cell (p := ⟨b, i, none⟩) hbr⟩
      have HP : Hid (∀ V, Below wr.heap.size wr V → _) := Lib.hid fun V hV => hp l[k] l[k + 1] V (since_step hB hV)
      obtain ⟨q, hq⟩ : ∃ q, ah l[k] l[k + 1] = q := ⟨_, rfl⟩
      have HXq : Hid (if q then (∀ j, (hj : j + 1 < l.length) → j < k + 1 → ah (l[j]'(by omega)) l[j + 1] = true) else risingL ah l = false) := Lib.hid (by
        cases q with
        | true =>
          intro j hj hjk
          rcases Nat.lt_or_ge j k with h | h
          · exact hno j hj h
          · obtain rfl : j = k := by omega
            exact hq
        | false => exact risingL_false hlt2 hq)
      have HQ := Lib.hid hq
      clear hno hp hg hg' hg1 hg2 HG1 HG2 hq
      generalize l[k] = ga at HK HP HQ
      generalize l[k + 1] = gb at HK HP HQ
      have hw0 : IntKind.i64.wrap (k : Int) = (k : Int) := by rw [IntKind.wrap_i64]; omega
      have hw2 : IntKind.i64.wrap ((k : Int) + 1 + 1) = (k : Int) + 1 + 1 := by rw [IntKind.wrap_i64]; omega
      have hn0 : (0 : Int) ≤ (k : Int) := by omega
      have hn1 : (0 : Int) ≤ (k : Int) + 1 := by omega
      have htn : ((k : Int) + 1).toNat = k + 1 := by omega
      have hlt3 : (k : Int) + 1 < (l.length : Int) := by omega
      clear hs hbw hbw'
      go_wp2_with fail
      refine wp_region_held_drew (S := (fun V => Below wr.heap.size wr V)) (by kernel_rfl) (by exact (Below.refl _ _).drew) (fun hHeld => ?_)
      refine wpAnyH_take (i := 0) (oi := { dst := some 12, op := _, type := _, pos := _, after := _, guard := _ }) (v := ?_) rfl (by kernel_rfl) (by kernel_rfl) (by kernel_rfl) (fun _ _ _ h => h) (Or.inl ⟨by rfl, ?_⟩) hHeld ?_
      rotate_left
      · (intro w hSw; obtain ⟨⟨g0, g1, g2⟩, h0, h1, h2⟩ := HK.out _ hSw; go_simp <;> with_reducible rfl)
      try simp only [Act.put, List.setIfInBounds_toArray, List.set_cons_zero, List.set_cons_succ]
      refine wpAnyH_take (i := 1) (oi := { dst := some 13, op := _, type := _, pos := _, after := _, guard := _ }) (v := ?_) rfl (by kernel_rfl) (by kernel_rfl) (by kernel_rfl) (fun _ _ _ h => h) (Or.inl ⟨by rfl, ?_⟩) hHeld ?_
      rotate_left
      · (intro w hSw; obtain ⟨⟨g0, g1, g2⟩, h0, h1, h2⟩ := HK.out _ hSw; go_simp <;> with_reducible rfl)
      try simp only [Act.put, List.setIfInBounds_toArray, List.set_cons_zero, List.set_cons_succ]
      refine wpAnyH_take (i := 2) (oi := { dst := some 14, op := _, type := _, pos := _, after := _, guard := _ }) (v := ?_) rfl (by kernel_rfl) (by kernel_rfl) (by kernel_rfl) (fun _ _ _ h => h) (Or.inl ⟨by rfl, ?_⟩) hHeld ?_
      rotate_left
      · (intro w hSw; obtain ⟨⟨g0, g1, g2⟩, h0, h1, h2⟩ := HK.out _ hSw; go_simp <;> with_reducible rfl)
      try simp only [Act.put, List.setIfInBounds_toArray, List.set_cons_zero, List.set_cons_succ]
      refine wpAnyH_take (i := 3) (oi := { dst := some 15, op := _, type := _, pos := _, after := _, guard := _ }) (v := ?_) rfl (by kernel_rfl) (by kernel_rfl) (by kernel_rfl) (fun _ _ _ h => h) (Or.inl ⟨by rfl, ?_⟩) hHeld ?_
      rotate_left
      · (intro w hSw; obtain ⟨⟨g0, g1, g2⟩, h0, h1, h2⟩ := HK.out _ hSw; go_simp <;> with_reducible rfl)
      try simp only [Act.put, List.setIfInBounds_toArray, List.set_cons_zero, List.set_cons_succ]
      refine wpAnyH_take (i := 4) (oi := { dst := some 16, op := _, type := _, pos := _, after := _, guard := _ }) (v := ?_) rfl (by kernel_rfl) (by kernel_rfl) (by kernel_rfl) (fun _ _ _ h => h) (Or.inl ⟨by rfl, ?_⟩) hHeld ?_
      rotate_left
      · (intro w hSw; obtain ⟨⟨g0, g1, g2⟩, h0, h1, h2⟩ := HK.out _ hSw; go_simp <;> with_reducible rfl)
      try simp only [Act.put, List.setIfInBounds_toArray, List.set_cons_zero, List.set_cons_succ]
      refine wpAnyH_take (i := 5) (oi := { dst := some 17, op := _, type := _, pos := _, after := _, guard := _ }) (v := ?_) rfl (by kernel_rfl) (by kernel_rfl) (by kernel_rfl) (fun _ _ _ h => h) (Or.inl ⟨by rfl, ?_⟩) hHeld ?_
      rotate_left
      · (intro w hSw; obtain ⟨⟨g0, g1, g2⟩, h0, h1, h2⟩ := HK.out _ hSw; go_simp <;> with_reducible rfl)
      try simp only [Act.put, List.setIfInBounds_toArray, List.set_cons_zero, List.set_cons_succ]
      refine wpAnyH_take (i := 6) (oi := { dst := some 18, op := _, type := _, pos := _, after := _, guard := _ }) (v := ?_) rfl (by kernel_rfl) (by kernel_rfl) (by kernel_rfl) (fun _ _ _ h => h) (Or.inl ⟨by rfl, ?_⟩) hHeld ?_
      rotate_left
      · (intro w hSw; obtain ⟨⟨g0, g1, g2⟩, h0, h1, h2⟩ := HK.out _ hSw; go_simp <;> with_reducible rfl)
      try simp only [Act.put, List.setIfInBounds_toArray, List.set_cons_zero, List.set_cons_succ]
      refine wpAnyH_take (i := 7) (oi := { dst := some 19, op := _, type := _, pos := _, after := _, guard := _ }) (v := ?_) rfl (by kernel_rfl) (by kernel_rfl) (by kernel_rfl) (fun _ _ _ h => h) (Or.inl ⟨by rfl, ?_⟩) hHeld ?_
      rotate_left
      · (intro w hSw; obtain ⟨⟨g0, g1, g2⟩, h0, h1, h2⟩ := HK.out _ hSw; go_simp <;> with_reducible rfl)
      try simp only [Act.put, List.setIfInBounds_toArray, List.set_cons_zero, List.set_cons_succ]
      refine wpAnyH_take (i := 8) (oi := { dst := some 20, op := _, type := _, pos := _, after := _, guard := _ }) (v := ?_) rfl (by kernel_rfl) (by kernel_rfl) (by kernel_rfl) (fun _ _ _ h => h) (Or.inl ⟨by rfl, ?_⟩) hHeld ?_
      rotate_left
      · (intro w hSw; obtain ⟨⟨g0, g1, g2⟩, h0, h1, h2⟩ := HK.out _ hSw; go_simp <;> with_reducible rfl)
      try simp only [Act.put, List.setIfInBounds_toArray, List.set_cons_zero, List.set_cons_succ]
      refine wpAnyH_take (i := 9) (oi := { dst := some 21, op := _, type := _, pos := _, after := _, guard := _ }) (v := ?_) rfl (by kernel_rfl) (by kernel_rfl) (by kernel_rfl) (fun _ _ _ h => h) (Or.inl ⟨by rfl, ?_⟩) hHeld ?_
      rotate_left
      · (intro w hSw; obtain ⟨⟨g0, g1, g2⟩, h0, h1, h2⟩ := HK.out _ hSw; go_simp <;> with_reducible rfl)
      try simp only [Act.put, List.setIfInBounds_toArray, List.set_cons_zero, List.set_cons_succ]
      refine wpAnyH_ready (rs := [10]) (by kernel_rfl) (by simp) ?_
      refine AllReadyH.cons (o := { dst := some 22, op := _, type := _, pos := _, after := _, guard := _ }) rfl (fun K hK => ?_) AllReadyH.nil
      go_simp
      rw [hF, Oper.upon_enter]
      refine (HP.out _ hHeld).mono ?_
      rintro e u1 ⟨rfl, hk1⟩
      have hKeep := since_step hHeld hk1
      rw [HQ.out]
      go_wp2_with fail
      refine hK.out _ _ (by (try dsimp only); exact hKeep) (fun hHeld => ?_)
      clear hK K hKeep
      try simp only [Act.put, List.setIfInBounds_toArray, List.set_cons_zero, List.set_cons_succ]
      refine wpAnyH_take (i := 11) (oi := { dst := some 23, op := _, type := _, pos := _, after := _, guard := _ }) (v := ?_) rfl (by kernel_rfl) (by kernel_rfl) (by kernel_rfl) (fun _ _ _ h => h) (Or.inl ⟨by rfl, ?_⟩) hHeld ?_
      rotate_left
      · (intro w hSw; obtain ⟨⟨g0, g1, g2⟩, h0, h1, h2⟩ := HK.out _ hSw; go_simp <;> with_reducible rfl)
      try simp only [Act.put, List.setIfInBounds_toArray, List.set_cons_zero, List.set_cons_succ]
      refine wpAnyH_done (by kernel_rfl) ?_ _
      have hB2 := since_step hB hHeld
      cases q with
      | true =>
        go_wp2_with fail
        go_roundw
        case rel => exact ⟨k + 1, by go_num, by omega, by simpa using HXq.out, hB2⟩
        case measure => simp [intOf]; omega
      | false =>
        have hr : risingL ah l = false := by simpa using HXq.out
        have HR := Lib.hid hr
        clear hr
        go_wp2_with fail
        go_ret
        exact ⟨retB HR.out.symm, hB2⟩
    · have hrt : risingL ah l = true := (risingL_iff ah l).2 fun j hj => hno j hj (by omega)
      have HR := Lib.hid hrt
      have hge : ¬ ((k : Int) + 1 < (l.length : Int)) := by omega
      clear hno hrt
      go_wp2_with fail
      go_ret
      exact ⟨retB HR.out.symm, hB⟩
set_option maxHeartbeats 1000000 in
set_option maxRecDepth 100000 in
theorem put1_po (AH : Nat) (caps : Array Value) (ah : Po → Po → Bool) (x y : Po) (ba bx : Nat) (w : World) (hF : Ent Tryz.prog AH) (hp : Po.Tells2 AH caps ah w.heap.size w) (hx : Po.Bx w bx x) (ha : w.cell? ⟨ba, 0, none⟩ = some (.func (.func AH) #[] caps)) :
    Calls Tryz.prog 116 #[y.val, .pointer (some ⟨ba, 0, none⟩), .pointer (some ⟨bx, 0, none⟩)] w fun e w' => e = .returned (.bool (!ah y x)) ∧ Below w.heap.size w w' := by
  have hlt := World.block_lt_of_cell? _ _ ha
  obtain ⟨g0, g1, g2⟩ := hx.got
  have hlx := hx.lt
  have hB0 := since_alloc (Below.refl w.heap.size w) (.cells y.cells.toArray 97)
  have HP := Lib.hid (hp y x _ hB0)
  clear hp hx
  unfold Po.val
  go_enter Tryz.func116, Tryz.ntmps116
  go_wp2_with fail
  rw [hF, Oper.upon_enter]
  refine HP.out.mono ?_
  rintro e w1 ⟨rfl, hb1⟩
  have hB1 := since_step hB0 hb1
  clear hb1
  obtain ⟨q, hq⟩ : ∃ q, ah y x = q := ⟨_, rfl⟩
  have HQ := Lib.hid hq
  rw [HQ.out]
  clear hq
  cases q <;> (go_wp2_with fail; go_ret; refine ⟨retB ?_, hB1⟩; rw [HQ.out]; rfl)
theorem tells_put1_po (AH : Nat) (caps : Array Value) (ah : Po → Po → Bool) (x : Po) (ba bx : Nat) (w : World) (hF : Ent Tryz.prog AH) (hp : Po.Tells2 AH caps ah w.heap.size w) (hx : Po.Bx w bx x) (ha : w.cell? ⟨ba, 0, none⟩ = some (.func (.func AH) #[] caps)) :
    Po.Tells 116 #[.pointer (some ⟨ba, 0, none⟩), .pointer (some ⟨bx, 0, none⟩)] (fun y => !ah y x) w.heap.size w := by
  intro y W hW
  exact put1_po AH caps ah x y ba bx W hF (hp.below hW hW.size) (hx.below hW) ((hW.cell (p := ⟨ba, 0, none⟩) (World.block_lt_of_cell? _ _ ha)).trans ha)
theorem ent_put1_po : Ent Tryz.prog 116 := Ent.of (by kernel_rfl)
set_option maxHeartbeats 4000000 in
set_option maxRecDepth 100000 in
theorem put_po (A : Option Addr) (cap : Nat) (l : List Po) (x : Po) (AH : Nat) (caps : Array Value) (ah : Po → Po → Bool) (w : World) (hl : l.length ≤ 1000000) (hs : Sl w A (rc Po.cells l)) (hF : Ent Tryz.prog AH) (hp : Po.Tells2 AH caps ah w.heap.size w) :
    Calls Tryz.prog 94 #[.slice A l.length cap, x.val, .func (.func AH) #[] caps] w fun e w' =>
      (∃ A' c', e = .returned (.slice A' (putL ah l x).length c') ∧ w'.ownsRow w.heap.size 97 3 (.slice A' (putL ah l x).length c') (putL ah l x).length (rc Po.cells (putL ah l x))) ∧ Below w.heap.size w w' := by
  have hB0 : Below w.heap.size w ((w.alloc (.cells #[.int .i64 x.ac, .int .i64 x.cl, .slice x.lg x.lgL x.lgC] 97)).alloc (.cells #[.func (.func AH) #[] caps] 125)) := since_alloc (since_alloc (Below.refl _ _) _) _
  have hx0 : Po.Bx ((w.alloc (.cells #[.int .i64 x.ac, .int .i64 x.cl, .slice x.lg x.lgL x.lgC] 97)).alloc (.cells #[.func (.func AH) #[] caps] 125)) w.heap.size x := (Po.Bx.new w x).below ((Below.refl _ _).alloc (Nat.le_refl _) (.cells #[.func (.func AH) #[] caps] 125))
  have ha0 : ((w.alloc (.cells #[.int .i64 x.ac, .int .i64 x.cl, .slice x.lg x.lgL x.lgC] 97)).alloc (.cells #[.func (.func AH) #[] caps] 125)).cell? ⟨w.heap.size + 1, 0, none⟩ = some (.func (.func AH) #[] caps) := by
    have := World.cell?_alloc_new (w.alloc (.cells #[.int .i64 x.ac, .int .i64 x.cl, .slice x.lg x.lgL x.lgC] 97)) #[.func (.func AH) #[] caps] 125 0
    rw [World.size_alloc] at this
    rw [this]; rfl
  have hs0 := (hs.alloc (.cells #[.int .i64 x.ac, .int .i64 x.cl, .slice x.lg x.lgL x.lgC] 97)).alloc (.cells #[.func (.func AH) #[] caps] 125)
  unfold Po.val
  go_enter Tryz.func94, Tryz.ntmps94
  go_upto_region 1 with fail
  have hx1 : w.heap.size + 1 < ((w.alloc (.cells #[.int .i64 x.ac, .int .i64 x.cl, .slice x.lg x.lgL x.lgC] 97)).alloc (.cells #[.func (.func AH) #[] caps] 125)).heap.size := by simp
  have hp0 := hp.below hB0 (C := ((w.alloc (.cells #[.int .i64 x.ac, .int .i64 x.cl, .slice x.lg x.lgL x.lgC] 97)).alloc (.cells #[.func (.func AH) #[] caps] 125)).heap.size) (by simp; omega)
  generalize hWW : ((w.alloc (.cells #[.int .i64 x.ac, .int .i64 x.cl, .slice x.lg x.lgL x.lgC] 97)).alloc (.cells #[.func (.func AH) #[] caps] 125)) = W0 at *
  clear hWW
  have HIX := Lib.hid (index_po A cap l 116 #[.pointer (some ⟨w.heap.size + 1, 0, none⟩), .pointer (some ⟨w.heap.size, 0, none⟩)] (fun y => !ah y x) W0 hl hs0 ent_put1_po (tells_put1_po AH caps ah x (w.heap.size + 1) w.heap.size W0 hF hp0 hx0 ha0))
  go_wp2_with fail
  refine HIX.out.mono ?_
  rintro e W ⟨rfl, hb1⟩
  have hx2 := hx0.below hb1
  have ha2 := (hb1.cell (p := ⟨w.heap.size + 1, 0, none⟩) hx1).trans ha0
  have hs2 := hs0.below hb1
  have hp2 := hp0.below hb1 (Nat.le_trans (Nat.le_refl _) hb1.size)
  have hB2 := since_step hB0 hb1
  have hx3 : w.heap.size + 1 < W.heap.size := Nat.lt_of_lt_of_le hx1 hb1.size
  clear hp0 hs0 ha0 hx0 hx1 hb1 HIX hs hp hB0
  have HXB : Hid (∀ V, Below W.heap.size W V → Po.Bx V w.heap.size x) := Lib.hid fun V hV => hx2.below hV
  have HAB : Hid (∀ V, Below W.heap.size W V → V.cell? ⟨w.heap.size + 1, 0, none⟩ = some (.func (.func AH) #[] caps)) := Lib.hid fun V hV => (hV.cell (p := ⟨w.heap.size + 1, 0, none⟩) hx3).trans ha2
  have HSB : Hid (∀ V, Below W.heap.size W V → Sl V A (rc Po.cells l)) := Lib.hid fun V hV => hs2.below hV
  have HPB : Hid (∀ V, Below W.heap.size W V → ∀ a b, Calls Tryz.prog AH (#[a.val, b.val] ++ caps) V fun e w' => e = .returned (.bool (ah a b)) ∧ Below V.heap.size V w') := Lib.hid fun V hV a b => hp2 a b V hV
  have hBW : w.heap.size ≤ W.heap.size := by omega
  rcases atL_cases (fun y => !ah y x) l with ⟨h0, hno⟩ | ⟨k, hk, h0, hpk, hno⟩
  · rw [h0]
    have HPL := Lib.hid (putL_none (ah := ah) (x := x) hno)
    clear h0 hno hx2 ha2 hs2 hp2
    go_wp2_with fail
    refine wp_region_held_drew (S := (fun V => Below W.heap.size W V)) (by kernel_rfl) (by exact (Below.refl _ _).drew) (fun hHeld => ?_)
    refine wpAnyH_take (i := 0) (oi := { dst := some 13, op := _, type := _, pos := _, after := _, guard := _ }) (v := ?_) rfl (by kernel_rfl) (by kernel_rfl) (by kernel_rfl) (fun _ _ _ h => h) (Or.inl ⟨by rfl, ?_⟩) hHeld ?_
    rotate_left
    · (intro w hSw; obtain ⟨g0, g1, g2⟩ := (HXB.out _ hSw).got; have ha9 := HAB.out _ hSw; go_simp <;> with_reducible rfl)
    try simp only [Act.put, List.setIfInBounds_toArray, List.set_cons_zero, List.set_cons_succ]
    refine wpAnyH_take (i := 2) (oi := { dst := some 15, op := _, type := _, pos := _, after := _, guard := _ }) (v := ?_) rfl (by kernel_rfl) (by kernel_rfl) (by kernel_rfl) (fun _ _ _ h => h) (Or.inl ⟨by rfl, ?_⟩) hHeld ?_
    rotate_left
    · (intro w hSw; obtain ⟨g0, g1, g2⟩ := (HXB.out _ hSw).got; have ha9 := HAB.out _ hSw; go_simp <;> with_reducible rfl)
    try simp only [Act.put, List.setIfInBounds_toArray, List.set_cons_zero, List.set_cons_succ]
    refine wpAnyH_ready (rs := [1, 3]) (by kernel_rfl) (by simp) ?_
    refine AllReadyH.cons (o := { dst := some 14, op := _, type := _, pos := _, after := _, guard := _ }) rfl (fun K hK => ?_) (AllReadyH.cons (o := { dst := some 16, op := _, type := _, pos := _, after := _, guard := _ }) rfl (fun K hK => ?_) AllReadyH.nil)
    · go_simp
      refine (clone_po A cap l _ hl (HSB.out _ hHeld)).mono ?_
      rintro e u1 ⟨⟨A1, c1, rfl, hown0⟩, hk1⟩
      have hKeep := since_step hHeld hk1
      have hown1 := own_base hown0 hHeld.size
      go_wp2_with fail
      refine hK.out _ _ (by (try dsimp only); exact hKeep) (fun hHeld => ?_)
      clear hK K hKeep
      try simp only [Act.put, List.setIfInBounds_toArray, List.set_cons_zero, List.set_cons_succ]
      refine wpAnyH_ready (rs := [3]) (by kernel_rfl) (by simp) ?_
      refine AllReadyH.cons (o := { dst := some 16, op := _, type := _, pos := _, after := _, guard := _ }) rfl (fun K hK => ?_) AllReadyH.nil
      have hHd := hHeld
      obtain ⟨g0, g1, g2⟩ := (HXB.out _ hHd).got; have ha9 := HAB.out _ hHd
      have hA := since_alloc hHeld (.cells x.cells.toArray 97)
      have hKeep := hA
      have HV := Po.Bx.new u1 x
      have hown1 := hown1.alloc (.cells x.cells.toArray 97)
      skip
      go_simp
      refine hK.out _ _ (by (try dsimp only); exact hKeep) (fun hHeld => ?_)
      clear hK K hKeep
      try simp only [Act.put, List.setIfInBounds_toArray, List.set_cons_zero, List.set_cons_succ]
      refine wpAnyH_ready (rs := [4]) (by kernel_rfl) (by simp) ?_
      refine AllReadyH.cons (o := { dst := some 17, op := _, type := _, pos := _, after := _, guard := _ }) rfl (fun K hK => ?_) AllReadyH.nil
      refine step_app rfl (.tmp 14) (.tmp 16) rfl EPo (n := l.length) (m := 1) (c := c1) (d := 1) (A := A1) (B := some ⟨u1.heap.size, 0, none⟩) (by simp [Act.eval, Act.put]; done) (by simp [Act.eval, Act.put]; done) hown1 (by rw [Po.len]) HV.sl (Po.one x) (by unfold maxLen; omega) (by omega) hHeld.size ?_
      intro A2 c2 u2 hown2 hg2 hb2
      have hKeep := since_step (Below.refl W.heap.size W) (hHeld.trans hb2)
      refine hK.out _ _ (by (try dsimp only); exact hKeep) (fun hHeld => ?_)
      clear hK K hKeep
      try simp only [Act.put, List.setIfInBounds_toArray, List.set_cons_zero, List.set_cons_succ]
      refine wpAnyH_take (i := 5) (oi := { dst := some 6, op := _, type := _, pos := _, after := _, guard := _ }) (v := ?_) rfl (by kernel_rfl) (by kernel_rfl) (by kernel_rfl) (fun _ _ _ h => h) (Or.inl ⟨by rfl, ?_⟩) hHeld ?_
      rotate_left
      · (intro w hSw; obtain ⟨g0, g1, g2⟩ := (HXB.out _ hSw).got; have ha9 := HAB.out _ hSw; go_simp <;> with_reducible rfl)
      try simp only [Act.put, List.setIfInBounds_toArray, List.set_cons_zero, List.set_cons_succ]
      refine wpAnyH_done (by kernel_rfl) ?_ _
      have hB3 := hB2.trans (hHeld.mono hBW)
      go_wp2_with fail
      go_ret
      refine ⟨⟨A2, c2, ?_, ?_⟩, hB3⟩
      · rw [HPL.out, List.length_append]; rfl
      · rw [HPL.out, List.length_append, rc_append]
        have := own_base hown2 hBW
        simpa [rc] using this
    · have hHd := hHeld
      obtain ⟨g0, g1, g2⟩ := (HXB.out _ hHd).got; have ha9 := HAB.out _ hHd
      have hA := since_alloc hHeld (.cells x.cells.toArray 97)
      have hKeep := hA
      have HV := Po.Bx.new W.drew x
      skip
      go_simp
      refine hK.out _ _ (by (try dsimp only); exact hKeep) (fun hHeld => ?_)
      clear hK K hKeep
      try simp only [Act.put, List.setIfInBounds_toArray, List.set_cons_zero, List.set_cons_succ]
      refine wpAnyH_ready (rs := [1]) (by kernel_rfl) (by simp) ?_
      refine AllReadyH.cons (o := { dst := some 14, op := _, type := _, pos := _, after := _, guard := _ }) rfl (fun K hK => ?_) AllReadyH.nil
      go_simp
      refine (clone_po A cap l _ hl (HSB.out _ hHeld)).mono ?_
      rintro e u1 ⟨⟨A1, c1, rfl, hown0⟩, hk1⟩
      have hKeep := since_step hHeld hk1
      have hown1 := own_base hown0 hHeld.size
      have hvb1 := HV.lt
      have HV := HV.below hk1
      go_wp2_with fail
      refine hK.out _ _ (by (try dsimp only); exact hKeep) (fun hHeld => ?_)
      clear hK K hKeep
      try simp only [Act.put, List.setIfInBounds_toArray, List.set_cons_zero, List.set_cons_succ]
      refine wpAnyH_ready (rs := [4]) (by kernel_rfl) (by simp) ?_
      refine AllReadyH.cons (o := { dst := some 17, op := _, type := _, pos := _, after := _, guard := _ }) rfl (fun K hK => ?_) AllReadyH.nil
      refine step_app rfl (.tmp 14) (.tmp 16) rfl EPo (n := l.length) (m := 1) (c := c1) (d := 1) (A := A1) (B := some ⟨W.drew.heap.size, 0, none⟩) (by simp [Act.eval, Act.put]; done) (by simp [Act.eval, Act.put]; done) hown1 (by rw [Po.len]) HV.sl (Po.one x) (by unfold maxLen; omega) (by omega) hHeld.size ?_
      intro A2 c2 u2 hown2 hg2 hb2
      have hKeep := since_step (Below.refl W.heap.size W) (hHeld.trans hb2)
      refine hK.out _ _ (by (try dsimp only); exact hKeep) (fun hHeld => ?_)
      clear hK K hKeep
      try simp only [Act.put, List.setIfInBounds_toArray, List.set_cons_zero, List.set_cons_succ]
      refine wpAnyH_take (i := 5) (oi := { dst := some 6, op := _, type := _, pos := _, after := _, guard := _ }) (v := ?_) rfl (by kernel_rfl) (by kernel_rfl) (by kernel_rfl) (fun _ _ _ h => h) (Or.inl ⟨by rfl, ?_⟩) hHeld ?_
      rotate_left
      · (intro w hSw; obtain ⟨g0, g1, g2⟩ := (HXB.out _ hSw).got; have ha9 := HAB.out _ hSw; go_simp <;> with_reducible rfl)
      try simp only [Act.put, List.setIfInBounds_toArray, List.set_cons_zero, List.set_cons_succ]
      refine wpAnyH_done (by kernel_rfl) ?_ _
      have hB3 := hB2.trans (hHeld.mono hBW)
      go_wp2_with fail
      go_ret
      refine ⟨⟨A2, c2, ?_, ?_⟩, hB3⟩
      · rw [HPL.out, List.length_append]; rfl
      · rw [HPL.out, List.length_append, rc_append]
        have := own_base hown2 hBW
        simpa [rc] using this
  · rw [h0]
    obtain ⟨q, hq⟩ : ∃ q, ah x l[k] = q := ⟨_, rfl⟩
    have HPL := Lib.hid (putL_some (ah := ah) (x := x) hk (fun j hj => hno j hj) hpk)
    have HQ := Lib.hid hq
    have hk64 : (k : Int) < (l.length : Int) := by omega
    have hk0 : ¬ ((k : Int) < 0) := by omega
    obtain ⟨b, o, rfl, hbw, hg⟩ := hs2.po hk
    have hbW : b < W.heap.size := hbw
    have HEL : Hid (∀ V, Below W.heap.size W V → l[k].at V b (o + k * 3)) := Lib.hid fun V hV => Po.at_keep (w := W) hg fun i => hV.cell (p := ⟨b, i, none⟩) hbW
    clear h0 hno hx2 ha2 hs2 hp2 hpk hg hbw hq
    go_wp2_with fail
    refine wp_region_held_drew (S := (fun V => Below W.heap.size W V)) (by kernel_rfl) (by exact (Below.refl _ _).drew) (fun hHeld => ?_)
    refine wpAnyH_take (i := 0) (oi := { dst := some 18, op := _, type := _, pos := _, after := _, guard := _ }) (v := ?_) rfl (by kernel_rfl) (by kernel_rfl) (by kernel_rfl) (fun _ _ _ h => h) (Or.inl ⟨by rfl, ?_⟩) hHeld ?_
    rotate_left
    · (intro w hSw; obtain ⟨g0, g1, g2⟩ := (HXB.out _ hSw).got; have ha9 := HAB.out _ hSw; obtain ⟨h0, h1, h2⟩ := HEL.out _ hSw; go_simp <;> with_reducible rfl)
    try simp only [Act.put, List.setIfInBounds_toArray, List.set_cons_zero, List.set_cons_succ]
    refine wpAnyH_take (i := 1) (oi := { dst := some 19, op := _, type := _, pos := _, after := _, guard := _ }) (v := ?_) rfl (by kernel_rfl) (by kernel_rfl) (by kernel_rfl) (fun _ _ _ h => h) (Or.inl ⟨by rfl, ?_⟩) hHeld ?_
    rotate_left
    · (intro w hSw; obtain ⟨g0, g1, g2⟩ := (HXB.out _ hSw).got; have ha9 := HAB.out _ hSw; obtain ⟨h0, h1, h2⟩ := HEL.out _ hSw; go_simp <;> with_reducible rfl)
    try simp only [Act.put, List.setIfInBounds_toArray, List.set_cons_zero, List.set_cons_succ]
    refine wpAnyH_take (i := 2) (oi := { dst := some 20, op := _, type := _, pos := _, after := _, guard := _ }) (v := ?_) rfl (by kernel_rfl) (by kernel_rfl) (by kernel_rfl) (fun _ _ _ h => h) (Or.inl ⟨by rfl, ?_⟩) hHeld ?_
    rotate_left
    · (intro w hSw; obtain ⟨g0, g1, g2⟩ := (HXB.out _ hSw).got; have ha9 := HAB.out _ hSw; obtain ⟨h0, h1, h2⟩ := HEL.out _ hSw; go_simp <;> with_reducible rfl)
    try simp only [Act.put, List.setIfInBounds_toArray, List.set_cons_zero, List.set_cons_succ]
    refine wpAnyH_take (i := 3) (oi := { dst := some 21, op := _, type := _, pos := _, after := _, guard := _ }) (v := ?_) rfl (by kernel_rfl) (by kernel_rfl) (by kernel_rfl) (fun _ _ _ h => h) (Or.inl ⟨by rfl, ?_⟩) hHeld ?_
    rotate_left
    · (intro w hSw; obtain ⟨g0, g1, g2⟩ := (HXB.out _ hSw).got; have ha9 := HAB.out _ hSw; obtain ⟨h0, h1, h2⟩ := HEL.out _ hSw; go_simp <;> with_reducible rfl)
    try simp only [Act.put, List.setIfInBounds_toArray, List.set_cons_zero, List.set_cons_succ]
    refine wpAnyH_take (i := 4) (oi := { dst := some 22, op := _, type := _, pos := _, after := _, guard := _ }) (v := ?_) rfl (by kernel_rfl) (by kernel_rfl) (by kernel_rfl) (fun _ _ _ h => h) (Or.inl ⟨by rfl, ?_⟩) hHeld ?_
    rotate_left
    · (intro w hSw; obtain ⟨g0, g1, g2⟩ := (HXB.out _ hSw).got; have ha9 := HAB.out _ hSw; obtain ⟨h0, h1, h2⟩ := HEL.out _ hSw; go_simp <;> with_reducible rfl)
    try simp only [Act.put, List.setIfInBounds_toArray, List.set_cons_zero, List.set_cons_succ]
    refine wpAnyH_take (i := 5) (oi := { dst := some 23, op := _, type := _, pos := _, after := _, guard := _ }) (v := ?_) rfl (by kernel_rfl) (by kernel_rfl) (by kernel_rfl) (fun _ _ _ h => h) (Or.inl ⟨by rfl, ?_⟩) hHeld ?_
    rotate_left
    · (intro w hSw; obtain ⟨g0, g1, g2⟩ := (HXB.out _ hSw).got; have ha9 := HAB.out _ hSw; obtain ⟨h0, h1, h2⟩ := HEL.out _ hSw; go_simp <;> with_reducible rfl)
    try simp only [Act.put, List.setIfInBounds_toArray, List.set_cons_zero, List.set_cons_succ]
    refine wpAnyH_ready (rs := [6]) (by kernel_rfl) (by simp) ?_
    refine AllReadyH.cons (o := { dst := some 24, op := _, type := _, pos := _, after := _, guard := _ }) rfl (fun K hK => ?_) AllReadyH.nil
    go_simp
    rw [hF, Oper.upon_enter]
    refine (HPB.out _ hHeld x l[k]).mono ?_
    rintro e u1 ⟨rfl, hk1⟩
    have hKeep := since_step hHeld hk1
    rw [HQ.out]
    go_wp2_with fail
    refine hK.out _ _ (by (try dsimp only); exact hKeep) (fun hHeld => ?_)
    clear hK K hKeep
    try simp only [Act.put, List.setIfInBounds_toArray, List.set_cons_zero, List.set_cons_succ]
    refine wpAnyH_done (by kernel_rfl) ?_ _
    have hHW := hHeld
    generalize hUU : u1 = U at hHeld hHW
    cases q with
    | true =>
      subst hUU
      obtain ⟨U, hU⟩ : ∃ U, U = u1 := ⟨_, rfl⟩
      rw [← hU] at hHeld ⊢
      clear hU
      go_wp2_with fail
      refine wp_region_held_drew (S := (fun V => Below W.heap.size W V)) (by kernel_rfl) (by exact hHeld.drew) (fun hHeld => ?_)
      refine wpAnyH_take (i := 0) (oi := { dst := some 25, op := _, type := _, pos := _, after := _, guard := _ }) (v := ?_) rfl (by kernel_rfl) (by kernel_rfl) (by kernel_rfl) (fun _ _ _ h => h) (Or.inl ⟨by rfl, ?_⟩) hHeld ?_
      rotate_left
      · (intro w hSw; obtain ⟨g0, g1, g2⟩ := (HXB.out _ hSw).got; have ha9 := HAB.out _ hSw; go_simp <;> with_reducible rfl)
      try simp only [Act.put, List.setIfInBounds_toArray, List.set_cons_zero, List.set_cons_succ]
      refine wpAnyH_take (i := 2) (oi := { dst := some 27, op := _, type := _, pos := _, after := _, guard := _ }) (v := ?_) rfl (by kernel_rfl) (by kernel_rfl) (by kernel_rfl) (fun _ _ _ h => h) (Or.inl ⟨by rfl, ?_⟩) hHeld ?_
      rotate_left
      · (intro w hSw; obtain ⟨g0, g1, g2⟩ := (HXB.out _ hSw).got; have ha9 := HAB.out _ hSw; go_simp <;> with_reducible rfl)
      try simp only [Act.put, List.setIfInBounds_toArray, List.set_cons_zero, List.set_cons_succ]
      refine wpAnyH_take (i := 3) (oi := { dst := some 28, op := _, type := _, pos := _, after := _, guard := _ }) (v := ?_) rfl (by kernel_rfl) (by kernel_rfl) (by kernel_rfl) (fun _ _ _ h => h) (Or.inl ⟨by rfl, ?_⟩) hHeld ?_
      rotate_left
      · (intro w hSw; obtain ⟨g0, g1, g2⟩ := (HXB.out _ hSw).got; have ha9 := HAB.out _ hSw; go_simp <;> with_reducible rfl)
      try simp only [Act.put, List.setIfInBounds_toArray, List.set_cons_zero, List.set_cons_succ]
      refine wpAnyH_ready (rs := [1, 4]) (by kernel_rfl) (by simp) ?_
      refine AllReadyH.cons (o := { dst := some 26, op := _, type := _, pos := _, after := _, guard := _ }) rfl (fun K hK => ?_) (AllReadyH.cons (o := { dst := some 29, op := _, type := _, pos := _, after := _, guard := _ }) rfl (fun K hK => ?_) AllReadyH.nil)
      · go_simp
        refine (clone_po (some ⟨b, o, none⟩) cap l _ hl (HSB.out _ hHeld)).mono ?_
        rintro e v1 ⟨⟨A1, c1, rfl, hown0⟩, hk1⟩
        have hKeep := since_step hHeld hk1
        obtain ⟨gb, rfl, hgb1, hgb2, hgb3⟩ := own_at hown0 (by omega)
        have hown1 := own_base hown0 hHeld.size
        go_wp2_with fail
        refine hK.out _ _ (by (try dsimp only); exact hKeep) (fun hHeld => ?_)
        clear hK K hKeep
        try simp only [Act.put, List.setIfInBounds_toArray, List.set_cons_zero, List.set_cons_succ]
        refine wpAnyH_ready (rs := [4]) (by kernel_rfl) (by simp) ?_
        refine AllReadyH.cons (o := { dst := some 29, op := _, type := _, pos := _, after := _, guard := _ }) rfl (fun K hK => ?_) AllReadyH.nil
        have hHd := hHeld
        obtain ⟨g0, g1, g2⟩ := (HXB.out _ hHd).got; have ha9 := HAB.out _ hHd
        have hA := since_alloc hHeld (.cells x.cells.toArray 97)
        have hKeep := hA
        have HV := Po.Bx.new v1 x
        have hown1 := hown1.alloc (.cells x.cells.toArray 97)
        have hne : v1.heap.size ≠ gb := by omega
        skip
        go_simp
        refine hK.out _ _ (by (try dsimp only); exact hKeep) (fun hHeld => ?_)
        clear hK K hKeep
        try simp only [Act.put, List.setIfInBounds_toArray, List.set_cons_zero, List.set_cons_succ]
        refine wpAnyH_ready (rs := [5]) (by kernel_rfl) (by simp) ?_
        refine AllReadyH.cons (o := { dst := some 30, op := _, type := _, pos := _, after := _, guard := _ }) rfl (fun K hK => ?_) AllReadyH.nil
        go_simp
        refine (insert_po W.heap.size gb k l.length c1 (v1.heap.size) 1 l x _ rfl hl hk hown1 HV.hp hne hHeld.size).mono ?_
        rintro e v2 ⟨⟨A2, c2, rfl, hown2⟩, hb2⟩
        have hKeep := since_step (Below.refl W.heap.size W) (hHeld.trans hb2)
        go_wp2_with fail
        refine hK.out _ _ (by (try dsimp only); exact hKeep) (fun hHeld => ?_)
        clear hK K hKeep
        try simp only [Act.put, List.setIfInBounds_toArray, List.set_cons_zero, List.set_cons_succ]
        refine wpAnyH_take (i := 6) (oi := { dst := some 6, op := _, type := _, pos := _, after := _, guard := _ }) (v := ?_) rfl (by kernel_rfl) (by kernel_rfl) (by kernel_rfl) (fun _ _ _ h => h) (Or.inl ⟨by rfl, ?_⟩) hHeld ?_
        rotate_left
        · (intro w hSw; obtain ⟨g0, g1, g2⟩ := (HXB.out _ hSw).got; have ha9 := HAB.out _ hSw; go_simp <;> with_reducible rfl)
        try simp only [Act.put, List.setIfInBounds_toArray, List.set_cons_zero, List.set_cons_succ]
        refine wpAnyH_done (by kernel_rfl) ?_ _
        have hB3 := hB2.trans (hHeld.mono hBW)
        go_wp2_with fail
        go_ret
        have hln : (l.take k ++ x :: l.drop k).length = l.length + 1 := by simp; omega
        refine ⟨⟨A2, c2, ?_, ?_⟩, hB3⟩
        · rw [HPL.out, HQ.out, if_pos rfl, hln]; rfl
        · rw [HPL.out, HQ.out, if_pos rfl, hln]
          exact own_base hown2 hBW
      · have hHd := hHeld
        obtain ⟨g0, g1, g2⟩ := (HXB.out _ hHd).got; have ha9 := HAB.out _ hHd
        have hA := since_alloc hHeld (.cells x.cells.toArray 97)
        have hKeep := hA
        have HV := Po.Bx.new U.drew x
        skip
        go_simp
        refine hK.out _ _ (by (try dsimp only); exact hKeep) (fun hHeld => ?_)
        clear hK K hKeep
        try simp only [Act.put, List.setIfInBounds_toArray, List.set_cons_zero, List.set_cons_succ]
        refine wpAnyH_ready (rs := [1]) (by kernel_rfl) (by simp) ?_
        refine AllReadyH.cons (o := { dst := some 26, op := _, type := _, pos := _, after := _, guard := _ }) rfl (fun K hK => ?_) AllReadyH.nil
        go_simp
        refine (clone_po (some ⟨b, o, none⟩) cap l _ hl (HSB.out _ hHeld)).mono ?_
        rintro e v1 ⟨⟨A1, c1, rfl, hown0⟩, hk1⟩
        have hKeep := since_step hHeld hk1
        obtain ⟨gb, rfl, hgb1, hgb2, hgb3⟩ := own_at hown0 (by omega)
        have hown1 := own_base hown0 hHeld.size
        have hvb1 := HV.lt
        have hne : U.drew.heap.size ≠ gb := by have h1 := hgb1; simp only [World.size_drew, World.size_alloc] at h1 ⊢; omega
        have HV := HV.below hk1
        go_wp2_with fail
        refine hK.out _ _ (by (try dsimp only); exact hKeep) (fun hHeld => ?_)
        clear hK K hKeep
        try simp only [Act.put, List.setIfInBounds_toArray, List.set_cons_zero, List.set_cons_succ]
        refine wpAnyH_ready (rs := [5]) (by kernel_rfl) (by simp) ?_
        refine AllReadyH.cons (o := { dst := some 30, op := _, type := _, pos := _, after := _, guard := _ }) rfl (fun K hK => ?_) AllReadyH.nil
        go_simp
        refine (insert_po W.heap.size gb k l.length c1 (U.drew.heap.size) 1 l x _ rfl hl hk hown1 HV.hp hne hHeld.size).mono ?_
        rintro e v2 ⟨⟨A2, c2, rfl, hown2⟩, hb2⟩
        have hKeep := since_step (Below.refl W.heap.size W) (hHeld.trans hb2)
        go_wp2_with fail
        refine hK.out _ _ (by (try dsimp only); exact hKeep) (fun hHeld => ?_)
        clear hK K hKeep
        try simp only [Act.put, List.setIfInBounds_toArray, List.set_cons_zero, List.set_cons_succ]
        refine wpAnyH_take (i := 6) (oi := { dst := some 6, op := _, type := _, pos := _, after := _, guard := _ }) (v := ?_) rfl (by kernel_rfl) (by kernel_rfl) (by kernel_rfl) (fun _ _ _ h => h) (Or.inl ⟨by rfl, ?_⟩) hHeld ?_
        rotate_left
        · (intro w hSw; obtain ⟨g0, g1, g2⟩ := (HXB.out _ hSw).got; have ha9 := HAB.out _ hSw; go_simp <;> with_reducible rfl)
        try simp only [Act.put, List.setIfInBounds_toArray, List.set_cons_zero, List.set_cons_succ]
        refine wpAnyH_done (by kernel_rfl) ?_ _
        have hB3 := hB2.trans (hHeld.mono hBW)
        go_wp2_with fail
        go_ret
        have hln : (l.take k ++ x :: l.drop k).length = l.length + 1 := by simp; omega
        refine ⟨⟨A2, c2, ?_, ?_⟩, hB3⟩
        · rw [HPL.out, HQ.out, if_pos rfl, hln]; rfl
        · rw [HPL.out, HQ.out, if_pos rfl, hln]
          exact own_base hown2 hBW
    | false =>
      subst hUU
      obtain ⟨g0, g1, g2⟩ := (HXB.out _ hHeld).got
      go_wp2_with fail
      refine (set_po (some ⟨b, o, none⟩) cap l k x _ hl hk (HSB.out _ hHeld)).mono ?_
      rintro e v2 ⟨⟨A2, c2, rfl, hown2⟩, hb2⟩
      have hB3 := hB2.trans ((since_step hHeld hb2).mono hBW)
      go_wp2_with fail
      go_ret
      refine ⟨⟨A2, c2, ?_, ?_⟩, hB3⟩
      · rw [HPL.out, HQ.out, if_neg (by decide), List.length_set]; rfl
      · rw [HPL.out, HQ.out, if_neg (by decide), List.length_set]
        exact own_base hown2 (Nat.le_trans hBW hHeld.size)
end Go.Proofs.YtahdmomadbbhoaaGreat
end
