import Derived.Deep.DeepCutAuto
import Derived.Deep.RegionHeld3
import Derived.Test.YtldnponbkhgijaaBK00
import Derived.Deep.RegionLaw
import Derived.Lib.SliceRun
import Derived.IntWalk
import Derived.Laws.Bits64
import Derived.Laws.BitsAllLaws
import Derived.Laws.Externs
section
namespace Go.Proofs.Ytldnponbkhgijaa
open Go.ChangeShapes Go.WideShapes Go.ChangeAt Go.RowKit
set_option linter.unusedVariables false
set_option linter.unusedSimpArgs false

def Po.Tells2 (F : Nat) (caps : Array Value) (ah : Po → Po → Bool) (B : Nat) (w : World) : Prop :=
  ∀ (a b : Po) (W : World), Below B w W → Calls Try.prog F (#[a.val, b.val] ++ caps) W fun e w' => e = .returned (.bool (ah a b)) ∧ Below W.heap.size W w'
theorem Po.Tells2.below {F : Nat} {caps : Array Value} {ah : Po → Po → Bool} {B : Nat} {w w1 : World} (h : Po.Tells2 F caps ah B w) (hb : Below B w w1) {C : Nat} (hC : B ≤ C) : Po.Tells2 F caps ah C w1 :=
  fun a b W hW => h a b W (hb.trans (hW.mono hC))
structure Po.Bx (w : World) (b : Nat) (g : Po) : Prop where
  lt : b < w.heap.size
  at_ : g.at w b 0
  hp : w.heap[b]? = some (.cells g.cells.toArray 133 (0, 0))
theorem Po.Bx.new (w : World) (g : Po) : Po.Bx (w.alloc (.cells g.cells.toArray 133)) w.heap.size g := by
  have h := heap_alloc_new w (.cells g.cells.toArray 133 (0, 0))
  refine ⟨by simp, Po.at_of fun j u hu => ?_, h⟩
  rw [Nat.zero_add, cell_of_row _ _ j g.cells.toArray 133 (0, 0) h]
  simpa using hu
theorem Po.Bx.below {w w' : World} {b : Nat} {g : Po} (h : Po.Bx w b g) (hb : Below w.heap.size w w') : Po.Bx w' b g :=
  ⟨Nat.lt_of_lt_of_le h.lt hb.size, Po.at_keep h.at_ fun i => hb.cell (p := ⟨b, i, none⟩) h.lt, (hb.block b h.lt).trans h.hp⟩
theorem Po.Bx.sl {w : World} {b : Nat} {g : Po} (h : Po.Bx w b g) : Sl w (some ⟨b, 0, none⟩) g.cells := by
  intro _
  refine ⟨b, 0, rfl, fun j u hu => ?_⟩
  rw [Nat.zero_add, cell_of_row _ _ j g.cells.toArray 133 (0, 0) h.hp]
  simpa using hu
theorem Po.Bx.got {w : World} {b : Nat} {g : Po} (h : Po.Bx w b g) : w.cell? ⟨b, 0, none⟩ = some (.int .i64 g.ac) ∧ w.cell? ⟨b, 1, none⟩ = some (.int .i64 g.cl) ∧ w.cell? ⟨b, 2, none⟩ = some (.slice g.lg g.lgL g.lgC) := by
  have := h.at_
  unfold Po.at at this
  simpa only [Nat.zero_add] using this
set_option maxHeartbeats 1000000 in
set_option maxRecDepth 100000 in
theorem rising_po (A : Option Addr) (cap : Nat) (l : List Po) (F : Nat) (caps : Array Value) (ah : Po → Po → Bool) (w : World) (hl : l.length ≤ 1000000) (hs : Sl w A (rc Po.cells l)) (hF : Ent Try.prog F) (hp : Po.Tells2 F caps ah w.heap.size w) :
    Calls Try.prog 91 #[.slice A l.length cap, .func (.func F) #[] caps] w fun e w' => e = .returned (.bool (risingL ah l)) ∧ Below w.heap.size w w' := by
  go_enter Try.func91, Try.ntmps91
  go_wp2_with fail
  go_loopw [5] (fun i wr => ∃ k : Nat, i = .int .i64 ((k : Int) + 1) ∧ (k ≤ l.length) ∧ (∀ j, (hj : j + 1 < l.length) → j < k → ah (l[j]'(by omega)) l[j + 1] = true) ∧ Below w.heap.size w wr) (fun i _ => l.length + 1 - (intOf i).toNat)
  case atStart => exact ⟨0, by first | rfl | go_num, by omega, fun j hj h => absurd h (by omega), Below.refl _ _⟩
  case round =>
    obtain ⟨k, rfl, hk, hno, hB⟩ := hrel
    by_cases hlt2 : k + 1 < l.length
    · have hkl : k < l.length := by omega
      obtain ⟨b, o, rfl, hbw, hg⟩ := hs.po hkl
      obtain ⟨b', o', e, hbw', hg'⟩ := hs.po hlt2
      injection e with e
      injection e with e1 e2 e3
      subst e1; subst e2
      have hg1 : l[k].at wr b (o + k * 3) := Po.at_keep (w := w) hg fun i => hB.cell (p := ⟨b, i, none⟩) hbw
      have hg2 : l[k + 1].at wr b (o + (k + 1) * 3) := Po.at_keep (w := w) hg' fun i => hB.cell (p := ⟨b, i, none⟩) hbw
      have HG1 := Lib.hid hg1
      have HG2 := Lib.hid hg2
      have hbr : b < wr.heap.size := Nat.lt_of_lt_of_le hbw hB.size
      have HK : Hid (∀ V, Below wr.heap.size wr V → l[k].at V b (o + k * 3) ∧ l[k + 1].at V b (o + (k + 1) * 3)) := Lib.hid fun V hV =>
        ⟨Po.at_keep (w := wr) HG1.out fun i => hV.cell (p := ⟨b, i, none⟩) hbr, Po.at_keep (w := wr) HG2.out fun i => hV.cell (p := ⟨b, i, none⟩) hbr⟩
      have HP : Hid (∀ V, Below wr.heap.size wr V → _) := Lib.hid fun V hV => hp l[k] l[k + 1] V (since_step hB hV)
      obtain ⟨q, hq⟩ : ∃ q, ah l[k] l[k + 1] = q := ⟨_, rfl⟩
      have HXq : Hid (if q then (∀ j, (hj : j + 1 < l.length) → j < k + 1 → ah (l[j]'(by omega)) l[j + 1] = true) else risingL ah l = false) := Lib.hid (by
        cases q with
        | true =>
          intro j hj hjk
          rcases Nat.lt_or_ge j k with h | h
          · exact hno j hj h
          · obtain rfl : j = k := by omega
            exact hq
        | false => exact risingL_false hlt2 hq)
      have HQ := Lib.hid hq
      clear hno hp hg hg' hg1 hg2 HG1 HG2 hq
      generalize l[k] = ga at HK HP HQ
      generalize l[k + 1] = gb at HK HP HQ
      have hw0 : IntKind.i64.wrap (k : Int) = (k : Int) := by rw [IntKind.wrap_i64]; omega
      have hw2 : IntKind.i64.wrap ((k : Int) + 1 + 1) = (k : Int) + 1 + 1 := by rw [IntKind.wrap_i64]; omega
      have hn0 : (0 : Int) ≤ (k : Int) := by omega
      have hn1 : (0 : Int) ≤ (k : Int) + 1 := by omega
      have htn : ((k : Int) + 1).toNat = k + 1 := by omega
      have hlt3 : (k : Int) + 1 < (l.length : Int) := by omega
      clear hs hbw hbw'
      go_wp2_with fail
      refine wp_region_held_drew (S := (fun V => Below wr.heap.size wr V)) (by kernel_rfl) (by exact (Below.refl _ _).drew) (fun hHeld => ?_)
      refine wpAnyH_take (i := 0) (oi := { dst := some 12, op := _, type := _, pos := _, after := _, guard := _ }) (v := ?_) rfl (by kernel_rfl) (by kernel_rfl) (by kernel_rfl) (fun _ _ _ h => h) (Or.inl ⟨by rfl, ?_⟩) hHeld ?_
      rotate_left
      · (intro w hSw; obtain ⟨⟨g0, g1, g2⟩, h0, h1, h2⟩ := HK.out _ hSw; go_simp <;> with_reducible rfl)
      try simp only [Act.put, List.setIfInBounds_toArray, List.set_cons_zero, List.set_cons_succ]
      refine wpAnyH_take (i := 1) (oi := { dst := some 13, op := _, type := _, pos := _, after := _, guard := _ }) (v := ?_) rfl (by kernel_rfl) (by kernel_rfl) (by kernel_rfl) (fun _ _ _ h => h) (Or.inl ⟨by rfl, ?_⟩) hHeld ?_
      rotate_left
      · (intro w hSw; obtain ⟨⟨g0, g1, g2⟩, h0, h1, h2⟩ := HK.out _ hSw; go_simp <;> with_reducible rfl)
      try simp only [Act.put, List.setIfInBounds_toArray, List.set_cons_zero, List.set_cons_succ]
      refine wpAnyH_take (i := 2) (oi := { dst := some 14, op := _, type := _, pos := _, after := _, guard := _ }) (v := ?_) rfl (by kernel_rfl) (by kernel_rfl) (by kernel_rfl) (fun _ _ _ h => h) (Or.inl ⟨by rfl, ?_⟩) hHeld ?_
      rotate_left
      · (intro w hSw; obtain ⟨⟨g0, g1, g2⟩, h0, h1, h2⟩ := HK.out _ hSw; go_simp <;> with_reducible rfl)
      try simp only [Act.put, List.setIfInBounds_toArray, List.set_cons_zero, List.set_cons_succ]
      refine wpAnyH_take (i := 3) (oi := { dst := some 15, op := _, type := _, pos := _, after := _, guard := _ }) (v := ?_) rfl (by kernel_rfl) (by kernel_rfl) (by kernel_rfl) (fun _ _ _ h => h) (Or.inl ⟨by rfl, ?_⟩) hHeld ?_
      rotate_left
      · (intro w hSw; obtain ⟨⟨g0, g1, g2⟩, h0, h1, h2⟩ := HK.out _ hSw; go_simp <;> with_reducible rfl)
      try simp only [Act.put, List.setIfInBounds_toArray, List.set_cons_zero, List.set_cons_succ]
      refine wpAnyH_take (i := 4) (oi := { dst := some 16, op := _, type := _, pos := _, after := _, guard := _ }) (v := ?_) rfl (by kernel_rfl) (by kernel_rfl) (by kernel_rfl) (fun _ _ _ h => h) (Or.inl ⟨by rfl, ?_⟩) hHeld ?_
      rotate_left
      · (intro w hSw; obtain ⟨⟨g0, g1, g2⟩, h0, h1, h2⟩ := HK.out _ hSw; go_simp <;> with_reducible rfl)
      try simp only [Act.put, List.setIfInBounds_toArray, List.set_cons_zero, List.set_cons_succ]
      refine wpAnyH_take (i := 5) (oi := { dst := some 17, op := _, type := _, pos := _, after := _, guard := _ }) (v := ?_) rfl (by kernel_rfl) (by kernel_rfl) (by kernel_rfl) (fun _ _ _ h => h) (Or.inl ⟨by rfl, ?_⟩) hHeld ?_
      rotate_left
      · (intro w hSw; obtain ⟨⟨g0, g1, g2⟩, h0, h1, h2⟩ := HK.out _ hSw; go_simp <;> with_reducible rfl)
      try simp only [Act.put, List.setIfInBounds_toArray, List.set_cons_zero, List.set_cons_succ]
      refine wpAnyH_take (i := 6) (oi := { dst := some 18, op := _, type := _, pos := _, after := _, guard := _ }) (v := ?_) rfl (by kernel_rfl) (by kernel_rfl) (by kernel_rfl) (fun _ _ _ h => h) (Or.inl ⟨by rfl, ?_⟩) hHeld ?_
      rotate_left
      · (intro w hSw; obtain ⟨⟨g0, g1, g2⟩, h0, h1, h2⟩ := HK.out _ hSw; go_simp <;> with_reducible rfl)
      try simp only [Act.put, List.setIfInBounds_toArray, List.set_cons_zero, List.set_cons_succ]
      refine wpAnyH_take (i := 7) (oi := { dst := some 19, op := _, type := _, pos := _, after := _, guard := _ }) (v := ?_) rfl (by kernel_rfl) (by kernel_rfl) (by kernel_rfl) (fun _ _ _ h => h) (Or.inl ⟨by rfl, ?_⟩) hHeld ?_
      rotate_left
      · (intro w hSw; obtain ⟨⟨g0, g1, g2⟩, h0, h1, h2⟩ := HK.out _ hSw; go_simp <;> with_reducible rfl)
      try simp only [Act.put, List.setIfInBounds_toArray, List.set_cons_zero, List.set_cons_succ]
      refine wpAnyH_take (i := 8) (oi := { dst := some 20, op := _, type := _, pos := _, after := _, guard := _ }) (v := ?_) rfl (by kernel_rfl) (by kernel_rfl) (by kernel_rfl) (fun _ _ _ h => h) (Or.inl ⟨by rfl, ?_⟩) hHeld ?_
      rotate_left
      · (intro w hSw; obtain ⟨⟨g0, g1, g2⟩, h0, h1, h2⟩ := HK.out _ hSw; go_simp <;> with_reducible rfl)
      try simp only [Act.put, List.setIfInBounds_toArray, List.set_cons_zero, List.set_cons_succ]
      refine wpAnyH_take (i := 9) (oi := { dst := some 21, op := _, type := _, pos := _, after := _, guard := _ }) (v := ?_) rfl (by kernel_rfl) (by kernel_rfl) (by kernel_rfl) (fun _ _ _ h => h) (Or.inl ⟨by rfl, ?_⟩) hHeld ?_
      rotate_left
      · (intro w hSw; obtain ⟨⟨g0, g1, g2⟩, h0, h1, h2⟩ := HK.out _ hSw; go_simp <;> with_reducible rfl)
      try simp only [Act.put, List.setIfInBounds_toArray, List.set_cons_zero, List.set_cons_succ]
      refine wpAnyH_ready (rs := [10]) (by kernel_rfl) (by simp) ?_
      refine AllReadyH.cons (o := { dst := some 22, op := _, type := _, pos := _, after := _, guard := _ }) rfl (fun K hK => ?_) AllReadyH.nil
      go_simp
      rw [hF, Oper.upon_enter]
      refine (HP.out _ hHeld).mono ?_
      rintro e u1 ⟨rfl, hk1⟩
      have hKeep := since_step hHeld hk1
      rw [HQ.out]
      go_wp2_with fail
      refine hK.out _ _ (by (try dsimp only); exact hKeep) (fun hHeld => ?_)
      clear hK K hKeep
      try simp only [Act.put, List.setIfInBounds_toArray, List.set_cons_zero, List.set_cons_succ]
      refine wpAnyH_take (i := 11) (oi := { dst := some 23, op := _, type := _, pos := _, after := _, guard := _ }) (v := ?_) rfl (by kernel_rfl) (by kernel_rfl) (by kernel_rfl) (fun _ _ _ h => h) (Or.inl ⟨by rfl, ?_⟩) hHeld ?_
      rotate_left
      · (intro w hSw; obtain ⟨⟨g0, g1, g2⟩, h0, h1, h2⟩ := HK.out _ hSw; go_simp <;> with_reducible rfl)
      try simp only [Act.put, List.setIfInBounds_toArray, List.set_cons_zero, List.set_cons_succ]
      refine wpAnyH_done (by kernel_rfl) ?_ _
      have hB2 := since_step hB hHeld
      cases q with
      | true =>
        go_wp2_with fail
        go_roundw
        case rel => exact ⟨k + 1, by go_num, by omega, by simpa using HXq.out, hB2⟩
        case measure => simp [intOf]; omega
      | false =>
        have hr : risingL ah l = false := by simpa using HXq.out
        have HR := Lib.hid hr
        clear hr
        go_wp2_with fail
        go_ret
        exact ⟨retB HR.out.symm, hB2⟩
    · have hrt : risingL ah l = true := (risingL_iff ah l).2 fun j hj => hno j hj (by omega)
      have HR := Lib.hid hrt
      have hge : ¬ ((k : Int) + 1 < (l.length : Int)) := by omega
      clear hno hrt
      go_wp2_with fail
      go_ret
      exact ⟨retB HR.out.symm, hB⟩
set_option maxHeartbeats 1000000 in
set_option maxRecDepth 100000 in
theorem put1_po (AH : Nat) (caps : Array Value) (ah : Po → Po → Bool) (x y : Po) (ba bx : Nat) (w : World) (hF : Ent Try.prog AH) (hp : Po.Tells2 AH caps ah w.heap.size w) (hx : Po.Bx w bx x) (ha : w.cell? ⟨ba, 0, none⟩ = some (.func (.func AH) #[] caps)) :
    Calls Try.prog 157 #[y.val, .pointer (some ⟨ba, 0, none⟩), .pointer (some ⟨bx, 0, none⟩)] w fun e w' => e = .returned (.bool (!ah y x)) ∧ Below w.heap.size w w' := by
  have hlt := World.block_lt_of_cell? _ _ ha
  obtain ⟨g0, g1, g2⟩ := hx.got
  have hlx := hx.lt
  have hB0 := since_alloc (Below.refl w.heap.size w) (.cells y.cells.toArray 133)
  have HP := Lib.hid (hp y x _ hB0)
  clear hp hx
  unfold Po.val
  go_enter Try.func157, Try.ntmps157
  go_wp2_with fail
  rw [hF, Oper.upon_enter]
  refine HP.out.mono ?_
  rintro e w1 ⟨rfl, hb1⟩
  have hB1 := since_step hB0 hb1
  clear hb1
  obtain ⟨q, hq⟩ : ∃ q, ah y x = q := ⟨_, rfl⟩
  have HQ := Lib.hid hq
  rw [HQ.out]
  clear hq
  cases q <;> (go_wp2_with fail; go_ret; refine ⟨retB ?_, hB1⟩; rw [HQ.out]; rfl)
theorem tells_put1_po (AH : Nat) (caps : Array Value) (ah : Po → Po → Bool) (x : Po) (ba bx : Nat) (w : World) (hF : Ent Try.prog AH) (hp : Po.Tells2 AH caps ah w.heap.size w) (hx : Po.Bx w bx x) (ha : w.cell? ⟨ba, 0, none⟩ = some (.func (.func AH) #[] caps)) :
    Po.Tells 157 #[.pointer (some ⟨ba, 0, none⟩), .pointer (some ⟨bx, 0, none⟩)] (fun y => !ah y x) w.heap.size w := by
  intro y W hW
  exact put1_po AH caps ah x y ba bx W hF (hp.below hW hW.size) (hx.below hW) ((hW.cell (p := ⟨ba, 0, none⟩) (World.block_lt_of_cell? _ _ ha)).trans ha)
theorem ent_put1_po : Ent Try.prog 157 := Ent.of (by kernel_rfl)
set_option maxHeartbeats 4000000 in
set_option maxRecDepth 100000 in
theorem put_po (A : Option Addr) (cap : Nat) (l : List Po) (x : Po) (AH : Nat) (caps : Array Value) (ah : Po → Po → Bool) (w : World) (hl : l.length ≤ 1000000) (hs : Sl w A (rc Po.cells l)) (hF : Ent Try.prog AH) (hp : Po.Tells2 AH caps ah w.heap.size w) :
    Calls Try.prog 100 #[.slice A l.length cap, x.val, .func (.func AH) #[] caps] w fun e w' =>
      (∃ A' c', e = .returned (.slice A' (putL ah l x).length c') ∧ w'.ownsRow w.heap.size 133 3 (.slice A' (putL ah l x).length c') (putL ah l x).length (rc Po.cells (putL ah l x))) ∧ Below w.heap.size w w' := by
  have hB0 : Below w.heap.size w ((w.alloc (.cells #[.int .i64 x.ac, .int .i64 x.cl, .slice x.lg x.lgL x.lgC] 133)).alloc (.cells #[.func (.func AH) #[] caps] 136)) := since_alloc (since_alloc (Below.refl _ _) _) _
  have hx0 : Po.Bx ((w.alloc (.cells #[.int .i64 x.ac, .int .i64 x.cl, .slice x.lg x.lgL x.lgC] 133)).alloc (.cells #[.func (.func AH) #[] caps] 136)) w.heap.size x := (Po.Bx.new w x).below ((Below.refl _ _).alloc (Nat.le_refl _) (.cells #[.func (.func AH) #[] caps] 136))
  have ha0 : ((w.alloc (.cells #[.int .i64 x.ac, .int .i64 x.cl, .slice x.lg x.lgL x.lgC] 133)).alloc (.cells #[.func (.func AH) #[] caps] 136)).cell? ⟨w.heap.size + 1, 0, none⟩ = some (.func (.func AH) #[] caps) := by
    have := World.cell?_alloc_new (w.alloc (.cells #[.int .i64 x.ac, .int .i64 x.cl, .slice x.lg x.lgL x.lgC] 133)) #[.func (.func AH) #[] caps] 136 0
    rw [World.size_alloc] at this
    rw [this]; rfl
  have hs0 := (hs.alloc (.cells #[.int .i64 x.ac, .int .i64 x.cl, .slice x.lg x.lgL x.lgC] 133)).alloc (.cells #[.func (.func AH) #[] caps] 136)
  unfold Po.val
  go_enter Try.func100, Try.ntmps100
  go_upto_region 1 with fail
  have hx1 : w.heap.size + 1 < ((w.alloc (.cells #[.int .i64 x.ac, .int .i64 x.cl, .slice x.lg x.lgL x.lgC] 133)).alloc (.cells #[.func (.func AH) #[] caps] 136)).heap.size := by simp
  have hp0 := hp.below hB0 (C := ((w.alloc (.cells #[.int .i64 x.ac, .int .i64 x.cl, .slice x.lg x.lgL x.lgC] 133)).alloc (.cells #[.func (.func AH) #[] caps] 136)).heap.size) (by simp; omega)
  generalize hWW : ((w.alloc (.cells #[.int .i64 x.ac, .int .i64 x.cl, .slice x.lg x.lgL x.lgC] 133)).alloc (.cells #[.func (.func AH) #[] caps] 136)) = W0 at *
  clear hWW
  have HIX := Lib.hid (index_po A cap l 157 #[.pointer (some ⟨w.heap.size + 1, 0, none⟩), .pointer (some ⟨w.heap.size, 0, none⟩)] (fun y => !ah y x) W0 hl hs0 ent_put1_po (tells_put1_po AH caps ah x (w.heap.size + 1) w.heap.size W0 hF hp0 hx0 ha0))
  go_wp2_with fail
  refine HIX.out.mono ?_
  rintro e W ⟨rfl, hb1⟩
  have hx2 := hx0.below hb1
  have ha2 := (hb1.cell (p := ⟨w.heap.size + 1, 0, none⟩) hx1).trans ha0
  have hs2 := hs0.below hb1
  have hp2 := hp0.below hb1 (Nat.le_trans (Nat.le_refl _) hb1.size)
  have hB2 := since_step hB0 hb1
  have hx3 : w.heap.size + 1 < W.heap.size := Nat.lt_of_lt_of_le hx1 hb1.size
  clear hp0 hs0 ha0 hx0 hx1 hb1 HIX hs hp hB0
  have HXB : Hid (∀ V, Below W.heap.size W V → Po.Bx V w.heap.size x) := Lib.hid fun V hV => hx2.below hV
  have HAB : Hid (∀ V, Below W.heap.size W V → V.cell? ⟨w.heap.size + 1, 0, none⟩ = some (.func (.func AH) #[] caps)) := Lib.hid fun V hV => (hV.cell (p := ⟨w.heap.size + 1, 0, none⟩) hx3).trans ha2
  have HSB : Hid (∀ V, Below W.heap.size W V → Sl V A (rc Po.cells l)) := Lib.hid fun V hV => hs2.below hV
  have HPB : Hid (∀ V, Below W.heap.size W V → ∀ a b, Calls Try.prog AH (#[a.val, b.val] ++ caps) V fun e w' => e = .returned (.bool (ah a b)) ∧ Below V.heap.size V w') := Lib.hid fun V hV a b => hp2 a b V hV
  have hBW : w.heap.size ≤ W.heap.size := by omega
  rcases atL_cases (fun y => !ah y x) l with ⟨h0, hno⟩ | ⟨k, hk, h0, hpk, hno⟩
  · rw [h0]
    have HPL := Lib.hid (putL_none (ah := ah) (x := x) hno)
    clear h0 hno hx2 ha2 hs2 hp2
    go_wp2_with fail
    refine wp_region_held_drew (S := (fun V => Below W.heap.size W V)) (by kernel_rfl) (by exact (Below.refl _ _).drew) (fun hHeld => ?_)
    refine wpAnyH_take (i := 0) (oi := { dst := some 13, op := _, type := _, pos := _, after := _, guard := _ }) (v := ?_) rfl (by kernel_rfl) (by kernel_rfl) (by kernel_rfl) (fun _ _ _ h => h) (Or.inl ⟨by rfl, ?_⟩) hHeld ?_
    rotate_left
    · (intro w hSw; obtain ⟨g0, g1, g2⟩ := (HXB.out _ hSw).got; have ha9 := HAB.out _ hSw; go_simp <;> with_reducible rfl)
    try simp only [Act.put, List.setIfInBounds_toArray, List.set_cons_zero, List.set_cons_succ]
    refine wpAnyH_take (i := 2) (oi := { dst := some 15, op := _, type := _, pos := _, after := _, guard := _ }) (v := ?_) rfl (by kernel_rfl) (by kernel_rfl) (by kernel_rfl) (fun _ _ _ h => h) (Or.inl ⟨by rfl, ?_⟩) hHeld ?_
    rotate_left
    · (intro w hSw; obtain ⟨g0, g1, g2⟩ := (HXB.out _ hSw).got; have ha9 := HAB.out _ hSw; go_simp <;> with_reducible rfl)
    try simp only [Act.put, List.setIfInBounds_toArray, List.set_cons_zero, List.set_cons_succ]
    refine wpAnyH_ready (rs := [1, 3]) (by kernel_rfl) (by simp) ?_
    refine AllReadyH.cons (o := { dst := some 14, op := _, type := _, pos := _, after := _, guard := _ }) rfl (fun K hK => ?_) (AllReadyH.cons (o := { dst := some 16, op := _, type := _, pos := _, after := _, guard := _ }) rfl (fun K hK => ?_) AllReadyH.nil)
    · go_simp
      refine (clone_po A cap l _ hl (HSB.out _ hHeld)).mono ?_
      rintro e u1 ⟨⟨A1, c1, rfl, hown0⟩, hk1⟩
      have hKeep := since_step hHeld hk1
      have hown1 := own_base hown0 hHeld.size
      go_wp2_with fail
      refine hK.out _ _ (by (try dsimp only); exact hKeep) (fun hHeld => ?_)
      clear hK K hKeep
      try simp only [Act.put, List.setIfInBounds_toArray, List.set_cons_zero, List.set_cons_succ]
      refine wpAnyH_ready (rs := [3]) (by kernel_rfl) (by simp) ?_
      refine AllReadyH.cons (o := { dst := some 16, op := _, type := _, pos := _, after := _, guard := _ }) rfl (fun K hK => ?_) AllReadyH.nil
      have hHd := hHeld
      obtain ⟨g0, g1, g2⟩ := (HXB.out _ hHd).got; have ha9 := HAB.out _ hHd
      have hA := since_alloc hHeld (.cells x.cells.toArray 133)
      have hKeep := hA
      have HV := Po.Bx.new u1 x
      have hown1 := hown1.alloc (.cells x.cells.toArray 133)
      skip
      go_simp
      refine hK.out _ _ (by (try dsimp only); exact hKeep) (fun hHeld => ?_)
      clear hK K hKeep
      try simp only [Act.put, List.setIfInBounds_toArray, List.set_cons_zero, List.set_cons_succ]
      refine wpAnyH_ready (rs := [4]) (by kernel_rfl) (by simp) ?_
      refine AllReadyH.cons (o := { dst := some 17, op := _, type := _, pos := _, after := _, guard := _ }) rfl (fun K hK => ?_) AllReadyH.nil
      refine step_app rfl (.tmp 14) (.tmp 16) rfl EPo (n := l.length) (m := 1) (c := c1) (d := 1) (A := A1) (B := some ⟨u1.heap.size, 0, none⟩) (by simp [Act.eval, Act.put]; done) (by simp [Act.eval, Act.put]; done) hown1 (by rw [Po.len]) HV.sl (Po.one x) (by unfold maxLen; omega) (by omega) hHeld.size ?_
      intro A2 c2 u2 hown2 hg2 hb2
      have hKeep := since_step (Below.refl W.heap.size W) (hHeld.trans hb2)
      refine hK.out _ _ (by (try dsimp only); exact hKeep) (fun hHeld => ?_)
      clear hK K hKeep
      try simp only [Act.put, List.setIfInBounds_toArray, List.set_cons_zero, List.set_cons_succ]
      refine wpAnyH_take (i := 5) (oi := { dst := some 6, op := _, type := _, pos := _, after := _, guard := _ }) (v := ?_) rfl (by kernel_rfl) (by kernel_rfl) (by kernel_rfl) (fun _ _ _ h => h) (Or.inl ⟨by rfl, ?_⟩) hHeld ?_
      rotate_left
      · (intro w hSw; obtain ⟨g0, g1, g2⟩ := (HXB.out _ hSw).got; have ha9 := HAB.out _ hSw; go_simp <;> with_reducible rfl)
      try simp only [Act.put, List.setIfInBounds_toArray, List.set_cons_zero, List.set_cons_succ]
      refine wpAnyH_done (by kernel_rfl) ?_ _
      have hB3 := hB2.trans (hHeld.mono hBW)
      go_wp2_with fail
      go_ret
      refine ⟨⟨A2, c2, ?_, ?_⟩, hB3⟩
      · rw [HPL.out, List.length_append]; rfl
      · rw [HPL.out, List.length_append, rc_append]
        have := own_base hown2 hBW
        simpa [rc] using this
    · have hHd := hHeld
      obtain ⟨g0, g1, g2⟩ := (HXB.out _ hHd).got; have ha9 := HAB.out _ hHd
      have hA := since_alloc hHeld (.cells x.cells.toArray 133)
      have hKeep := hA
      have HV := Po.Bx.new W.drew x
      skip
      go_simp
      refine hK.out _ _ (by (try dsimp only); exact hKeep) (fun hHeld => ?_)
      clear hK K hKeep
      try simp only [Act.put, List.setIfInBounds_toArray, List.set_cons_zero, List.set_cons_succ]
      refine wpAnyH_ready (rs := [1]) (by kernel_rfl) (by simp) ?_
      refine AllReadyH.cons (o := { dst := some 14, op := _, type := _, pos := _, after := _, guard := _ }) rfl (fun K hK => ?_) AllReadyH.nil
      go_simp
      refine (clone_po A cap l _ hl (HSB.out _ hHeld)).mono ?_
      rintro e u1 ⟨⟨A1, c1, rfl, hown0⟩, hk1⟩
      have hKeep := since_step hHeld hk1
      have hown1 := own_base hown0 hHeld.size
      have hvb1 := HV.lt
      have HV := HV.below hk1
      go_wp2_with fail
      refine hK.out _ _ (by (try dsimp only); exact hKeep) (fun hHeld => ?_)
      clear hK K hKeep
      try simp only [Act.put, List.setIfInBounds_toArray, List.set_cons_zero, List.set_cons_succ]
      refine wpAnyH_ready (rs := [4]) (by kernel_rfl) (by simp) ?_
      refine AllReadyH.cons (o := { dst := some 17, op := _, type := _, pos := _, after := _, guard := _ }) rfl (fun K hK => ?_) AllReadyH.nil
      refine step_app rfl (.tmp 14) (.tmp 16) rfl EPo (n := l.length) (m := 1) (c := c1) (d := 1) (A := A1) (B := some ⟨W.drew.heap.size, 0, none⟩) (by simp [Act.eval, Act.put]; done) (by simp [Act.eval, Act.put]; done) hown1 (by rw [Po.len]) HV.sl (Po.one x) (by unfold maxLen; omega) (by omega) hHeld.size ?_
      intro A2 c2 u2 hown2 hg2 hb2
      have hKeep := since_step (Below.refl W.heap.size W) (hHeld.trans hb2)
      refine hK.out _ _ (by (try dsimp only); exact hKeep) (fun hHeld => ?_)
      clear hK K hKeep
      try simp only [Act.put, List.setIfInBounds_toArray, List.set_cons_zero, List.set_cons_succ]
      refine wpAnyH_take (i := 5) (oi := { dst := some 6, op := _, type := _, pos := _, after := _, guard := _ }) (v := ?_) rfl (by kernel_rfl) (by kernel_rfl) (by kernel_rfl) (fun _ _ _ h => h) (Or.inl ⟨by rfl, ?_⟩) hHeld ?_
      rotate_left
      · (intro w hSw; obtain ⟨g0, g1, g2⟩ := (HXB.out _ hSw).got; have ha9 := HAB.out _ hSw; go_simp <;> with_reducible rfl)
      try simp only [Act.put, List.setIfInBounds_toArray, List.set_cons_zero, List.set_cons_succ]
      refine wpAnyH_done (by kernel_rfl) ?_ _
      have hB3 := hB2.trans (hHeld.mono hBW)
      go_wp2_with fail
      go_ret
      refine ⟨⟨A2, c2, ?_, ?_⟩, hB3⟩
      · rw [HPL.out, List.length_append]; rfl
      · rw [HPL.out, List.length_append, rc_append]
        have := own_base hown2 hBW
        simpa [rc] using this
  · rw [h0]
    obtain ⟨q, hq⟩ : ∃ q, ah x l[k] = q := ⟨_, rfl⟩
    have HPL := Lib.hid (putL_some (ah := ah) (x := x) hk (fun j hj => hno j hj) hpk)
    have HQ := Lib.hid hq
    have hk64 : (k : Int) < (l.length : Int) := by omega
    have hk0 : ¬ ((k : Int) < 0) := by omega
    obtain ⟨b, o, rfl, hbw, hg⟩ := hs2.po hk
    have hbW : b < W.heap.size := hbw
    have HEL : Hid (∀ V, Below W.heap.size W V → l[k].at V b (o + k * 3)) := Lib.hid fun V hV => Po.at_keep (w := W) hg fun i => hV.cell (p := ⟨b, i, none⟩) hbW
    clear h0 hno hx2 ha2 hs2 hp2 hpk hg hbw hq
    go_wp2_with fail
    refine wp_region_held_drew (S := (fun V => Below W.heap.size W V)) (by kernel_rfl) (by exact (Below.refl _ _).drew) (fun hHeld => ?_)
    refine wpAnyH_take (i := 0) (oi := { dst := some 18, op := _, type := _, pos := _, after := _, guard := _ }) (v := ?_) rfl (by kernel_rfl) (by kernel_rfl) (by kernel_rfl) (fun _ _ _ h => h) (Or.inl ⟨by rfl, ?_⟩) hHeld ?_
    rotate_left
    · (intro w hSw; obtain ⟨g0, g1, g2⟩ := (HXB.out _ hSw).got; have ha9 := HAB.out _ hSw; obtain ⟨h0, h1, h2⟩ := HEL.out _ hSw; go_simp <;> with_reducible rfl)
    try simp only [Act.put, List.setIfInBounds_toArray, List.set_cons_zero, List.set_cons_succ]
    refine wpAnyH_take (i := 1) (oi := { dst := some 19, op := _, type := _, pos := _, after := _, guard := _ }) (v := ?_) rfl (by kernel_rfl) (by kernel_rfl) (by kernel_rfl) (fun _ _ _ h => h) (Or.inl ⟨by rfl, ?_⟩) hHeld ?_
    rotate_left
    · (intro w hSw; obtain ⟨g0, g1, g2⟩ := (HXB.out _ hSw).got; have ha9 := HAB.out _ hSw; obtain ⟨h0, h1, h2⟩ := HEL.out _ hSw; go_simp <;> with_reducible rfl)
    try simp only [Act.put, List.setIfInBounds_toArray, List.set_cons_zero, List.set_cons_succ]
    refine wpAnyH_take (i := 2) (oi := { dst := some 20, op := _, type := _, pos := _, after := _, guard := _ }) (v := ?_) rfl (by kernel_rfl) (by kernel_rfl) (by kernel_rfl) (fun _ _ _ h => h) (Or.inl ⟨by rfl, ?_⟩) hHeld ?_
    rotate_left
    · (intro w hSw; obtain ⟨g0, g1, g2⟩ := (HXB.out _ hSw).got; have ha9 := HAB.out _ hSw; obtain ⟨h0, h1, h2⟩ := HEL.out _ hSw; go_simp <;> with_reducible rfl)
    try simp only [Act.put, List.setIfInBounds_toArray, List.set_cons_zero, List.set_cons_succ]
    refine wpAnyH_take (i := 3) (oi := { dst := some 21, op := _, type := _, pos := _, after := _, guard := _ }) (v := ?_) rfl (by kernel_rfl) (by kernel_rfl) (by kernel_rfl) (fun _ _ _ h => h) (Or.inl ⟨by rfl, ?_⟩) hHeld ?_
    rotate_left
    · (intro w hSw; obtain ⟨g0, g1, g2⟩ := (HXB.out _ hSw).got; have ha9 := HAB.out _ hSw; obtain ⟨h0, h1, h2⟩ := HEL.out _ hSw; go_simp <;> with_reducible rfl)
    try simp only [Act.put, List.setIfInBounds_toArray, List.set_cons_zero, List.set_cons_succ]
    refine wpAnyH_take (i := 4) (oi := { dst := some 22, op := _, type := _, pos := _, after := _, guard := _ }) (v := ?_) rfl (by kernel_rfl) (by kernel_rfl) (by kernel_rfl) (fun _ _ _ h => h) (Or.inl ⟨by rfl, ?_⟩) hHeld ?_
    rotate_left
    · (intro w hSw; obtain ⟨g0, g1, g2⟩ := (HXB.out _ hSw).got; have ha9 := HAB.out _ hSw; obtain ⟨h0, h1, h2⟩ := HEL.out _ hSw; go_simp <;> with_reducible rfl)
    try simp only [Act.put, List.setIfInBounds_toArray, List.set_cons_zero, List.set_cons_succ]
    refine wpAnyH_take (i := 5) (oi := { dst := some 23, op := _, type := _, pos := _, after := _, guard := _ }) (v := ?_) rfl (by kernel_rfl) (by kernel_rfl) (by kernel_rfl) (fun _ _ _ h => h) (Or.inl ⟨by rfl, ?_⟩) hHeld ?_
    rotate_left
    · (intro w hSw; obtain ⟨g0, g1, g2⟩ := (HXB.out _ hSw).got; have ha9 := HAB.out _ hSw; obtain ⟨h0, h1, h2⟩ := HEL.out _ hSw; go_simp <;> with_reducible rfl)
    try simp only [Act.put, List.setIfInBounds_toArray, List.set_cons_zero, List.set_cons_succ]
    refine wpAnyH_ready (rs := [6]) (by kernel_rfl) (by simp) ?_
    refine AllReadyH.cons (o := { dst := some 24, op := _, type := _, pos := _, after := _, guard := _ }) rfl (fun K hK => ?_) AllReadyH.nil
    go_simp
    rw [hF, Oper.upon_enter]
    refine (HPB.out _ hHeld x l[k]).mono ?_
    rintro e u1 ⟨rfl, hk1⟩
    have hKeep := since_step hHeld hk1
    rw [HQ.out]
    go_wp2_with fail
    refine hK.out _ _ (by (try dsimp only); exact hKeep) (fun hHeld => ?_)
    clear hK K hKeep
    try simp only [Act.put, List.setIfInBounds_toArray, List.set_cons_zero, List.set_cons_succ]
    refine wpAnyH_done (by kernel_rfl) ?_ _
    have hHW := hHeld
    generalize hUU : u1 = U at hHeld hHW
    cases q with
    | true =>
      subst hUU
      obtain ⟨U, hU⟩ : ∃ U, U = u1 := ⟨_, rfl⟩
      rw [← hU] at hHeld ⊢
      clear hU
      go_wp2_with fail
      refine wp_region_held_drew (S := (fun V => Below W.heap.size W V)) (by kernel_rfl) (by exact hHeld.drew) (fun hHeld => ?_)
      refine wpAnyH_take (i := 0) (oi := { dst := some 25, op := _, type := _, pos := _, after := _, guard := _ }) (v := ?_) rfl (by kernel_rfl) (by kernel_rfl) (by kernel_rfl) (fun _ _ _ h => h) (Or.inl ⟨by rfl, ?_⟩) hHeld ?_
      rotate_left
      · (intro w hSw; obtain ⟨g0, g1, g2⟩ := (HXB.out _ hSw).got; have ha9 := HAB.out _ hSw; go_simp <;> with_reducible rfl)
      try simp only [Act.put, List.setIfInBounds_toArray, List.set_cons_zero, List.set_cons_succ]
      refine wpAnyH_take (i := 2) (oi := { dst := some 27, op := _, type := _, pos := _, after := _, guard := _ }) (v := ?_) rfl (by kernel_rfl) (by kernel_rfl) (by kernel_rfl) (fun _ _ _ h => h) (Or.inl ⟨by rfl, ?_⟩) hHeld ?_
      rotate_left
      · (intro w hSw; obtain ⟨g0, g1, g2⟩ := (HXB.out _ hSw).got; have ha9 := HAB.out _ hSw; go_simp <;> with_reducible rfl)
      try simp only [Act.put, List.setIfInBounds_toArray, List.set_cons_zero, List.set_cons_succ]
      refine wpAnyH_take (i := 3) (oi := { dst := some 28, op := _, type := _, pos := _, after := _, guard := _ }) (v := ?_) rfl (by kernel_rfl) (by kernel_rfl) (by kernel_rfl) (fun _ _ _ h => h) (Or.inl ⟨by rfl, ?_⟩) hHeld ?_
      rotate_left
      · (intro w hSw; obtain ⟨g0, g1, g2⟩ := (HXB.out _ hSw).got; have ha9 := HAB.out _ hSw; go_simp <;> with_reducible rfl)
      try simp only [Act.put, List.setIfInBounds_toArray, List.set_cons_zero, List.set_cons_succ]
      refine wpAnyH_ready (rs := [1, 4]) (by kernel_rfl) (by simp) ?_
      refine AllReadyH.cons (o := { dst := some 26, op := _, type := _, pos := _, after := _, guard := _ }) rfl (fun K hK => ?_) (AllReadyH.cons (o := { dst := some 29, op := _, type := _, pos := _, after := _, guard := _ }) rfl (fun K hK => ?_) AllReadyH.nil)
      · go_simp
        refine (clone_po (some ⟨b, o, none⟩) cap l _ hl (HSB.out _ hHeld)).mono ?_
        rintro e v1 ⟨⟨A1, c1, rfl, hown0⟩, hk1⟩
        have hKeep := since_step hHeld hk1
        obtain ⟨gb, rfl, hgb1, hgb2, hgb3⟩ := own_at hown0 (by omega)
        have hown1 := own_base hown0 hHeld.size
        go_wp2_with fail
        refine hK.out _ _ (by (try dsimp only); exact hKeep) (fun hHeld => ?_)
        clear hK K hKeep
        try simp only [Act.put, List.setIfInBounds_toArray, List.set_cons_zero, List.set_cons_succ]
        refine wpAnyH_ready (rs := [4]) (by kernel_rfl) (by simp) ?_
        refine AllReadyH.cons (o := { dst := some 29, op := _, type := _, pos := _, after := _, guard := _ }) rfl (fun K hK => ?_) AllReadyH.nil
        have hHd := hHeld
        obtain ⟨g0, g1, g2⟩ := (HXB.out _ hHd).got; have ha9 := HAB.out _ hHd
        have hA := since_alloc hHeld (.cells x.cells.toArray 133)
        have hKeep := hA
        have HV := Po.Bx.new v1 x
        have hown1 := hown1.alloc (.cells x.cells.toArray 133)
        have hne : v1.heap.size ≠ gb := by omega
        skip
        go_simp
        refine hK.out _ _ (by (try dsimp only); exact hKeep) (fun hHeld => ?_)
        clear hK K hKeep
        try simp only [Act.put, List.setIfInBounds_toArray, List.set_cons_zero, List.set_cons_succ]
        refine wpAnyH_ready (rs := [5]) (by kernel_rfl) (by simp) ?_
        refine AllReadyH.cons (o := { dst := some 30, op := _, type := _, pos := _, after := _, guard := _ }) rfl (fun K hK => ?_) AllReadyH.nil
        go_simp
        refine (insert_po W.heap.size gb k l.length c1 (v1.heap.size) 1 l x _ rfl hl hk hown1 HV.hp hne hHeld.size).mono ?_
        rintro e v2 ⟨⟨A2, c2, rfl, hown2⟩, hb2⟩
        have hKeep := since_step (Below.refl W.heap.size W) (hHeld.trans hb2)
        go_wp2_with fail
        refine hK.out _ _ (by (try dsimp only); exact hKeep) (fun hHeld => ?_)
        clear hK K hKeep
        try simp only [Act.put, List.setIfInBounds_toArray, List.set_cons_zero, List.set_cons_succ]
        refine wpAnyH_take (i := 6) (oi := { dst := some 6, op := _, type := _, pos := _, after := _, guard := _ }) (v := ?_) rfl (by kernel_rfl) (by kernel_rfl) (by kernel_rfl) (fun _ _ _ h => h) (Or.inl ⟨by rfl, ?_⟩) hHeld ?_
        rotate_left
        · (intro w hSw; obtain ⟨g0, g1, g2⟩ := (HXB.out _ hSw).got; have ha9 := HAB.out _ hSw; go_simp <;> with_reducible rfl)
        try simp only [Act.put, List.setIfInBounds_toArray, List.set_cons_zero, List.set_cons_succ]
        refine wpAnyH_done (by kernel_rfl) ?_ _
        have hB3 := hB2.trans (hHeld.mono hBW)
        go_wp2_with fail
        go_ret
        have hln : (l.take k ++ x :: l.drop k).length = l.length + 1 := by simp; omega
        refine ⟨⟨A2, c2, ?_, ?_⟩, hB3⟩
        · rw [HPL.out, HQ.out, if_pos rfl, hln]; rfl
        · rw [HPL.out, HQ.out, if_pos rfl, hln]
          exact own_base hown2 hBW
      · have hHd := hHeld
        obtain ⟨g0, g1, g2⟩ := (HXB.out _ hHd).got; have ha9 := HAB.out _ hHd
        have hA := since_alloc hHeld (.cells x.cells.toArray 133)
        have hKeep := hA
        have HV := Po.Bx.new U.drew x
        skip
        go_simp
        refine hK.out _ _ (by (try dsimp only); exact hKeep) (fun hHeld => ?_)
        clear hK K hKeep
        try simp only [Act.put, List.setIfInBounds_toArray, List.set_cons_zero, List.set_cons_succ]
        refine wpAnyH_ready (rs := [1]) (by kernel_rfl) (by simp) ?_
        refine AllReadyH.cons (o := { dst := some 26, op := _, type := _, pos := _, after := _, guard := _ }) rfl (fun K hK => ?_) AllReadyH.nil
        go_simp
        refine (clone_po (some ⟨b, o, none⟩) cap l _ hl (HSB.out _ hHeld)).mono ?_
        rintro e v1 ⟨⟨A1, c1, rfl, hown0⟩, hk1⟩
        have hKeep := since_step hHeld hk1
        obtain ⟨gb, rfl, hgb1, hgb2, hgb3⟩ := own_at hown0 (by omega)
        have hown1 := own_base hown0 hHeld.size
        have hvb1 := HV.lt
        have hne : U.drew.heap.size ≠ gb := by have h1 := hgb1; simp only [World.size_drew, World.size_alloc] at h1 ⊢; omega
        have HV := HV.below hk1
        go_wp2_with fail
        refine hK.out _ _ (by (try dsimp only); exact hKeep) (fun hHeld => ?_)
        clear hK K hKeep
        try simp only [Act.put, List.setIfInBounds_toArray, List.set_cons_zero, List.set_cons_succ]
        refine wpAnyH_ready (rs := [5]) (by kernel_rfl) (by simp) ?_
        refine AllReadyH.cons (o := { dst := some 30, op := _, type := _, pos := _, after := _, guard := _ }) rfl (fun K hK => ?_) AllReadyH.nil
        go_simp
        refine (insert_po W.heap.size gb k l.length c1 (U.drew.heap.size) 1 l x _ rfl hl hk hown1 HV.hp hne hHeld.size).mono ?_
        rintro e v2 ⟨⟨A2, c2, rfl, hown2⟩, hb2⟩
        have hKeep := since_step (Below.refl W.heap.size W) (hHeld.trans hb2)
        go_wp2_with fail
        refine hK.out _ _ (by (try dsimp only); exact hKeep) (fun hHeld => ?_)
        clear hK K hKeep
        try simp only [Act.put, List.setIfInBounds_toArray, List.set_cons_zero, List.set_cons_succ]
        refine wpAnyH_take (i := 6) (oi := { dst := some 6, op := _, type := _, pos := _, after := _, guard := _ }) (v := ?_) rfl (by kernel_rfl) (by kernel_rfl) (by kernel_rfl) (fun _ _ _ h => h) (Or.inl ⟨by rfl, ?_⟩) hHeld ?_
        rotate_left
        · (intro w hSw; obtain ⟨g0, g1, g2⟩ := (HXB.out _ hSw).got; have ha9 := HAB.out _ hSw; go_simp <;> with_reducible rfl)
        try simp only [Act.put, List.setIfInBounds_toArray, List.set_cons_zero, List.set_cons_succ]
        refine wpAnyH_done (by kernel_rfl) ?_ _
        have hB3 := hB2.trans (hHeld.mono hBW)
        go_wp2_with fail
        go_ret
        have hln : (l.take k ++ x :: l.drop k).length = l.length + 1 := by simp; omega
        refine ⟨⟨A2, c2, ?_, ?_⟩, hB3⟩
        · rw [HPL.out, HQ.out, if_pos rfl, hln]; rfl
        · rw [HPL.out, HQ.out, if_pos rfl, hln]
          exact own_base hown2 hBW
    | false =>
      subst hUU
      obtain ⟨g0, g1, g2⟩ := (HXB.out _ hHeld).got
      go_wp2_with fail
      refine (set_po (some ⟨b, o, none⟩) cap l k x _ hl hk (HSB.out _ hHeld)).mono ?_
      rintro e v2 ⟨⟨A2, c2, rfl, hown2⟩, hb2⟩
      have hB3 := hB2.trans ((since_step hHeld hb2).mono hBW)
      go_wp2_with fail
      go_ret
      refine ⟨⟨A2, c2, ?_, ?_⟩, hB3⟩
      · rw [HPL.out, HQ.out, if_neg (by decide), List.length_set]; rfl
      · rw [HPL.out, HQ.out, if_neg (by decide), List.length_set]
        exact own_base hown2 (Nat.le_trans hBW hHeld.size)
end Go.Proofs.Ytldnponbkhgijaa
end
section
namespace Go.Proofs.Ytldnponbkhgijaa
open Go.ChangeShapes Go.WideShapes Go.ChangeAt Go.RowKit
set_option linter.unusedVariables false
set_option linter.unusedSimpArgs false

structure Lg where
  (ins : Int) (qty : Int)
deriving DecidableEq
def Lg.cells (g : Lg) : List Value := [.int .i64 g.ins, .int .i64 g.qty]
def Lg.val (g : Lg) : Value := .agg #[.int .i64 g.ins, .int .i64 g.qty]
def Lg.zero : Lg := ⟨0, 0⟩
theorem Lg.len (g : Lg) : g.cells.length = 2 := rfl
theorem Lg.one (g : Lg) : ∀ u ∈ g.cells, u.oneCell' = true := by
  intro u hu
  simp only [Lg.cells, List.mem_cons, List.not_mem_nil, or_false] at hu
  rcases hu with h | h <;> subst h <;> rfl
def Lg.at (g : Lg) (w : World) (b o : Nat) : Prop :=
  w.cell? ⟨b, o, none⟩ = some (.int .i64 g.ins) ∧ w.cell? ⟨b, o + 1, none⟩ = some (.int .i64 g.qty)
theorem Lg.at_of {w : World} {b o : Nat} {g : Lg} (h : ∀ j u, g.cells[j]? = some u → w.cell? ⟨b, o + j, none⟩ = some u) : g.at w b o :=
  ⟨h 0 _ rfl, h 1 _ rfl⟩
theorem Lg.at_keep {w w' : World} {b o : Nat} {g : Lg} (h : g.at w b o) (k : ∀ i, w'.cell? ⟨b, i, none⟩ = w.cell? ⟨b, i, none⟩) : g.at w' b o := by
  unfold Lg.at at *
  simp only [k]
  exact h
theorem Sl.lg {w : World} {A : Option Addr} {l : List Lg} (h : Sl w A (rc Lg.cells l)) {k : Nat} (hk : k < l.length) : ∃ b o, A = some ⟨b, o, none⟩ ∧ b < w.heap.size ∧ l[k].at w b (o + k * 2) := by
  obtain ⟨b, o, hA, hb, hc⟩ := Sl.elem (m := 2) Lg.len (by decide) h hk
  exact ⟨b, o, hA, hb, Lg.at_of hc⟩
theorem ELg : Elem Try.prog 51 138 2 16 := Elem.mk' (z := .agg #[.int .i64 0, .int .i64 0]) (by kernel_rfl) (by kernel_rfl) (by decide) (by decide)
def Lg.Tells (F : Nat) (caps : Array Value) (p : Lg → Bool) (B : Nat) (w : World) : Prop :=
  ∀ (g : Lg) (W : World), Below B w W → Calls Try.prog F (#[g.val] ++ caps) W fun e w' => e = .returned (.bool (p g)) ∧ Below W.heap.size W w'
theorem Lg.Tells.below {F : Nat} {caps : Array Value} {p : Lg → Bool} {B : Nat} {w w1 : World} (h : Lg.Tells F caps p B w) (hb : Below B w w1) {C : Nat} (hC : B ≤ C) : Lg.Tells F caps p C w1 :=
  fun g W hW => h g W (hb.trans (hW.mono hC))
set_option maxHeartbeats 1000000 in
set_option maxRecDepth 100000 in
theorem index_lg (A : Option Addr) (cap : Nat) (l : List Lg) (F : Nat) (caps : Array Value) (p : Lg → Bool) (w : World) (hl : l.length ≤ 1000000) (hs : Sl w A (rc Lg.cells l)) (hF : Ent Try.prog F) (hp : Lg.Tells F caps p w.heap.size w) :
    Calls Try.prog 196 #[.slice A l.length cap, .func (.func F) #[] caps] w fun e w' => e = .returned (.int .i64 (atL p l)) ∧ Below w.heap.size w w' := by
  go_enter Try.func196, Try.ntmps196
  go_wp2
  go_loopw [8] (fun i wr => ∃ k : Nat, k ≤ l.length ∧ i = .int .i64 k ∧ (∀ j, (hj : j < l.length) → j < k → p l[j] = false) ∧ Below w.heap.size w wr) (fun i _ => l.length - (intOf i).toNat)
  case atStart => exact ⟨0, by omega, rfl, fun j hj h => absurd h (by omega), Below.refl _ _⟩
  case round =>
    obtain ⟨k, hk, rfl, hno, hB⟩ := hrel
    by_cases hlt2 : k < l.length
    · obtain ⟨b, o, rfl, hbw, hg⟩ := hs.lg hlt2
      have hg1 : l[k].at wr b (o + k * 2) := Lg.at_keep (w := w) hg fun i => hB.cell (p := ⟨b, i, none⟩) hbw
      obtain ⟨g0, g1⟩ := hg1
      have hbr : b < wr.heap.size := Nat.lt_of_lt_of_le hbw hB.size
      have step := hp l[k] wr hB
      cases hq : p l[k] with
      | true =>
        have HQ := Lib.hid hq
        go_wp2_with fail
        rw [hF, Oper.upon_enter]
        refine step.mono ?_
        rintro e w1 ⟨rfl, hb1⟩
        have hB1 := since_step hB hb1
        clear hb1
        rw [HQ.out]
        go_wp2
        go_ret
        exact ⟨retI (atL_some hlt2 (fun j hj => hno j (by omega) hj) HQ.out).symm, hB1⟩
      | false =>
        have HQ := Lib.hid hq
        go_wp2_with fail
        rw [hF, Oper.upon_enter]
        refine step.mono ?_
        rintro e w1 ⟨rfl, hb1⟩
        have hB1 := since_step hB hb1
        clear hb1
        rw [HQ.out]
        go_wp2
        go_roundw
        case rel =>
          refine ⟨k + 1, by omega, by go_num, fun j hj hjk => ?_, hB1⟩
          rcases Nat.lt_or_ge j k with h | h
          · exact hno j hj h
          · obtain rfl : j = k := by omega
            exact HQ.out
        case measure => simp [intOf]; omega
    · go_wp2
      go_ret
      exact ⟨retI (atL_none fun j hj => hno j hj (by omega)).symm, hB⟩
set_option maxHeartbeats 1000000 in
set_option maxRecDepth 100000 in
theorem clone_lg (A : Option Addr) (cap : Nat) (l : List Lg) (w : World) (hl : l.length ≤ 1000000) (hs : Sl w A (rc Lg.cells l)) :
    Calls Try.prog 96 #[.slice A l.length cap] w fun e w' => (∃ A' c', e = .returned (.slice A' l.length c') ∧ w'.ownsRow w.heap.size 138 2 (.slice A' l.length c') l.length (rc Lg.cells l)) ∧ Below w.heap.size w w' := by
  cases A with
  | none =>
    have hn : l = [] := by
      cases l with
      | nil => rfl
      | cons g m => obtain ⟨b, o, e, _⟩ := hs.lg (k := 0) (by simp); cases e
    subst hn
    have hnil := fun w : World => Go.Lib.run_eql_slice_nil (P := Try.prog) w 51 138 none 0 cap 0 0 ELg.und
    go_enter Try.func96, Try.ntmps96
    go_wp2_with fail
    go_ret
    exact ⟨⟨none, 0, rfl, own_nil _ _ _⟩, Below.refl _ _⟩
  | some ad =>
    have hnil := fun w : World => Go.Lib.run_eql_slice_nil (P := Try.prog) w 51 138 (some ad) l.length cap 0 0 ELg.und
    go_enter Try.func96, Try.ntmps96
    go_wp2_with (first
      | (at_builtin; refine wpList_app rfl (.tmp 5) (.tmp 6) rfl ELg rfl rfl (World.ownsRow_made (w := w) #[] 0 (Nat.le_refl _) (Nat.zero_le _) rfl) (rc_length Lg.len l) (hs.alloc _) (rc_one Lg.one l) (by unfold maxLen; omega) (by omega) (by simp) ?_; intro A2 c2 w2 hown2 hg2 hb2; simp only [Nat.zero_add, List.nil_append] at hown2)
      | fail)
    refine bodyPost_ret (results_tmp rfl _ _ _) rfl ⟨⟨A2, c2, by simp, by simpa using hown2⟩, ?_⟩
    exact Below.trans ((Below.refl _ _).alloc (Nat.le_refl _) _) hb2
end Go.Proofs.Ytldnponbkhgijaa
end
section
namespace Go.Proofs.Ytldnponbkhgijaa
open Go.ChangeShapes Go.WideShapes Go.ChangeAt Go.RowKit
set_option linter.unusedVariables false
set_option linter.unusedSimpArgs false

def Lg.Df (p : Lg → Bool) (l : List Lg) (n c g B : Nat) (w : World) (i j : Value) (wr : World) : Prop :=
  ∃ (kk jj : Nat) (l' : List Lg), i = .int .i64 kk ∧ j = .int .i64 jj ∧ jj ≤ n ∧ kk < jj ∧ l'.length = n ∧ l'.take kk = (l.take jj).filter (fun g => !p g) ∧ (∀ t, jj ≤ t → l'[t]? = l[t]?) ∧
    wr.ownsRow B 138 2 (.slice (some ⟨g, 0, none⟩) n c) n (rc Lg.cells l') ∧ Below B w wr
set_option maxHeartbeats 1000000 in
set_option maxRecDepth 100000 in
theorem find_lg (A : Option Addr) (cap : Nat) (l : List Lg) (F : Nat) (caps : Array Value) (p : Lg → Bool) (w : World) (hl : l.length ≤ 1000000) (hs : Sl w A (rc Lg.cells l)) (hF : Ent Try.prog F) (hp : Lg.Tells F caps p w.heap.size w) :
    Calls Try.prog 160 #[.slice A l.length cap, .func (.func F) #[] caps] w fun e w' =>
      e = .returned (.tuple #[(pickL p Lg.zero l).val, .bool (l.find? p).isSome]) ∧ Below w.heap.size w w' := by
  have hB0 := since_alloc (Below.refl w.heap.size w) (.cells #[.int .i64 0, .int .i64 0] 138)
  have hidx := index_lg A cap l F caps p (w.alloc (.cells #[.int .i64 0, .int .i64 0] 138)) hl (hs.alloc _) hF (hp.below hB0 (by simp))
  have Bz := Bk.new w #[.int .i64 0, .int .i64 0] 138
  rcases atL_cases p l with ⟨h0, hno⟩ | ⟨k, hk, h0, hpk, hno⟩
  · rw [h0] at hidx
    have HF1 := Lib.hid (find_none hno)
    clear hno h0
    go_enter Try.func160, Try.ntmps160
    go_wp2_with fail
    refine hidx.mono ?_
    rintro e w1 ⟨rfl, hb1⟩
    have hB1 := since_step hB0 hb1
    have Bz := Bz.below hb1
    obtain ⟨lb, cb⟩ := id Bz
    have q0 := cb 0
    have q1 := cb 1
    simp at q0 q1
    clear cb
    have hfz : ∀ i, w1.frozen? ⟨w.heap.size, i, none⟩ = false := fun i => by rw [(hb1.frozen (p := ⟨w.heap.size, i, none⟩) (by simp))]; simp
    have hcs := @cell_set
    clear hb1 Bz hidx
    go_wp2_with fail
    refine bodyPost_ret (v := .tuple #[Lg.zero.val, .bool false]) ?_ rfl ⟨?_, ?_⟩
    · have hca : ∀ (V : World) (o : Obj) (i : Nat), w.heap.size < V.heap.size → (V.alloc o).cell? ⟨w.heap.size, i, none⟩ = V.cell? ⟨w.heap.size, i, none⟩ := fun V o i h => World.cell?_alloc_lt V o ⟨w.heap.size, i, none⟩ h
      simp [results, Try.results160, go_sem, q0, q1, hfz, Lg.zero, Lg.val, hca, lb]
    · rw [pickL, HF1.out]; rfl
    · repeat' (first | with_reducible exact hB1 | with_reducible refine Below.setCell ?_ ?_ _ | with_reducible refine Below.alloc ?_ ?_ _)
      all_goals first | (simp; done) | (simp; omega)
  · rw [h0] at hidx
    have HF1 := Lib.hid (find_some hk hno hpk)
    clear hno h0 hpk
    go_enter Try.func160, Try.ntmps160
    go_wp2_with fail
    refine hidx.mono ?_
    rintro e w1 ⟨rfl, hb1⟩
    have hB1 := since_step hB0 hb1
    have Bz := Bz.below hb1
    obtain ⟨lb, cb⟩ := id Bz
    have q0 := cb 0
    have q1 := cb 1
    simp at q0 q1
    clear cb
    have hfz : ∀ i, w1.frozen? ⟨w.heap.size, i, none⟩ = false := fun i => by rw [(hb1.frozen (p := ⟨w.heap.size, i, none⟩) (by simp))]; simp
    have hcs := @cell_set
    obtain ⟨b, o, rfl, hbw, hgat⟩ := ((hs.alloc (.cells #[.int .i64 0, .int .i64 0] 138)).below hb1).lg hk
    clear hb1 Bz hidx hs
    generalize l[k] = g at *
    obtain ⟨g0, g1⟩ := hgat
    go_wp2_with fail
    refine bodyPost_ret (v := .tuple #[g.val, .bool true]) ?_ rfl ⟨?_, ?_⟩
    · simp [results, Try.results160, go_sem, q0, q1, hfz, Lg.val]
    · rw [pickL, HF1.out]; rfl
    · repeat' (first | with_reducible exact hB1 | with_reducible refine Below.setCell ?_ ?_ _ | with_reducible refine Below.alloc ?_ ?_ _)
      all_goals first | (simp; done) | (simp; omega)
end Go.Proofs.Ytldnponbkhgijaa
end
section
namespace Go.Proofs.Ytldnponbkhgijaa
open Go.ChangeShapes Go.WideShapes Go.ChangeAt Go.RowKit
set_option linter.unusedVariables false
set_option linter.unusedSimpArgs false

def Lg.Tells2 (F : Nat) (caps : Array Value) (ah : Lg → Lg → Bool) (B : Nat) (w : World) : Prop :=
  ∀ (a b : Lg) (W : World), Below B w W → Calls Try.prog F (#[a.val, b.val] ++ caps) W fun e w' => e = .returned (.bool (ah a b)) ∧ Below W.heap.size W w'
theorem Lg.Tells2.below {F : Nat} {caps : Array Value} {ah : Lg → Lg → Bool} {B : Nat} {w w1 : World} (h : Lg.Tells2 F caps ah B w) (hb : Below B w w1) {C : Nat} (hC : B ≤ C) : Lg.Tells2 F caps ah C w1 :=
  fun a b W hW => h a b W (hb.trans (hW.mono hC))
structure Lg.Bx (w : World) (b : Nat) (g : Lg) : Prop where
  lt : b < w.heap.size
  at_ : g.at w b 0
  hp : w.heap[b]? = some (.cells g.cells.toArray 138 (0, 0))
theorem Lg.Bx.new (w : World) (g : Lg) : Lg.Bx (w.alloc (.cells g.cells.toArray 138)) w.heap.size g := by
  have h := heap_alloc_new w (.cells g.cells.toArray 138 (0, 0))
  refine ⟨by simp, Lg.at_of fun j u hu => ?_, h⟩
  rw [Nat.zero_add, cell_of_row _ _ j g.cells.toArray 138 (0, 0) h]
  simpa using hu
theorem Lg.Bx.below {w w' : World} {b : Nat} {g : Lg} (h : Lg.Bx w b g) (hb : Below w.heap.size w w') : Lg.Bx w' b g :=
  ⟨Nat.lt_of_lt_of_le h.lt hb.size, Lg.at_keep h.at_ fun i => hb.cell (p := ⟨b, i, none⟩) h.lt, (hb.block b h.lt).trans h.hp⟩
theorem Lg.Bx.sl {w : World} {b : Nat} {g : Lg} (h : Lg.Bx w b g) : Sl w (some ⟨b, 0, none⟩) g.cells := by
  intro _
  refine ⟨b, 0, rfl, fun j u hu => ?_⟩
  rw [Nat.zero_add, cell_of_row _ _ j g.cells.toArray 138 (0, 0) h.hp]
  simpa using hu
theorem Lg.Bx.got {w : World} {b : Nat} {g : Lg} (h : Lg.Bx w b g) : w.cell? ⟨b, 0, none⟩ = some (.int .i64 g.ins) ∧ w.cell? ⟨b, 1, none⟩ = some (.int .i64 g.qty) := by
  have := h.at_
  unfold Lg.at at this
  simpa only [Nat.zero_add] using this
set_option maxHeartbeats 1000000 in
set_option maxRecDepth 100000 in
theorem rising_lg (A : Option Addr) (cap : Nat) (l : List Lg) (F : Nat) (caps : Array Value) (ah : Lg → Lg → Bool) (w : World) (hl : l.length ≤ 1000000) (hs : Sl w A (rc Lg.cells l)) (hF : Ent Try.prog F) (hp : Lg.Tells2 F caps ah w.heap.size w) :
    Calls Try.prog 148 #[.slice A l.length cap, .func (.func F) #[] caps] w fun e w' => e = .returned (.bool (risingL ah l)) ∧ Below w.heap.size w w' := by
  go_enter Try.func148, Try.ntmps148
  go_wp2_with fail
  go_loopw [5] (fun i wr => ∃ k : Nat, i = .int .i64 ((k : Int) + 1) ∧ (k ≤ l.length) ∧ (∀ j, (hj : j + 1 < l.length) → j < k → ah (l[j]'(by omega)) l[j + 1] = true) ∧ Below w.heap.size w wr) (fun i _ => l.length + 1 - (intOf i).toNat)
  case atStart => exact ⟨0, by first | rfl | go_num, by omega, fun j hj h => absurd h (by omega), Below.refl _ _⟩
  case round =>
    obtain ⟨k, rfl, hk, hno, hB⟩ := hrel
    by_cases hlt2 : k + 1 < l.length
    · have hkl : k < l.length := by omega
      obtain ⟨b, o, rfl, hbw, hg⟩ := hs.lg hkl
      obtain ⟨b', o', e, hbw', hg'⟩ := hs.lg hlt2
      injection e with e
      injection e with e1 e2 e3
      subst e1; subst e2
      have hg1 : l[k].at wr b (o + k * 2) := Lg.at_keep (w := w) hg fun i => hB.cell (p := ⟨b, i, none⟩) hbw
      have hg2 : l[k + 1].at wr b (o + (k + 1) * 2) := Lg.at_keep (w := w) hg' fun i => hB.cell (p := ⟨b, i, none⟩) hbw
      have HG1 := Lib.hid hg1
      have HG2 := Lib.hid hg2
      have hbr : b < wr.heap.size := Nat.lt_of_lt_of_le hbw hB.size
      have HK : Hid (∀ V, Below wr.heap.size wr V → l[k].at V b (o + k * 2) ∧ l[k + 1].at V b (o + (k + 1) * 2)) := Lib.hid fun V hV =>
        ⟨Lg.at_keep (w := wr) HG1.out fun i => hV.cell (p := ⟨b, i, none⟩) hbr, Lg.at_keep (w := wr) HG2.out fun i => hV.cell (p := ⟨b, i, none⟩) hbr⟩
      have HP : Hid (∀ V, Below wr.heap.size wr V → _) := Lib.hid fun V hV => hp l[k] l[k + 1] V (since_step hB hV)
      obtain ⟨q, hq⟩ : ∃ q, ah l[k] l[k + 1] = q := ⟨_, rfl⟩
      have HXq : Hid (if q then (∀ j, (hj : j + 1 < l.length) → j < k + 1 → ah (l[j]'(by omega)) l[j + 1] = true) else risingL ah l = false) := Lib.hid (by
        cases q with
        | true =>
          intro j hj hjk
          rcases Nat.lt_or_ge j k with h | h
          · exact hno j hj h
          · obtain rfl : j = k := by omega
            exact hq
        | false => exact risingL_false hlt2 hq)
      have HQ := Lib.hid hq
      clear hno hp hg hg' hg1 hg2 HG1 HG2 hq
      generalize l[k] = ga at HK HP HQ
      generalize l[k + 1] = gb at HK HP HQ
      have hw0 : IntKind.i64.wrap (k : Int) = (k : Int) := by rw [IntKind.wrap_i64]; omega
      have hw2 : IntKind.i64.wrap ((k : Int) + 1 + 1) = (k : Int) + 1 + 1 := by rw [IntKind.wrap_i64]; omega
      have hn0 : (0 : Int) ≤ (k : Int) := by omega
      have hn1 : (0 : Int) ≤ (k : Int) + 1 := by omega
      have htn : ((k : Int) + 1).toNat = k + 1 := by omega
      have hlt3 : (k : Int) + 1 < (l.length : Int) := by omega
      clear hs hbw hbw'
      go_wp2_with fail
      refine wp_region_held_drew (S := (fun V => Below wr.heap.size wr V)) (by kernel_rfl) (by exact (Below.refl _ _).drew) (fun hHeld => ?_)
      refine wpAnyH_take (i := 0) (oi := { dst := some 12, op := _, type := _, pos := _, after := _, guard := _ }) (v := ?_) rfl (by kernel_rfl) (by kernel_rfl) (by kernel_rfl) (fun _ _ _ h => h) (Or.inl ⟨by rfl, ?_⟩) hHeld ?_
      rotate_left
      · (intro w hSw; obtain ⟨⟨g0, g1⟩, h0, h1⟩ := HK.out _ hSw; go_simp <;> with_reducible rfl)
      try simp only [Act.put, List.setIfInBounds_toArray, List.set_cons_zero, List.set_cons_succ]
      refine wpAnyH_take (i := 1) (oi := { dst := some 13, op := _, type := _, pos := _, after := _, guard := _ }) (v := ?_) rfl (by kernel_rfl) (by kernel_rfl) (by kernel_rfl) (fun _ _ _ h => h) (Or.inl ⟨by rfl, ?_⟩) hHeld ?_
      rotate_left
      · (intro w hSw; obtain ⟨⟨g0, g1⟩, h0, h1⟩ := HK.out _ hSw; go_simp <;> with_reducible rfl)
      try simp only [Act.put, List.setIfInBounds_toArray, List.set_cons_zero, List.set_cons_succ]
      refine wpAnyH_take (i := 2) (oi := { dst := some 14, op := _, type := _, pos := _, after := _, guard := _ }) (v := ?_) rfl (by kernel_rfl) (by kernel_rfl) (by kernel_rfl) (fun _ _ _ h => h) (Or.inl ⟨by rfl, ?_⟩) hHeld ?_
      rotate_left
      · (intro w hSw; obtain ⟨⟨g0, g1⟩, h0, h1⟩ := HK.out _ hSw; go_simp <;> with_reducible rfl)
      try simp only [Act.put, List.setIfInBounds_toArray, List.set_cons_zero, List.set_cons_succ]
      refine wpAnyH_take (i := 3) (oi := { dst := some 15, op := _, type := _, pos := _, after := _, guard := _ }) (v := ?_) rfl (by kernel_rfl) (by kernel_rfl) (by kernel_rfl) (fun _ _ _ h => h) (Or.inl ⟨by rfl, ?_⟩) hHeld ?_
      rotate_left
      · (intro w hSw; obtain ⟨⟨g0, g1⟩, h0, h1⟩ := HK.out _ hSw; go_simp <;> with_reducible rfl)
      try simp only [Act.put, List.setIfInBounds_toArray, List.set_cons_zero, List.set_cons_succ]
      refine wpAnyH_take (i := 4) (oi := { dst := some 16, op := _, type := _, pos := _, after := _, guard := _ }) (v := ?_) rfl (by kernel_rfl) (by kernel_rfl) (by kernel_rfl) (fun _ _ _ h => h) (Or.inl ⟨by rfl, ?_⟩) hHeld ?_
      rotate_left
      · (intro w hSw; obtain ⟨⟨g0, g1⟩, h0, h1⟩ := HK.out _ hSw; go_simp <;> with_reducible rfl)
      try simp only [Act.put, List.setIfInBounds_toArray, List.set_cons_zero, List.set_cons_succ]
      refine wpAnyH_take (i := 5) (oi := { dst := some 17, op := _, type := _, pos := _, after := _, guard := _ }) (v := ?_) rfl (by kernel_rfl) (by kernel_rfl) (by kernel_rfl) (fun _ _ _ h => h) (Or.inl ⟨by rfl, ?_⟩) hHeld ?_
      rotate_left
      · (intro w hSw; obtain ⟨⟨g0, g1⟩, h0, h1⟩ := HK.out _ hSw; go_simp <;> with_reducible rfl)
      try simp only [Act.put, List.setIfInBounds_toArray, List.set_cons_zero, List.set_cons_succ]
      refine wpAnyH_take (i := 6) (oi := { dst := some 18, op := _, type := _, pos := _, after := _, guard := _ }) (v := ?_) rfl (by kernel_rfl) (by kernel_rfl) (by kernel_rfl) (fun _ _ _ h => h) (Or.inl ⟨by rfl, ?_⟩) hHeld ?_
      rotate_left
      · (intro w hSw; obtain ⟨⟨g0, g1⟩, h0, h1⟩ := HK.out _ hSw; go_simp <;> with_reducible rfl)
      try simp only [Act.put, List.setIfInBounds_toArray, List.set_cons_zero, List.set_cons_succ]
      refine wpAnyH_take (i := 7) (oi := { dst := some 19, op := _, type := _, pos := _, after := _, guard := _ }) (v := ?_) rfl (by kernel_rfl) (by kernel_rfl) (by kernel_rfl) (fun _ _ _ h => h) (Or.inl ⟨by rfl, ?_⟩) hHeld ?_
      rotate_left
      · (intro w hSw; obtain ⟨⟨g0, g1⟩, h0, h1⟩ := HK.out _ hSw; go_simp <;> with_reducible rfl)
      try simp only [Act.put, List.setIfInBounds_toArray, List.set_cons_zero, List.set_cons_succ]
      refine wpAnyH_take (i := 8) (oi := { dst := some 20, op := _, type := _, pos := _, after := _, guard := _ }) (v := ?_) rfl (by kernel_rfl) (by kernel_rfl) (by kernel_rfl) (fun _ _ _ h => h) (Or.inl ⟨by rfl, ?_⟩) hHeld ?_
      rotate_left
      · (intro w hSw; obtain ⟨⟨g0, g1⟩, h0, h1⟩ := HK.out _ hSw; go_simp <;> with_reducible rfl)
      try simp only [Act.put, List.setIfInBounds_toArray, List.set_cons_zero, List.set_cons_succ]
      refine wpAnyH_take (i := 9) (oi := { dst := some 21, op := _, type := _, pos := _, after := _, guard := _ }) (v := ?_) rfl (by kernel_rfl) (by kernel_rfl) (by kernel_rfl) (fun _ _ _ h => h) (Or.inl ⟨by rfl, ?_⟩) hHeld ?_
      rotate_left
      · (intro w hSw; obtain ⟨⟨g0, g1⟩, h0, h1⟩ := HK.out _ hSw; go_simp <;> with_reducible rfl)
      try simp only [Act.put, List.setIfInBounds_toArray, List.set_cons_zero, List.set_cons_succ]
      refine wpAnyH_ready (rs := [10]) (by kernel_rfl) (by simp) ?_
      refine AllReadyH.cons (o := { dst := some 22, op := _, type := _, pos := _, after := _, guard := _ }) rfl (fun K hK => ?_) AllReadyH.nil
      go_simp
      rw [hF, Oper.upon_enter]
      refine (HP.out _ hHeld).mono ?_
      rintro e u1 ⟨rfl, hk1⟩
      have hKeep := since_step hHeld hk1
      rw [HQ.out]
      go_wp2_with fail
      refine hK.out _ _ (by (try dsimp only); exact hKeep) (fun hHeld => ?_)
      clear hK K hKeep
      try simp only [Act.put, List.setIfInBounds_toArray, List.set_cons_zero, List.set_cons_succ]
      refine wpAnyH_take (i := 11) (oi := { dst := some 23, op := _, type := _, pos := _, after := _, guard := _ }) (v := ?_) rfl (by kernel_rfl) (by kernel_rfl) (by kernel_rfl) (fun _ _ _ h => h) (Or.inl ⟨by rfl, ?_⟩) hHeld ?_
      rotate_left
      · (intro w hSw; obtain ⟨⟨g0, g1⟩, h0, h1⟩ := HK.out _ hSw; go_simp <;> with_reducible rfl)
      try simp only [Act.put, List.setIfInBounds_toArray, List.set_cons_zero, List.set_cons_succ]
      refine wpAnyH_done (by kernel_rfl) ?_ _
      have hB2 := since_step hB hHeld
      cases q with
      | true =>
        go_wp2_with fail
        go_roundw
        case rel => exact ⟨k + 1, by go_num, by omega, by simpa using HXq.out, hB2⟩
        case measure => simp [intOf]; omega
      | false =>
        have hr : risingL ah l = false := by simpa using HXq.out
        have HR := Lib.hid hr
        clear hr
        go_wp2_with fail
        go_ret
        exact ⟨retB HR.out.symm, hB2⟩
    · have hrt : risingL ah l = true := (risingL_iff ah l).2 fun j hj => hno j hj (by omega)
      have HR := Lib.hid hrt
      have hge : ¬ ((k : Int) + 1 < (l.length : Int)) := by omega
      clear hno hrt
      go_wp2_with fail
      go_ret
      exact ⟨retB HR.out.symm, hB⟩
end Go.Proofs.Ytldnponbkhgijaa
end
section
namespace Go.Proofs.Ytldnponbkhgijaa
open Go.ChangeShapes Go.WideShapes Go.ChangeAt Go.RowKit
set_option linter.unusedVariables false
set_option linter.unusedSimpArgs false
section
variable {α : Type}
def putR (ah : α → α → Bool) : List α → α → List α
  | [], x => [x]
  | a :: r, x => if ah a x then a :: putR ah r x else if ah x a then x :: a :: r else x :: r
theorem putL_eq (ah : α → α → Bool) (x : α) : ∀ l : List α, putL ah l x = putR ah l x := by
  intro l
  induction l with
  | nil => rfl
  | cons a r ih =>
    unfold putR
    by_cases h : ah a x = true
    · rw [if_pos h, ← ih]
      unfold putL
      rw [List.findIdx?_cons, h]
      simp only [Bool.not_true, Bool.false_eq_true, if_false]
      cases hf : r.findIdx? (fun y => !ah y x) with
      | none => simp
      | some k =>
        have hk : k < r.length := by rw [List.findIdx?_eq_some_iff_getElem] at hf; exact hf.1
        simp only [Option.map_some, List.getElem?_cons_succ, List.getElem?_eq_getElem hk]
        split <;> simp
    · have h' : ah a x = false := by simpa using h
      rw [if_neg h]
      unfold putL
      rw [List.findIdx?_cons, h']
      simp only [Bool.not_false, if_true, List.getElem?_cons_zero]
      split <;> simp
structure Ord (ah : α → α → Bool) : Prop where
  tr : ∀ a b c, ah a b = true → ah b c = true → ah a c = true
  asy : ∀ a b, ah a b = true → ah b a = false
  cong : ∀ a x b, ah a x = false → ah x a = false → ah a b = ah x b
  cong2 : ∀ a x b, ah a x = false → ah x a = false → ah b a = ah b x
theorem rising_pairwise {ah : α → α → Bool} (o : Ord ah) : ∀ l : List α, risingL ah l = true ↔ l.Pairwise (fun a b => ah a b = true)
  | [] => by simp [risingL]
  | [a] => by simp [risingL]
  | a :: b :: r => by
    have ih := rising_pairwise o (b :: r)
    simp only [risingL, Bool.and_eq_true, ih]
    constructor
    · rintro ⟨h1, h2⟩
      refine List.Pairwise.cons ?_ h2
      intro c hc
      rcases List.mem_cons.1 hc with rfl | hc
      · exact h1
      · exact o.tr _ _ _ h1 (List.rel_of_pairwise_cons h2 hc)
    · intro h
      exact ⟨List.rel_of_pairwise_cons h (by simp), h.of_cons⟩
theorem mem_putR {ah : α → α → Bool} (x : α) : ∀ (l : List α) (y : α), y ∈ putR ah l x → y = x ∨ y ∈ l
  | [], y, h => by simp [putR] at h; exact .inl h
  | a :: r, y, h => by
    unfold putR at h
    split at h
    · rcases List.mem_cons.1 h with h | h
      · exact .inr (by simp [h])
      · rcases mem_putR x r y h with h | h
        · exact .inl h
        · exact .inr (by simp [h])
    · split at h
      · rcases List.mem_cons.1 h with h | h
        · exact .inl h
        · exact .inr h
      · rcases List.mem_cons.1 h with h | h
        · exact .inl h
        · exact .inr (by simp [h])
theorem pairwise_putR {ah : α → α → Bool} (o : Ord ah) (x : α) : ∀ (l : List α), l.Pairwise (fun a b => ah a b = true) → (putR ah l x).Pairwise (fun a b => ah a b = true)
  | [], _ => by simp [putR]
  | a :: r, hp => by
    have ha : ∀ b ∈ r, ah a b = true := fun b hb => List.rel_of_pairwise_cons hp hb
    unfold putR
    by_cases h : ah a x = true
    · rw [if_pos h]
      refine List.Pairwise.cons (fun b hb => ?_) (pairwise_putR o x r hp.of_cons)
      rcases mem_putR x r b hb with rfl | hb
      · exact h
      · exact ha b hb
    · rw [if_neg h]
      have h' : ah a x = false := by simpa using h
      by_cases h2 : ah x a = true
      · rw [if_pos h2]
        refine List.Pairwise.cons (fun b hb => ?_) hp
        rcases List.mem_cons.1 hb with rfl | hb
        · exact h2
        · exact o.tr _ _ _ h2 (ha b hb)
      · rw [if_neg h2]
        have h2' : ah x a = false := by simpa using h2
        exact List.Pairwise.cons (fun b hb => by rw [← o.cong a x b h' h2']; exact ha b hb) hp.of_cons
theorem length_putR {ah : α → α → Bool} (x : α) : ∀ (l : List α), (putR ah l x).length ≤ l.length + 1
  | [] => by simp [putR]
  | a :: r => by
    have := length_putR (ah := ah) x r
    unfold putR
    split
    · simp; omega
    · split <;> simp
end
theorem rd_two {w : World} {a : Array Value} (h : Rd w (.cat (.int .i64) (.cat (.int .i64) .nil)) a.toList) : ∃ x y : Int, a = #[.int .i64 x, .int .i64 y] := by
  obtain ⟨p, q, e, ⟨x, rfl, _⟩, ⟨p2, q2, e2, ⟨y, rfl, _⟩, e3⟩⟩ := h
  subst e3
  subst e2
  refine ⟨x, y, ?_⟩
  cases a
  simpa using e
end Go.Proofs.Ytldnponbkhgijaa
end
section
namespace Go.Proofs.Ytldnponbkhgijaa
open Go.ChangeShapes Go.WideShapes Go.ChangeAt Go.RowKit
set_option linter.unusedVariables false
set_option linter.unusedSimpArgs false

theorem own_kept_types {w w' : World} {B B' e e' s s' : Nat} {v v' : Value} {n n' : Nat} {xs ys : List Value} (hne : e ≠ e') (h : w.ownsRow B e s v n xs) (ho : w.ownsRow B' e' s' v' n' ys) (hg : w.grownBy w' v'.ownBlock) : w'.ownsRow B e s v n xs := by
  refine h.kept hg ?_
  rcases h.2 with ⟨rfl, _⟩ | ⟨g, cap, cur, rfl, _, hh, _⟩
  · exact .inl rfl
  · right
    rcases ho.2 with ⟨rfl, _⟩ | ⟨g', cap', cur', rfl, _, hh', _⟩
    · simp [Value.ownBlock]
    · simp only [Value.ownBlock, ne_eq, Option.some.injEq]
      intro e
      subst e
      rw [hh] at hh'
      injection hh' with hh'
      injection hh' with _ e
      exact absurd e hne
theorem own_setFar' {w : World} {B e size n : Nat} {v : Value} {xs : List Value} (h : w.ownsRow B e size v n xs) {p : Addr} (hp : p.block < B) (u : Value) : (w.setCell p u).ownsRow B e size v n xs := by
  obtain ⟨h1, h2⟩ := h
  refine ⟨h1, ?_⟩
  rcases h2 with h2 | ⟨g, cap, cur, hv, hg, hh, hr⟩
  · exact .inl h2
  · refine .inr ⟨g, cap, cur, hv, hg, ?_, hr⟩
    have hne : p.block ≠ g := by omega
    rw [← hh]
    unfold World.setCell
    simp [Array.getElem?_modify, hne]
end Go.Proofs.Ytldnponbkhgijaa
end
section
namespace Go.Proofs.Ytldnponbkhgijaa
open Go.ChangeShapes Go.WideShapes Go.ChangeAt Go.RowKit
set_option linter.unusedVariables false
set_option linter.unusedSimpArgs false

structure Pc where
  ac : Int
  cl : Int
  L : List Lg
deriving DecidableEq
structure PoIs (w : World) (g : Po) (c : Pc) : Prop where
  ac : g.ac = c.ac
  cl : g.cl = c.cl
  len : g.lgL = c.L.length
  sl : Sl w g.lg (rc Lg.cells c.L)
theorem PoIs.below {w w' : World} {g : Po} {c : Pc} (h : PoIs w g c) (hb : Below w.heap.size w w') : PoIs w' g c := ⟨h.ac, h.cl, h.len, h.sl.below hb⟩
theorem PoIs.eq {w : World} {g : Po} {c : Pc} (h : PoIs w g c) : g = ⟨c.ac, c.cl, g.lg, c.L.length, g.lgC⟩ := by
  obtain ⟨a0, a1, e, f, k⟩ := g
  obtain ⟨h0, h1, h9, _⟩ := h
  simp only at h0 h1 h9
  subst h0; subst h1; subst h9; rfl
def PoTab (w : World) (l : List Po) (cs : List Pc) : Prop := l.length = cs.length ∧ ∀ i, (h : i < l.length) → (h2 : i < cs.length) → PoIs w l[i] cs[i]
theorem PoTab.below {w w' : World} {l : List Po} {cs : List Pc} (h : PoTab w l cs) (hb : Below w.heap.size w w') : PoTab w' l cs := ⟨h.1, fun i h1 h2 => (h.2 i h1 h2).below hb⟩
theorem PoTab.nil (w : World) : PoTab w [] [] := ⟨rfl, fun i h => by simp at h⟩
theorem PoTab.cons {w : World} {g : Po} {c : Pc} {l : List Po} {cs : List Pc} : PoTab w (g :: l) (c :: cs) ↔ PoIs w g c ∧ PoTab w l cs := by
  constructor
  · rintro ⟨h1, h2⟩
    exact ⟨h2 0 (by simp) (by simp), by simpa using h1, fun i a b => h2 (i + 1) (by simpa using a) (by simpa using b)⟩
  · rintro ⟨h0, h1, h2⟩
    refine ⟨by simpa using h1, fun i a b => ?_⟩
    cases i with
    | zero => exact h0
    | succ i => exact h2 i (by simpa using a) (by simpa using b)
theorem PoTab.app {w : World} {l : List Po} {cs : List Pc} {g : Po} {c : Pc} (h : PoTab w l cs) (hg : PoIs w g c) : PoTab w (l ++ [g]) (cs ++ [c]) := by
  refine ⟨by simp [h.1], fun i h1 h2 => ?_⟩
  have hl := h.1
  rcases Nat.lt_or_ge i l.length with hi | hi
  · rw [List.getElem_append_left hi, List.getElem_append_left (by omega)]; exact h.2 i hi (by omega)
  · have : i = l.length := by simp at h1; omega
    subst this
    simp [hl]
    exact hg
theorem PoTab.append {w : World} : ∀ {l m : List Po} {cs ds : List Pc}, PoTab w l cs → PoTab w m ds → PoTab w (l ++ m) (cs ++ ds)
  | [], m, [], ds, _, h => h
  | [], _, _ :: _, _, h, _ => by have := h.1; simp at this
  | _ :: _, _, [], _, h, _ => by have := h.1; simp at this
  | a :: l, m, d :: cs, ds, h, k => by
    obtain ⟨h1, h2⟩ := PoTab.cons.1 h
    exact PoTab.cons.2 ⟨h1, PoTab.append h2 k⟩
theorem PoTab.take {w : World} {l : List Po} {cs : List Pc} (h : PoTab w l cs) (k : Nat) : PoTab w (l.take k) (cs.take k) := by
  refine ⟨by simp [h.1], fun i h1 h2 => ?_⟩
  rw [List.getElem_take, List.getElem_take]
  exact h.2 i (by simp at h1; omega) (by simp at h2; omega)
theorem PoTab.drop {w : World} {l : List Po} {cs : List Pc} (h : PoTab w l cs) (k : Nat) : PoTab w (l.drop k) (cs.drop k) := by
  refine ⟨by simp [h.1], fun i h1 h2 => ?_⟩
  rw [List.getElem_drop, List.getElem_drop]
  exact h.2 _ (by simp at h1; omega) (by simp at h2; omega)
theorem PoTab.filter {w : World} {p : Po → Bool} {q : Pc → Bool} (hpq : ∀ g c, PoIs w g c → p g = q c) : ∀ {l : List Po} {cs : List Pc}, PoTab w l cs → PoTab w (l.filter p) (cs.filter q)
  | [], [], _ => PoTab.nil w
  | [], _ :: _, h => by have := h.1; simp at this
  | _ :: _, [], h => by have := h.1; simp at this
  | a :: l, d :: cs, h => by
    obtain ⟨h1, h2⟩ := PoTab.cons.1 h
    rw [List.filter_cons, List.filter_cons, hpq a d h1]
    split
    · exact PoTab.cons.2 ⟨h1, PoTab.filter hpq h2⟩
    · exact PoTab.filter hpq h2
theorem PoTab.put {w : World} {g : Po} {c : Pc} {ah : Po → Po → Bool} {ac : Pc → Pc → Bool} (hah : ∀ g c g' c', PoIs w g c → PoIs w g' c' → ah g g' = ac c c') (hg : PoIs w g c) : ∀ {l : List Po} {cs : List Pc}, PoTab w l cs → PoTab w (putR ah l g) (putR ac cs c)
  | [], [], _ => PoTab.cons.2 ⟨hg, PoTab.nil w⟩
  | [], _ :: _, h => by have := h.1; simp at this
  | _ :: _, [], h => by have := h.1; simp at this
  | a :: l, d :: cs, h => by
    obtain ⟨h1, h2⟩ := PoTab.cons.1 h
    unfold putR
    rw [hah a d g c h1 hg, hah g c a d hg h1]
    split
    · exact PoTab.cons.2 ⟨h1, PoTab.put hah hg h2⟩
    · split
      · exact PoTab.cons.2 ⟨hg, PoTab.cons.2 ⟨h1, h2⟩⟩
      · exact PoTab.cons.2 ⟨hg, h2⟩
theorem PoTab.set {w : World} {l : List Po} {cs : List Pc} {g : Po} {c : Pc} (h : PoTab w l cs) (hg : PoIs w g c) (k : Nat) : PoTab w (l.set k g) (cs.set k c) := by
  refine ⟨by simp [h.1], fun i h1 h2 => ?_⟩
  rw [List.getElem_set, List.getElem_set]
  split
  · exact hg
  · exact h.2 i (by simpa using h1) (by simpa using h2)
theorem PoTab.find {w : World} {p : Po → Bool} {q : Pc → Bool} (hpq : ∀ g c, PoIs w g c → p g = q c) : ∀ {l : List Po} {cs : List Pc}, PoTab w l cs → (l.find? p = none ∧ cs.find? q = none) ∨ (∃ g c, l.find? p = some g ∧ cs.find? q = some c ∧ PoIs w g c)
  | [], [], _ => .inl ⟨rfl, rfl⟩
  | [], _ :: _, h => by have := h.1; simp at this
  | _ :: _, [], h => by have := h.1; simp at this
  | a :: l, d :: cs, h => by
    obtain ⟨h1, h2⟩ := PoTab.cons.1 h
    rw [List.find?_cons, List.find?_cons, hpq a d h1]
    cases q d with
    | true => exact .inr ⟨a, d, rfl, rfl, h1⟩
    | false => exact PoTab.find hpq h2
theorem PoTab.rising {w : World} {ah : Po → Po → Bool} {ac : Pc → Pc → Bool} (hah : ∀ g c g' c', PoIs w g c → PoIs w g' c' → ah g g' = ac c c') : ∀ {l : List Po} {cs : List Pc}, PoTab w l cs → risingL ah l = risingL ac cs
  | [], [], _ => rfl
  | [], _ :: _, h => by have := h.1; simp at this
  | _ :: _, [], h => by have := h.1; simp at this
  | [a], [d], h => rfl
  | [a], _ :: _ :: _, h => by have := h.1; simp at this
  | _ :: _ :: _, [d], h => by have := h.1; simp at this
  | a :: b :: l, d :: e :: cs, h => by
    obtain ⟨h1, h2⟩ := PoTab.cons.1 h
    obtain ⟨h3, h4⟩ := PoTab.cons.1 h2
    simp only [risingL]
    rw [hah a d b e h1 h3, PoTab.rising hah h2]
structure PoOwn (B : Nat) (w : World) (g : Po) (c : Pc) : Prop where
  ac : g.ac = c.ac
  cl : g.cl = c.cl
  len : g.lgL = c.L.length
  own : w.ownsRow B 138 2 (.slice g.lg c.L.length g.lgC) c.L.length (rc Lg.cells c.L)
theorem PoOwn.is {B : Nat} {w : World} {g : Po} {c : Pc} (h : PoOwn B w g c) : PoIs w g c := ⟨h.ac, h.cl, h.len, Sl.of_own h.own⟩
theorem PoOwn.below {B : Nat} {w w' : World} {g : Po} {c : Pc} (h : PoOwn B w g c) (hb : Below w.heap.size w w') : PoOwn B w' g c := ⟨h.ac, h.cl, h.len, own_below h.own hb⟩
theorem own_kept_po {w w' : World} {B B' : Nat} {v v' : Value} {n n' : Nat} {xs ys : List Value} (h : w.ownsRow B 138 2 v n xs) (ho : w.ownsRow B' 133 3 v' n' ys) (hg : w.grownBy w' v'.ownBlock) : w'.ownsRow B 138 2 v n xs := own_kept_types (by decide) h ho hg
theorem PoOwn.kept {w w' : World} {B B' : Nat} {g : Po} {c : Pc} {v' : Value} {n' : Nat} {ys : List Value} (h : PoOwn B w g c) (ho : w.ownsRow B' 133 3 v' n' ys) (hg : w.grownBy w' v'.ownBlock) : PoOwn B w' g c := ⟨h.ac, h.cl, h.len, own_kept_po h.own ho hg⟩
def PoOTab (B : Nat) (w : World) (l : List Po) (cs : List Pc) : Prop := l.length = cs.length ∧ ∀ i, (h : i < l.length) → (h2 : i < cs.length) → PoOwn B w l[i] cs[i]
theorem PoOTab.tab {B : Nat} {w : World} {l : List Po} {cs : List Pc} (h : PoOTab B w l cs) : PoTab w l cs := ⟨h.1, fun i h1 h2 => (h.2 i h1 h2).is⟩
theorem PoOTab.below {B : Nat} {w w' : World} {l : List Po} {cs : List Pc} (h : PoOTab B w l cs) (hb : Below w.heap.size w w') : PoOTab B w' l cs := ⟨h.1, fun i h1 h2 => (h.2 i h1 h2).below hb⟩
theorem PoOTab.kept {w w' : World} {B B' : Nat} {l : List Po} {cs : List Pc} {v' : Value} {n' : Nat} {ys : List Value} (h : PoOTab B w l cs) (ho : w.ownsRow B' 133 3 v' n' ys) (hg : w.grownBy w' v'.ownBlock) : PoOTab B w' l cs := ⟨h.1, fun i h1 h2 => (h.2 i h1 h2).kept ho hg⟩
theorem PoOTab.app {B : Nat} {w : World} {l : List Po} {cs : List Pc} {g : Po} {c : Pc} (h : PoOTab B w l cs) (hg : PoOwn B w g c) : PoOTab B w (l ++ [g]) (cs ++ [c]) := by
  refine ⟨by simp [h.1], fun i h1 h2 => ?_⟩
  have hl := h.1
  rcases Nat.lt_or_ge i l.length with hi | hi
  · rw [List.getElem_append_left hi, List.getElem_append_left (by omega)]; exact h.2 i hi (by omega)
  · have : i = l.length := by simp at h1; omega
    subst this
    simp [hl]
    exact hg
structure BzPo (w : World) (b : Nat) : Prop where
  bk : Bk w b #[.int .i64 0, .int .i64 0, .slice none 0 0]
  fz : ∀ i, w.frozen? ⟨b, i, none⟩ = false
theorem BzPo.new (w : World) : BzPo (w.alloc (.cells #[.int .i64 0, .int .i64 0, .slice none 0 0] 133)) w.heap.size := ⟨Bk.new w _ _, fun i => by simp⟩
theorem BzPo.below {w w' : World} {b : Nat} (h : BzPo w b) (hb : Below w.heap.size w w') : BzPo w' b := ⟨h.bk.below hb, fun i => by rw [hb.frozen (p := ⟨b, i, none⟩) h.bk.1]; exact h.fz i⟩
theorem BzPo.got {w : World} {b : Nat} (h : BzPo w b) : w.cell? ⟨b, 0, none⟩ = some (.int .i64 0) ∧ w.cell? ⟨b, 1, none⟩ = some (.int .i64 0) ∧ w.cell? ⟨b, 2, none⟩ = some (.slice none 0 0) := by
  have h1 := h.bk.2
  exact ⟨h1 0, h1 1, h1 2⟩
structure AfPo (w : World) (b : Nat) (g : Po) : Prop where
  bx : Po.Bx w b g
  fz : ∀ i, w.frozen? ⟨b, i, none⟩ = false
theorem AfPo.below {w w' : World} {b : Nat} {g : Po} (h : AfPo w b g) (hb : Below w.heap.size w w') : AfPo w' b g := ⟨h.bx.below hb, fun i => by rw [hb.frozen (p := ⟨b, i, none⟩) h.bx.lt]; exact h.fz i⟩
set_option maxHeartbeats 4000000 in
set_option maxRecDepth 100000 in
theorem dup1_po (ac : Int) (cl : Int) (A : Option Addr) (cap : Nat) (L : List Lg) (w : World) (hl : L.length ≤ 900000) (hs : Sl w A (rc Lg.cells L)) :
    Calls Try.prog 156 #[.agg #[.int .i64 ac, .int .i64 cl, .slice A L.length cap]] w fun e w' => (∃ A' c', e = .returned (.agg #[.int .i64 ac, .int .i64 cl, .slice A' L.length c']) ∧ w'.ownsRow w.heap.size 138 2 (.slice A' L.length c') L.length (rc Lg.cells L)) ∧ Below w.heap.size w w' := by
  have hB0 := since_alloc (since_alloc (Below.refl _ w) (.cells #[.int .i64 ac, .int .i64 cl, .slice A L.length cap] 133)) (.cells #[.int .i64 0, .int .i64 0, .slice none 0 0] 133)
  have hV0 : AfPo ((w.alloc (.cells #[.int .i64 ac, .int .i64 cl, .slice A L.length cap] 133)).alloc (.cells #[.int .i64 0, .int .i64 0, .slice none 0 0] 133)) w.heap.size ⟨ac, cl, A, L.length, cap⟩ := ⟨(Po.Bx.new w ⟨ac, cl, A, L.length, cap⟩).below ((Below.refl _ _).alloc (Nat.le_refl _) (.cells #[.int .i64 0, .int .i64 0, .slice none 0 0] 133)), fun i => by simp⟩
  have hZ0 : BzPo ((w.alloc (.cells #[.int .i64 ac, .int .i64 cl, .slice A L.length cap] 133)).alloc (.cells #[.int .i64 0, .int .i64 0, .slice none 0 0] 133)) (w.heap.size + 1) := by have h := BzPo.new (w.alloc (.cells #[.int .i64 ac, .int .i64 cl, .slice A L.length cap] 133)); rw [World.size_alloc] at h; exact h
  have hs0 := (hs.alloc (.cells #[.int .i64 ac, .int .i64 cl, .slice A L.length cap] 133)).alloc (.cells #[.int .i64 0, .int .i64 0, .slice none 0 0] 133)
  clear hs
  go_enter Try.func156, Try.ntmps156
  go_upto_region 1 with fail
  generalize hWW : (w.alloc (.cells #[.int .i64 ac, .int .i64 cl, .slice A L.length cap] 133)).alloc (.cells #[.int .i64 0, .int .i64 0, .slice none 0 0] 133) = w0 at *
  clear hWW
  have hcs := @cell_set
  obtain ⟨q0, q1, q2⟩ := (hV0.bx).got
  simp only at q0 q1 q2
  obtain ⟨z0, z1, z2⟩ := hZ0.got
  have fq := hV0.fz
  have fz := hZ0.fz
  have lq := hV0.bx.lt
  have lz := hZ0.bk.1
  have hzl := hZ0.bk.1
  go_wp2_with fail
  refine (clone_lg A cap L _ (by omega) hs0).mono ?_
  rintro e w1 ⟨⟨A1, c1, rfl, hown⟩, hb⟩
  have hV1 := hV0.below hb
  have hZ1 := hZ0.below hb
  have hB1 := since_step hB0 hb
  clear hb q0 q1 q2 z0 z1 z2 fq fz lq lz
  obtain ⟨q0, q1, q2⟩ := (hV1.bx).got
  simp only at q0 q1 q2
  obtain ⟨z0, z1, z2⟩ := hZ1.got
  have fq := hV1.fz
  have fz := hZ1.fz
  have lq := hV1.bx.lt
  have lz := hZ1.bk.1
  go_wp2_with fail
  refine bodyPost_ret (v := .agg #[.int .i64 ac, .int .i64 cl, .slice A1 L.length c1]) ?_ rfl ⟨⟨A1, c1, rfl, own_base ?_ hB0.size⟩, ?_⟩
  · simp [results, Try.results156, go_sem, z0, z1, z2, q0, q1, q2, fz, fq, hcs]
  · repeat' (first | with_reducible exact hown | with_reducible refine own_setFar' ?_ ?_ _)
    all_goals first | (simp; done) | (simp; omega)
  · repeat' (first | with_reducible exact hB1 | with_reducible refine Below.setCell ?_ ?_ _ | with_reducible refine Below.alloc ?_ ?_ _)
    all_goals first | (simp; done) | (simp; omega)
def DupResPo (w w' : World) (e : Ending) (cs : List Pc) : Prop :=
  ∃ (l : List Po) (A' : Option Addr) (c' : Nat), e = .returned (.slice A' l.length c') ∧ w'.ownsRow w.heap.size 133 3 (.slice A' l.length c') l.length (rc Po.cells l) ∧ PoOTab w.heap.size w' l cs
def DRelPo (cs : List Pc) (W : World) (out i : Value) (wr : World) : Prop :=
  ∃ (k : Nat) (l : List Po) (A' : Option Addr) (c' : Nat), k ≤ cs.length ∧ i = .int .i64 k ∧ l.length ≤ k ∧ out = .slice A' l.length c' ∧ wr.ownsRow W.heap.size 133 3 (.slice A' l.length c') l.length (rc Po.cells l) ∧ PoOTab W.heap.size wr l (cs.take k) ∧ Below W.heap.size W wr
set_option maxHeartbeats 4000000 in
set_option maxRecDepth 100000 in
theorem each_po (A : Option Addr) (cap : Nat) (l : List Po) (cs : List Pc) (w : World) (hl : l.length ≤ 900000) (hcl : ∀ c ∈ cs, c.L.length ≤ 900000) (hs : Sl w A (rc Po.cells l)) (ht : PoTab w l cs) :
    Calls Try.prog 155 #[.slice A l.length cap, .func (.func 156) #[] #[]] w fun e w' => DupResPo w w' e cs ∧ Below w.heap.size w w' := by
  have HLC := Lib.hid ht.1
  go_enter Try.func155, Try.ntmps155
  go_wp2_with (first
    | (at_make; refine wpList_mk rfl (.const (.int .i64 0)) (.tmp 9) rfl EPo l.length rfl rfl rfl (by omega) (by unfold maxLen; omega) (Nat.le_refl _) ?_; intro W2 hownW hbW)
    | fail)
  go_loopw [5, 13] (fun out i wr => DRelPo cs w out i wr) (fun _ i _ => l.length - (intOf i).toNat)
  case atStart => exact ⟨0, [], _, _, by omega, rfl, by simp, rfl, by simpa [rc] using hownW, ⟨rfl, fun i h => by simp at h⟩, hbW⟩
  case round =>
    obtain ⟨k, m, A', c', hk, rfl, hmk, rfl, hown, hot, hB⟩ := hrel
    clear hownW hbW
    by_cases hlt : k < l.length
    · obtain ⟨b, o, rfl, hbw, hg⟩ := (hs.below hB).po hlt
      have hltc : k < cs.length := by have := HLC.out; omega
      have hi := ht.2 k hlt hltc
      have hcl2 := hcl _ (List.getElem_mem hltc)
      have HT : Hid (cs.take (k + 1) = cs.take k ++ [cs[k]'hltc]) := Lib.hid (take_snoc cs k hltc)
      have hlk : (k : Int) < (l.length : Int) := by omega
      have hsz := hB.size
      obtain ⟨c, hc⟩ : ∃ c, (cs[k]'hltc) = c := ⟨_, rfl⟩
      rw [hc] at hi HT hcl2
      clear hc hs ht hcl
      have hge := hi.eq
      rw [hge] at hg
      clear hge
      obtain ⟨g0, g1, g2⟩ := hg
      simp only at g0 g1 g2
      have hsl := (hi.sl.below hB)
      clear hi
      generalize l[k].lg = cl at *
      generalize l[k].lgC = cc at *
      have hA := since_alloc hB (.cells #[.int .i64 c.ac, .int .i64 c.cl, .slice cl c.L.length cc] 133)
      have HD := Lib.hid (dup1_po c.ac c.cl cl cc c.L _ hcl2 (hsl.alloc (.cells #[.int .i64 c.ac, .int .i64 c.cl, .slice cl c.L.length cc] 133)))
      have hown1 := hown.alloc (.cells #[.int .i64 c.ac, .int .i64 c.cl, .slice cl c.L.length cc] 133)
      have hot1 := hot.below ((Below.refl wr.heap.size wr).alloc (Nat.le_refl _) (.cells #[.int .i64 c.ac, .int .i64 c.cl, .slice cl c.L.length cc] 133))
      have hm9 : m.length ≤ 900000 := by omega
      clear hown hot hsl
      go_wp2_with fail
      refine HD.out.mono ?_
      rintro e w1 ⟨⟨A1, c1, rfl, ownL⟩, hb1⟩
      have hB1 := since_step hA hb1
      have hown2 := own_below hown1 hb1
      have hot2 := hot1.below hb1
      have hsz1 := hB1.size
      have ownL := own_base ownL hA.size
      clear hown1 hot1 hb1
      go_wp2_with (first
        | (at_builtin; refine wpList_app rfl (.tmp 17) (.tmp 21) rfl EPo rfl rfl (hown2.alloc _) (m := 1) (news := (⟨c.ac, c.cl, A1, c.L.length, c1⟩ : Po).cells) rfl (Sl.new_ _ _ _) (Po.one _) (by unfold maxLen; omega) (by omega) (by simp only [World.size_alloc]; omega) ?_; intro A2 c2 w3 hown3 hg3 hb3)
        | fail)
      have hot3 := ((hot2.app (g := ⟨c.ac, c.cl, A1, c.L.length, c1⟩) (c := c) ⟨rfl, rfl, rfl, ownL⟩).below ((Below.refl w1.heap.size w1).alloc (Nat.le_refl _) (.cells (⟨c.ac, c.cl, A1, c.L.length, c1⟩ : Po).cells.toArray 133))).kept (hown2.alloc _) hg3
      go_roundw
      case rel =>
        refine ⟨k + 1, m ++ [⟨c.ac, c.cl, A1, c.L.length, c1⟩], A2, c2, by omega, by go_num, by simp; omega, by simp, ?_, ?_, (hB1.alloc hsz1 _).trans hb3⟩
        · rw [rc_append]; simpa [rc] using hown3
        · rw [HT.out]; exact hot3
      case measure => simp [intOf]; omega
    · have hkl : k = cs.length := by have := HLC.out; omega
      subst hkl
      rw [List.take_length] at hot
      have hge : ¬ ((cs.length : Int) < (l.length : Int)) := by have := HLC.out; omega
      clear hs ht hcl
      go_wp2_with fail
      go_ret
      exact ⟨⟨m, A', c', rfl, hown, hot⟩, hB⟩
set_option maxHeartbeats 1000000 in
set_option maxRecDepth 100000 in
theorem dups_po (A : Option Addr) (cap : Nat) (l : List Po) (cs : List Pc) (w : World) (hl : l.length ≤ 900000) (hcl : ∀ c ∈ cs, c.L.length ≤ 900000) (hs : Sl w A (rc Po.cells l)) (ht : PoTab w l cs) :
    Calls Try.prog 99 #[.slice A l.length cap] w fun e w' => DupResPo w w' e cs ∧ Below w.heap.size w w' := by
  go_enter Try.func99, Try.ntmps99
  go_wp2_with fail
  refine (each_po A cap l cs _ hl hcl hs ht).mono ?_
  rintro e w1 ⟨⟨m, A1, c1, rfl, h1, h2⟩, hb1⟩
  go_wp2_with fail
  go_ret
  exact ⟨⟨m, A1, c1, rfl, h1, h2⟩, hb1⟩
end Go.Proofs.Ytldnponbkhgijaa
end
section
namespace Go.Proofs.Ytldnponbkhgijaa
open Go.ChangeShapes Go.WideShapes Go.ChangeAt Go.RowKit
set_option linter.unusedVariables false
set_option linter.unusedSimpArgs false

structure Fw where
  (ac : Int) (cl : Int) (amt : Int)
deriving DecidableEq
def Fw.cells (g : Fw) : List Value := [.int .i64 g.ac, .int .i64 g.cl, .int .i64 g.amt]
def Fw.val (g : Fw) : Value := .agg #[.int .i64 g.ac, .int .i64 g.cl, .int .i64 g.amt]
def Fw.zero : Fw := ⟨0, 0, 0⟩
theorem Fw.len (g : Fw) : g.cells.length = 3 := rfl
theorem Fw.one (g : Fw) : ∀ u ∈ g.cells, u.oneCell' = true := by
  intro u hu
  simp only [Fw.cells, List.mem_cons, List.not_mem_nil, or_false] at hu
  rcases hu with h | h | h <;> subst h <;> rfl
def Fw.at (g : Fw) (w : World) (b o : Nat) : Prop :=
  w.cell? ⟨b, o, none⟩ = some (.int .i64 g.ac) ∧ w.cell? ⟨b, o + 1, none⟩ = some (.int .i64 g.cl) ∧ w.cell? ⟨b, o + 2, none⟩ = some (.int .i64 g.amt)
theorem Fw.at_of {w : World} {b o : Nat} {g : Fw} (h : ∀ j u, g.cells[j]? = some u → w.cell? ⟨b, o + j, none⟩ = some u) : g.at w b o :=
  ⟨h 0 _ rfl, h 1 _ rfl, h 2 _ rfl⟩
theorem Fw.at_keep {w w' : World} {b o : Nat} {g : Fw} (h : g.at w b o) (k : ∀ i, w'.cell? ⟨b, i, none⟩ = w.cell? ⟨b, i, none⟩) : g.at w' b o := by
  unfold Fw.at at *
  simp only [k]
  exact h
def Fw.Tells (F : Nat) (caps : Array Value) (p : Fw → Bool) (B : Nat) (w : World) : Prop :=
  ∀ (g : Fw) (W : World), Below B w W → Calls Try.prog F (#[g.val] ++ caps) W fun e w' => e = .returned (.bool (p g)) ∧ Below W.heap.size W w'
theorem Fw.Tells.below {F : Nat} {caps : Array Value} {p : Fw → Bool} {B : Nat} {w w1 : World} (h : Fw.Tells F caps p B w) (hb : Below B w w1) {C : Nat} (hC : B ≤ C) : Fw.Tells F caps p C w1 :=
  fun g W hW => h g W (hb.trans (hW.mono hC))
end Go.Proofs.Ytldnponbkhgijaa
end
section
namespace Go.Proofs.Ytldnponbkhgijaa
open Go.ChangeShapes Go.WideShapes Go.ChangeAt Go.RowKit
set_option linter.unusedVariables false
set_option linter.unusedSimpArgs false

def Fw.Df (p : Fw → Bool) (l : List Fw) (n c g B : Nat) (w : World) (i j : Value) (wr : World) : Prop :=
  ∃ (kk jj : Nat) (l' : List Fw), i = .int .i64 kk ∧ j = .int .i64 jj ∧ jj ≤ n ∧ kk < jj ∧ l'.length = n ∧ l'.take kk = (l.take jj).filter (fun g => !p g) ∧ (∀ t, jj ≤ t → l'[t]? = l[t]?) ∧
    wr.ownsRow B 48 3 (.slice (some ⟨g, 0, none⟩) n c) n (rc Fw.cells l') ∧ Below B w wr
end Go.Proofs.Ytldnponbkhgijaa
end
section
namespace Go.Proofs.Ytldnponbkhgijaa
open Go.ChangeShapes Go.WideShapes Go.ChangeAt Go.RowKit
set_option linter.unusedVariables false
set_option linter.unusedSimpArgs false

def Fw.Tells2 (F : Nat) (caps : Array Value) (ah : Fw → Fw → Bool) (B : Nat) (w : World) : Prop :=
  ∀ (a b : Fw) (W : World), Below B w W → Calls Try.prog F (#[a.val, b.val] ++ caps) W fun e w' => e = .returned (.bool (ah a b)) ∧ Below W.heap.size W w'
theorem Fw.Tells2.below {F : Nat} {caps : Array Value} {ah : Fw → Fw → Bool} {B : Nat} {w w1 : World} (h : Fw.Tells2 F caps ah B w) (hb : Below B w w1) {C : Nat} (hC : B ≤ C) : Fw.Tells2 F caps ah C w1 :=
  fun a b W hW => h a b W (hb.trans (hW.mono hC))
structure Fw.Bx (w : World) (b : Nat) (g : Fw) : Prop where
  lt : b < w.heap.size
  at_ : g.at w b 0
  hp : w.heap[b]? = some (.cells g.cells.toArray 48 (0, 0))
theorem Fw.Bx.new (w : World) (g : Fw) : Fw.Bx (w.alloc (.cells g.cells.toArray 48)) w.heap.size g := by
  have h := heap_alloc_new w (.cells g.cells.toArray 48 (0, 0))
  refine ⟨by simp, Fw.at_of fun j u hu => ?_, h⟩
  rw [Nat.zero_add, cell_of_row _ _ j g.cells.toArray 48 (0, 0) h]
  simpa using hu
theorem Fw.Bx.below {w w' : World} {b : Nat} {g : Fw} (h : Fw.Bx w b g) (hb : Below w.heap.size w w') : Fw.Bx w' b g :=
  ⟨Nat.lt_of_lt_of_le h.lt hb.size, Fw.at_keep h.at_ fun i => hb.cell (p := ⟨b, i, none⟩) h.lt, (hb.block b h.lt).trans h.hp⟩
theorem Fw.Bx.sl {w : World} {b : Nat} {g : Fw} (h : Fw.Bx w b g) : Sl w (some ⟨b, 0, none⟩) g.cells := by
  intro _
  refine ⟨b, 0, rfl, fun j u hu => ?_⟩
  rw [Nat.zero_add, cell_of_row _ _ j g.cells.toArray 48 (0, 0) h.hp]
  simpa using hu
theorem Fw.Bx.got {w : World} {b : Nat} {g : Fw} (h : Fw.Bx w b g) : w.cell? ⟨b, 0, none⟩ = some (.int .i64 g.ac) ∧ w.cell? ⟨b, 1, none⟩ = some (.int .i64 g.cl) ∧ w.cell? ⟨b, 2, none⟩ = some (.int .i64 g.amt) := by
  have := h.at_
  unfold Fw.at at this
  simpa only [Nat.zero_add] using this
end Go.Proofs.Ytldnponbkhgijaa
end
section
namespace Go.Proofs.Ytldnponbkhgijaa
open Go.ChangeShapes Go.WideShapes Go.ChangeAt Go.RowKit
set_option linter.unusedVariables false
set_option linter.unusedSimpArgs false

structure Un where
  (ac : Int) (cl : Int)
deriving DecidableEq
def Un.cells (g : Un) : List Value := [.int .i64 g.ac, .int .i64 g.cl]
def Un.val (g : Un) : Value := .agg #[.int .i64 g.ac, .int .i64 g.cl]
def Un.zero : Un := ⟨0, 0⟩
theorem Un.len (g : Un) : g.cells.length = 2 := rfl
theorem Un.one (g : Un) : ∀ u ∈ g.cells, u.oneCell' = true := by
  intro u hu
  simp only [Un.cells, List.mem_cons, List.not_mem_nil, or_false] at hu
  rcases hu with h | h <;> subst h <;> rfl
def Un.at (g : Un) (w : World) (b o : Nat) : Prop :=
  w.cell? ⟨b, o, none⟩ = some (.int .i64 g.ac) ∧ w.cell? ⟨b, o + 1, none⟩ = some (.int .i64 g.cl)
theorem Un.at_of {w : World} {b o : Nat} {g : Un} (h : ∀ j u, g.cells[j]? = some u → w.cell? ⟨b, o + j, none⟩ = some u) : g.at w b o :=
  ⟨h 0 _ rfl, h 1 _ rfl⟩
theorem Un.at_keep {w w' : World} {b o : Nat} {g : Un} (h : g.at w b o) (k : ∀ i, w'.cell? ⟨b, i, none⟩ = w.cell? ⟨b, i, none⟩) : g.at w' b o := by
  unfold Un.at at *
  simp only [k]
  exact h
def Un.Tells (F : Nat) (caps : Array Value) (p : Un → Bool) (B : Nat) (w : World) : Prop :=
  ∀ (g : Un) (W : World), Below B w W → Calls Try.prog F (#[g.val] ++ caps) W fun e w' => e = .returned (.bool (p g)) ∧ Below W.heap.size W w'
theorem Un.Tells.below {F : Nat} {caps : Array Value} {p : Un → Bool} {B : Nat} {w w1 : World} (h : Un.Tells F caps p B w) (hb : Below B w w1) {C : Nat} (hC : B ≤ C) : Un.Tells F caps p C w1 :=
  fun g W hW => h g W (hb.trans (hW.mono hC))
end Go.Proofs.Ytldnponbkhgijaa
end
section
namespace Go.Proofs.Ytldnponbkhgijaa
set_option linter.unusedVariables false

def hiN (x : Int) : Int := IntKind.i64.wrap (x / 18446744073709551616)
def loN (x : Int) : Int := x % 18446744073709551616
def topN (x : Int) : Int := IntKind.i64.wrap (x / 340282366920938463463374607431768211456)
def In128 (x : Int) : Prop := -170141183460469231731687303715884105728 ≤ x ∧ x ≤ 170141183460469231731687303715884105727
def In64 (x : Int) : Prop := -9223372036854775808 ≤ x ∧ x ≤ 9223372036854775807
def In192 (x : Int) : Prop := -3138550867693340381917894711603833208051177722232017256448 ≤ x ∧ x < 3138550867693340381917894711603833208051177722232017256448
instance (x : Int) : Decidable (In128 x) := by unfold In128; infer_instance
instance (x : Int) : Decidable (In64 x) := by unfold In64; infer_instance
theorem lo_nn (x : Int) : 0 ≤ loN x := by unfold loN; omega
theorem lo_lt (x : Int) : loN x < 18446744073709551616 := by unfold loN; omega
theorem uwrap_rng (x : Int) : 0 ≤ IntKind.u64.wrap x ∧ IntKind.u64.wrap x < 18446744073709551616 := by rw [IntKind.wrap_u64]; omega
theorem uhi (x : Int) : IntKind.u64.wrap (hiN x) = x / 18446744073709551616 % 18446744073709551616 := by
  unfold hiN
  rw [IntKind.wrap_i64, IntKind.wrap_u64]
  omega
theorem utop (x : Int) : IntKind.u64.wrap (topN x) = x / 340282366920938463463374607431768211456 % 18446744073709551616 := by
  unfold topN
  rw [IntKind.wrap_i64, IntKind.wrap_u64]
  omega
theorem plus_parts (x y s0 k0 s1 k1 s2 k2 : Int)
    (h0 : loN x + loN y + 0 = s0 + 18446744073709551616 * k0) (b0 : 0 ≤ s0 ∧ s0 < 18446744073709551616)
    (h1 : IntKind.u64.wrap (hiN x) + IntKind.u64.wrap (hiN y) + k0 = s1 + 18446744073709551616 * k1) (b1 : 0 ≤ s1 ∧ s1 < 18446744073709551616)
    (h2 : IntKind.u64.wrap (topN x) + IntKind.u64.wrap (topN y) + k1 = s2 + 18446744073709551616 * k2) (b2 : 0 ≤ s2 ∧ s2 < 18446744073709551616) :
    s0 = loN (x + y) ∧ IntKind.i64.wrap s1 = hiN (x + y) ∧ IntKind.i64.wrap s2 = topN (x + y) := by
  rw [uhi, uhi] at h1
  rw [utop, utop] at h2
  unfold loN at *
  unfold hiN topN
  have e0 : s0 = (x + y) % 18446744073709551616 := by omega
  have q0 : (x + y) / 18446744073709551616 = x / 18446744073709551616 + y / 18446744073709551616 + k0 := by omega
  have dx : x / 340282366920938463463374607431768211456 = x / 18446744073709551616 / 18446744073709551616 := by omega
  have dy : y / 340282366920938463463374607431768211456 = y / 18446744073709551616 / 18446744073709551616 := by omega
  have dz : (x + y) / 340282366920938463463374607431768211456 = (x + y) / 18446744073709551616 / 18446744073709551616 := by omega
  rw [dx, dy] at h2
  rw [dz, q0]
  generalize x / 18446744073709551616 = a at *
  generalize y / 18446744073709551616 = b at *
  have e1 : s1 = (a + b + k0) % 18446744073709551616 := by omega
  have q1 : (a + b + k0) / 18446744073709551616 = a / 18446744073709551616 + b / 18446744073709551616 + k1 := by omega
  refine ⟨e0, ?_, ?_⟩
  · rw [IntKind.wrap_i64, IntKind.wrap_i64, e1]; omega
  · rw [q1, IntKind.wrap_i64, IntKind.wrap_i64]
    have e2 : s2 = (a / 18446744073709551616 + b / 18446744073709551616 + k1) % 18446744073709551616 := by omega
    rw [e2]; omega
theorem minus_parts (x s0 k0 s1 k1 s2 k2 : Int)
    (h0 : 0 - loN x - 0 = s0 - 18446744073709551616 * k0) (b0 : 0 ≤ s0 ∧ s0 < 18446744073709551616)
    (h1 : 0 - IntKind.u64.wrap (hiN x) - k0 = s1 - 18446744073709551616 * k1) (b1 : 0 ≤ s1 ∧ s1 < 18446744073709551616)
    (h2 : 0 - IntKind.u64.wrap (topN x) - k1 = s2 - 18446744073709551616 * k2) (b2 : 0 ≤ s2 ∧ s2 < 18446744073709551616) :
    s0 = loN (-x) ∧ IntKind.i64.wrap s1 = hiN (-x) ∧ IntKind.i64.wrap s2 = topN (-x) := by
  rw [uhi] at h1
  rw [utop] at h2
  unfold loN at *
  unfold hiN topN
  have e0 : s0 = (-x) % 18446744073709551616 := by omega
  have q0 : (-x) / 18446744073709551616 = -(x / 18446744073709551616) - k0 := by omega
  have dx : x / 340282366920938463463374607431768211456 = x / 18446744073709551616 / 18446744073709551616 := by omega
  have dz : (-x) / 340282366920938463463374607431768211456 = (-x) / 18446744073709551616 / 18446744073709551616 := by omega
  rw [dx] at h2
  rw [dz, q0]
  generalize x / 18446744073709551616 = a at *
  have e1 : s1 = (-a - k0) % 18446744073709551616 := by omega
  have q1 : (-a - k0) / 18446744073709551616 = -(a / 18446744073709551616) - k1 := by omega
  refine ⟨e0, ?_, ?_⟩
  · rw [IntKind.wrap_i64, IntKind.wrap_i64, e1]; omega
  · rw [q1, IntKind.wrap_i64, IntKind.wrap_i64]
    have e2 : s2 = (-(a / 18446744073709551616) - k1) % 18446744073709551616 := by omega
    rw [e2]; omega
theorem hi_in {x : Int} (h : In128 x) : hiN x = x / 18446744073709551616 := by
  unfold hiN In128 at *
  rw [IntKind.wrap_i64]; omega
theorem top_in {x : Int} (h : In128 x) : topN x = hiN x / 9223372036854775808 := by
  rw [hi_in h]
  unfold topN In128 at *
  rw [IntKind.wrap_i64]; omega
theorem split_in {x : Int} (h : In128 x) : x = hiN x * 18446744073709551616 + loN x := by
  rw [hi_in h]; unfold loN; omega
theorem narrow_iff {x : Int} (h : In192 x) : topN x = hiN x / 9223372036854775808 ↔ In128 x := by
  constructor
  · intro e
    unfold topN hiN In192 In128 at *
    have dx : x / 340282366920938463463374607431768211456 = x / 18446744073709551616 / 18446744073709551616 := by omega
    have hb : -170141183460469231731687303715884105728 ≤ x / 18446744073709551616 ∧ x / 18446744073709551616 < 170141183460469231731687303715884105728 := by omega
    rw [dx] at e
    have : -9223372036854775808 ≤ x / 18446744073709551616 ∧ x / 18446744073709551616 ≤ 9223372036854775807 := by
      clear h dx
      generalize x / 18446744073709551616 = a at *
      rw [IntKind.wrap_i64, IntKind.wrap_i64] at e
      omega
    clear e
    omega
  · exact top_in
theorem parts_inj {x y : Int} (hx : In128 x) (hy : In128 y) (h : hiN x = hiN y) (l : loN x = loN y) : x = y := by
  rw [split_in hx, split_in hy, h, l]
theorem of_in (n : Int) (h : In64 n) : hiN n = n / 9223372036854775808 ∧ loN n = IntKind.u64.wrap n ∧ In128 n := by
  unfold In64 at h
  refine ⟨?_, ?_, ?_⟩
  · unfold hiN; rw [IntKind.wrap_i64]; omega
  · unfold loN; rw [IntKind.wrap_u64]
  · unfold In128; omega
theorem int_iff {x : Int} (h : In128 x) : hiN x = IntKind.i64.wrap (loN x) / 9223372036854775808 ↔ In64 x := by
  rw [hi_in h]
  unfold In128 In64 loN at *
  rw [IntKind.wrap_i64]
  omega
theorem int_lo {x : Int} (h : In64 x) : IntKind.i64.wrap (loN x) = x := by
  unfold In64 loN at *
  rw [IntKind.wrap_i64]; omega
theorem run_add64' {P : Program} {f : FuncId} {fn : Func} (hf : P.funcs[f]? = some fn) (hname : (fn.name == "runtime.NumGoroutine") = false)
    (hb : fn.body.isNone = true) (hn : Extern.findNext fn = none) (he : Extern.find fn = some add64Entry) (x y c : Int) (hx : 0 ≤ x ∧ x < 18446744073709551616) (hy : 0 ≤ y ∧ y < 18446744073709551616) (hc : 0 ≤ c ∧ c ≤ 1) :
    ∃ s k : Int, (∀ w, (callFunc f #[.int .u64 x, .int .u64 y, .int .u64 c]).run P w = .ok (.value (.tuple #[.int .u64 s, .int .u64 k])) w) ∧ x + y + c = s + 18446744073709551616 * k ∧ (0 ≤ s ∧ s < 18446744073709551616) ∧ (0 ≤ k ∧ k ≤ 1) := by
  refine ⟨(x + y + c) % 18446744073709551616, (x + y + c) / 18446744073709551616, fun w => ?_, by omega, by omega, by omega⟩
  rw [run_callFunc_extern hf hname hb hn he, run_add64 x y c hx.1 hy.1 hc.1 hc.2]
  rfl
def sub64Row : Array Value → Sem Value := fun args => do
  let (x, y, b) ← Extern.MathBitsCarry.three "Sub64" args
  pure (Extern.MathBitsCarry.pair ((x + Extern.MathBitsCarry.m64 - y - b) % Extern.MathBitsCarry.m64) (if x < y + b then 1 else 0))
theorem run_sub64' {P : Program} {f : FuncId} {fn : Func} (hf : P.funcs[f]? = some fn) (hname : (fn.name == "runtime.NumGoroutine") = false)
    (hb : fn.body.isNone = true) (hn : Extern.findNext fn = none) (he : Extern.find fn = some sub64Row) (x y c : Int) (hx : 0 ≤ x ∧ x < 18446744073709551616) (hy : 0 ≤ y ∧ y < 18446744073709551616) (hc : 0 ≤ c ∧ c ≤ 1) :
    ∃ s k : Int, (∀ w, (callFunc f #[.int .u64 x, .int .u64 y, .int .u64 c]).run P w = .ok (.value (.tuple #[.int .u64 s, .int .u64 k])) w) ∧ x - y - c = s - 18446744073709551616 * k ∧ (0 ≤ s ∧ s < 18446744073709551616) ∧ (0 ≤ k ∧ k ≤ 1) := by
  obtain ⟨a, rfl⟩ := Int.eq_ofNat_of_zero_le hx.1
  obtain ⟨b, rfl⟩ := Int.eq_ofNat_of_zero_le hy.1
  obtain ⟨k, rfl⟩ := Int.eq_ofNat_of_zero_le hc.1
  refine ⟨(((a + 18446744073709551616 - b - k) % 18446744073709551616 : Nat) : Int), ((if a < b + k then 1 else 0 : Nat) : Int), fun w => ?_, ?_, by omega, by split <;> omega⟩
  · rw [run_callFunc_extern hf hname hb hn he]
    have hk : k = 0 ∨ k = 1 := by omega
    rcases hk with rfl | rfl <;> rfl
  · split <;> omega
end Go.Proofs.Ytldnponbkhgijaa
end
